/-
 Joined texts: R7,VlA,VlB,VlC,VlD,VlE,VlF,VlG,VlH,LgM,LgA,LgBa,LgB,LgC,LgD,LgE,LgF,LgG,LgH,LgI,LgJ.
-/
import Derived.OwnWalk
import Derived.Laws.OwnMore
import Derived.Deep.AppendLies
import Derived.Deep.DrawnRows
import Derived.BigQuiet
import Derived.Deep.DeepCutAuto
import Derived.Lib.UnsafeStr
import Derived.Lib.Builder
import Derived.Lib.AppendStr
import Derived.RangeFuncNested
import Derived.RangeFuncBound
import Derived.RangeFuncCalls
import Derived.RangeFuncLeaves
import Derived.OrdersIn
import Derived.Shelf.Abstract
import Derived.Shelf.RegionOpen
import Derived.WalkKit
import Derived.OwnWalkIn
import Derived.TacticsInMore
import Derived.LoopNIn
import Derived.LoopIn
import Derived.Test.YtoncclhbdkjhmaaGreatDoorJFactsAre1
set_option maxHeartbeats 32000000
namespace Go.Proofs.YtoncclhbdkjhmaaGreatDoor
open Go.RowKit
set_option maxRecDepth 100000
namespace R7
structure Priv (g:Nat) (w w':World):Prop where
 os:w'.os=w.os
 tape:w'.tape=w.tape
 output:w'.output=w.output
 size:w.heap.size<=w'.heap.size
 block:∀ k,k<w.heap.size->k≠g->w'.heap[k]?=w.heap[k]?
abbrev Fact:=(Nat->Value)->Value->World->Prop
def mask (L:List Nat) (x:Nat->Value):Nat->Value:=fun j=>if L.contains j then x j else undef
theorem mask_in {L:List Nat} {x:Nat->Value} {j:Nat} (h:L.contains j=true):mask L x j=x j:=by
 unfold mask;rw[if_pos h]
def upd (x:Nat->Value) (k:Nat) (v:Value):Nat->Value:=fun j=>if j=k then v else x j
theorem upd_same (x:Nat->Value) (k:Nat) (v:Value):upd x k v k=v:=if_pos rfl
theorem upd_ne (x:Nat->Value) {k j:Nat} (v:Value) (h:j≠k):upd x k v j=x j:=if_neg h
theorem mask_upd {L:List Nat} {x:Nat->Value} {k:Nat} (v:Value) (h:L.contains k=false):mask L (upd x k v)=mask L x:=by
 funext j
 unfold mask
 by_cases hj:L.contains j=true
 ·rw[if_pos hj,if_pos hj,upd_ne];intro e;subst e;rw[h] at hj;cases hj
 rw[if_neg hj,if_neg hj]
def dstOf (ops:List Oper) (j:Nat):Option Tmp:=(ops[j]?).bind (·.dst)
def dep (D:List (List Nat)) (k:Nat):List Nat:=D.getD k []
def ok (ops:List Oper) (D:List (List Nat)) (m size:Nat):Bool:=
 decide (m<=ops.length) && (List.range ops.length).all fun k =>
  match ops[k]? with
  | none=>false
  | some o =>
   (o.after.all fun e=>!Region.binds .any e || decide (e.on<k)) &&
   ((dep D k).all fun j=>(o.after.any fun e=>Region.binds .any e && (e.on==j || (dep D e.on).contains j)) && ((dep D j).all fun i=>(dep D k).contains i) && decide (j<k)) &&
   (decide (k<m) || (List.range m).all fun j=>(dep D k).contains j) &&
   (match o.dst with | none=>true | some d=>decide (d<size) && (List.range k).all fun j=>dstOf ops j != some d)
def okSt (ops:List Oper) (D:List (List Nat)) (al:List Nat) (st:List (Nat × Nat)) (nq:Nat):Bool:=
 (List.range ops.length).all fun k=>match st.lookup k with
  | none=>true
  | some i=>(if i<1000 then (dep D k).contains i && al.contains i else decide (i - 1000<nq)) && (List.range ops.length).all fun j=>j==k || st.lookup j != some i
def pre (ops:List Oper) (D:List (List Nat)) (k t:Nat):Bool:=
 (List.range ops.length).all fun j=>dstOf ops j != some t || j==k || (dep D j).contains k
def fill:List Oper->(Nat->Value)->Nat->Array Value->Array Value
 | [],_,_,t=>t
 | o::l,x,k,t=>fill l x (k+1) (match o.dst with | some d=>t.setIfInBounds d (x k) | none=>t)
theorem fill_eq:∀ (l:List Oper) (x:Nat->Value) (k:Nat) (t T:Array Value),T.size=t.size ->
  (∀ j d,dstOf l j=some d->T[d]?=some (x (k+j)))->(∀ s,(∀ j,dstOf l j≠some s)->T[s]?=t[s]?)->fill l x k t=T
 | [],x,k,t,T,hs,_,hp=>by
  refine Array.ext_getElem? (fun i=>?_);rw[hp i (fun j=>by simp[dstOf])]
  rfl
 | o::l,x,k,t,T,hs,hd,hp=>by
  have hd':∀ j d,dstOf l j=some d->T[d]?=some (x (k+1+j)):=fun j d h=>by
   rw[hd (j+1) d (by simpa [dstOf] using h),Nat.add_right_comm,Nat.add_assoc]
  unfold fill
  cases ho:o.dst with
  | none =>
   refine fill_eq l x (k+1) t T hs hd' (fun s h=>hp s (fun j=>?_))
   cases j with
   | zero=>simp[dstOf,ho]
   | succ j=>simpa [dstOf] using h j
  | some d =>
   have h0:T[d]?=some (x k):=hd 0 d (by simp[dstOf,ho]);have hlt:d<t.size:=by rw[<-hs];exact (Array.getElem?_eq_some_iff.1 h0).1
   refine fill_eq l x (k+1) _ T (by simpa using hs) hd' (fun s h=>?_)
   by_cases e:d=s
   ·subst e;rw[h0]
    simp[hlt]
   rw[Array.getElem?_setIfInBounds_ne e];refine hp s (fun j=>?_)
   cases j with
   | zero=>simp[dstOf,ho,e]
   | succ j=>simpa [dstOf] using h j
def noQ:Exit->Act->World->Prop:=fun _ _ _=>False
def fact (F:List Fact) (j:Nat):Fact:=(F.reverse[j]?).getD fun _ _ _=>True
section
variable (P:Program) (ops:List Oper) (D:List (List Nat)) (al:List Nat) (st:List (Nat × Nat)) (og:Nat->Nat) (nq:Nat) (t0:Array Value) (ds:List Deferred) (w0:World)
def own (k:Nat):Option Nat:=st.lookup k
def tv (x:Nat->Value) (i:Nat):Value:=if i<1000 then x i else .pointer (some ⟨og (i - 1000),0,none⟩)
structure At (F:Nat->Fact) (k:Nat) (T:Array Value) (x:Nat->Value) (w:World):Prop where
 be:∀ B,B<=w0.heap.size->(∀ q,q<nq->B<=og q)->Below B w0 w
 bl:∀ b,b<w0.heap.size->(∀ q,q<nq->og q≠b)->w.heap[b]?=w0.heap[b]?
 od:∀ q,q<nq->(∀ k',own st k'=some (1000+q)->k'=k\/(dep D k').contains k=true)->w.heap[og q]?=w0.heap[og q]?
 tm:∀ j d,(dep D k).contains j=true->dstOf ops j=some d->T[d]?=some (x j)
 fa:∀ j,(dep D k).contains j=true->F j (mask (dep D j) x) (x j) w
 pre:∀ t,R7.pre ops D k t=true->T[t]?=t0[t]?
structure Next (V:Fact) (k:Nat) (x:Nat->Value) (w:World) (v:Value) (w':World):Prop where
 is:V x v w'
 bw:own st k=none->Below w.heap.size w w'
 pv:∀ i,own st k=some i->∃ g,tv og x i=.pointer (some ⟨g,0,none⟩)/\Priv g w w'
 al:al.contains k=true->∃ g,v=.pointer (some ⟨g,0,none⟩)/\w.heap.size<=g/\g<w'.heap.size
def Runs (F:Nat->Fact) (k:Nat) (o:Oper) (V:Fact):Prop:=
 ∀ (T:Array Value) (x:Nat->Value) (w:World),At ops D st og nq t0 w0 F k T x w ->
  ∀ K:Act->World->Prop,Hid (∀ v w',Next al st og V k x w v w'->K ((⟨T,ds⟩:Act).put o.dst v) w') ->
   if Region.wanted o (yielded ops.toArray T)=true then o.wp P ⟨T,ds⟩ w K noQ else K ((⟨T,ds⟩:Act).put o.dst undef) w
def Stays (k:Nat) (V:Fact):Prop:=(∀ x v w w',V x v w->Below w.heap.size w w'->V x v w')/\(st ≠ []->∀ x v w w' g,V x v w->(∀ i,own st k=some i->tv og x i ≠ .pointer (some ⟨g,0,none⟩))->(∃ q,q<nq/\g=og q)->Priv g w w'->V x v w')
def Left (F:Nat->Fact) (m:Nat) (x:Nat->Value) (w:World):Prop:=
 ((∀ B,B<=w0.heap.size->(∀ q,q<nq->B<=og q)->Below B w0 w)/\(∀ b,b<w0.heap.size->(∀ q,q<nq->og q≠b)->w.heap[b]?=w0.heap[b]?) )/\(∀ j,j<m->F j (mask (dep D j) x) (x j) w) /\
 (∀ i,al.contains i=true->i<m->∃ g,x i=.pointer (some ⟨g,0,none⟩)/\w0.heap.size<=g/\g<w.heap.size) /\
 (∀ i j,al.contains i=true->al.contains j=true->i<m->j<m->i≠j->x i≠x j)
def Chain (m:Nat) (G:(Nat->Value)->World->Prop):List Oper->Nat->List Fact->Prop
 | [],k,F=>k=m/\∀ x w,Left D al og nq w0 (fact F) m x w->G x w
 | o::rest,k,F=>(k=m/\∀ x w,Left D al og nq w0 (fact F) m x w->G x w) \/
  ∃ V,Stays st og nq k V/\Runs P ops D al st og nq t0 ds w0 (fact F) k o V/\Chain m G rest (k+1) (V::F)
variable {P ops D al st og nq t0 ds w0}
theorem Chain.done {m:Nat} {G:(Nat->Value)->World->Prop} {l:List Oper} {F:List Fact} (h:∀ x w,Left D al og nq w0 (fact F) m x w->G x w):Chain P ops D al st og nq t0 ds w0 m G l m F:=by
 cases l with
 | nil=>exact⟨rfl,h⟩
 | cons o l=>exact Or.inl ⟨rfl,h⟩
theorem Chain.step {m k:Nat} {G:(Nat->Value)->World->Prop} {o:Oper} {l:List Oper} {F:List Fact} (V:Fact) (hs:Stays st og nq k V) (hr:Runs P ops D al st og nq t0 ds w0 (fact F) k o V)
  (h:Chain P ops D al st og nq t0 ds w0 m G l (k+1) (V::F)):Chain P ops D al st og nq t0 ds w0 m G (o::l) k F:=Or.inr ⟨V,hs,hr,h⟩
def plain (al:List Nat) (st:List (Nat × Nat)) (k:Nat):Bool:=!al.contains k && (own st k).isNone
theorem Next.plain {V:Fact} {k:Nat} {x:Nat->Value} {w:World} {v:Value} {w':World} (hp:plain al st k=true) (h:V x v w') (hb:Below w.heap.size w w'):Next al st og V k x w v w':=by
 unfold R7.plain at hp;simp only[Bool.and_eq_true,Bool.not_eq_true',Option.isNone_iff_eq_none] at hp;exact⟨h,fun _=>hb,fun i hi=>(by rw[hp.2] at hi;cases hi),fun e=>(by rw[hp.1] at e;cases e)⟩
theorem Chain.det {m k:Nat} {G:(Nat->Value)->World->Prop} {o:Oper} {l:List Oper} {F:List Fact} (f:(Nat->Value)->Value) (hp:plain al st k=true)
  (hr:∀ (T:Array Value) (x:Nat->Value) (w:World),At ops D st og nq t0 w0 (fact F) k T x w->Region.wanted o (yielded ops.toArray T)=true/\(execOp (Act.eval ⟨T,ds⟩) o).run P w=.ok (.value (f x)) w)
  (h:Chain P ops D al st og nq t0 ds w0 m G l (k+1) ((fun x v _=>v=f x)::F)):Chain P ops D al st og nq t0 ds w0 m G (o::l) k F:=by
 refine Chain.step (fun x v _=>v=f x) ⟨fun _ _ _ _ e _=>e,fun _ _ _ _ _ _ e _ _ _=>e⟩ (fun T x w hA K hK=>?_) h;obtain⟨hw,he⟩:=hr T x w hA;rw[if_pos hw];unfold Oper.wp;rw[he];exact hK.out _ _ (Next.plain hp rfl (Below.refl _ _))
theorem Chain.skip {m k:Nat} {G:(Nat->Value)->World->Prop} {o:Oper} {l:List Oper} {F:List Fact} (hp:plain al st k=true)
  (hr:∀ (T:Array Value) (x:Nat->Value) (w:World),At ops D st og nq t0 w0 (fact F) k T x w->Region.wanted o (yielded ops.toArray T)=false)
  (h:Chain P ops D al st og nq t0 ds w0 m G l (k+1) ((fun _ v _=>v=undef)::F)):Chain P ops D al st og nq t0 ds w0 m G (o::l) k F:=by
 refine Chain.step (fun _ v _=>v=undef) ⟨fun _ _ _ _ e _=>e,fun _ _ _ _ _ _ e _ _ _=>e⟩ (fun T x w hA K hK=>?_) h;rw[if_neg (by rw[hr T x w hA];exact Bool.noConfusion)];exact hK.out _ _ (Next.plain hp rfl (Below.refl _ _))
theorem Chain.call {m k:Nat} {G:(Nat->Value)->World->Prop} {o:Oper} {l:List Oper} {F:List Fact} (V:Fact) (hs:∀ x v w w',V x v w->Below w.heap.size w w'->V x v w') (hs2:∀ x v w w' g,V x v w->(∃ q,q<nq/\g=og q)->Priv g w w'->V x v w') (hp:plain al st k=true)
  (hr:∀ (T:Array Value) (x:Nat->Value) (w:World),At ops D st og nq t0 w0 (fact F) k T x w->Region.wanted o (yielded ops.toArray T)=true /\
   ∀ K:Act->World->Prop,Hid (∀ v w',V x v w'->Below w.heap.size w w'->K ((⟨T,ds⟩:Act).put o.dst v) w')->o.wp P ⟨T,ds⟩ w K noQ)
  (h:Chain P ops D al st og nq t0 ds w0 m G l (k+1) (V::F)):Chain P ops D al st og nq t0 ds w0 m G (o::l) k F:=by
 refine Chain.step V ⟨hs,fun _ x v w w' g h _ hq hp=>hs2 x v w w' g h hq hp⟩ (fun T x w hA K hK=>?_) h;obtain⟨hw,he⟩:=hr T x w hA;rw[if_pos hw];exact he K fun v w' hv hb=>hK.out v w' (Next.plain hp hv hb)
theorem own_one {st:List (Nat × Nat)} {i k:Nat} (h:(st.all fun p=>p.2 != i || p.1==k)=true):∀ k',own st k'=some i->k'=k:=by
 intro k' hk;unfold own at hk;rw[List.all_eq_true] at h
 have:∀ (l:List (Nat × Nat)),(∀ p ∈ l,(p.2 != i || p.1==k)=true)->l.lookup k'=some i->k'=k:=by
  intro l
  induction l with
  | nil=>intro _ h;cases h
  | cons p l ih =>
   intro hp hl;obtain⟨a,b⟩:=p;rw[List.lookup_cons] at hl
   split at hl
   ·rename_i he
    injection hl with hl;have h1:=hp (a,b) (List.mem_cons_self ..);simp only[Bool.or_eq_true,bne_iff_ne,ne_eq,beq_iff_eq] at h1;rw[beq_iff_eq] at he;rcases h1 with h1 | h1
    ·exact absurd hl h1
    exact he.trans h1
   exact ih (fun p hp'=>hp p (List.mem_cons_of_mem _ hp')) hl
 exact this st h hk
theorem fact_lt {V:Fact} {F:List Fact} {j:Nat} (h:j<F.length):fact (V::F) j=fact F j:=by
 unfold fact;rw[List.reverse_cons,List.getElem?_append_left (by simpa using h)]
theorem fact_len {V:Fact} {F:List Fact}:fact (V::F) F.length=V:=by
 unfold fact;rw[List.reverse_cons,List.getElem?_append_right (by simp)]
 simp
theorem At.congr {F F':Nat->Fact} {k:Nat} {T:Array Value} {x:Nat->Value} {w:World} (h:At ops D st og nq t0 w0 F k T x w) (e:∀ j,(dep D k).contains j=true->F j=F' j):At ops D st og nq t0 w0 F' k T x w:=
 ⟨h.be,h.bl,h.od,h.tm,fun j hj=>by rw[<-e j hj];exact h.fa j hj,h.pre⟩
theorem Chain.all {m:Nat} {G:(Nat->Value)->World->Prop} (hlt:∀ k j,k<m->(dep D k).contains j=true->j<k):∀ (l:List Oper) (k:Nat) (F:List Fact),F.length=k->k<=m->(∀ j,l[j]?=ops[k+j]?) ->
  Chain P ops D al st og nq t0 ds w0 m G l k F->∃ H:Nat->Fact,(∀ j,j<k->H j=fact F j) /\
   (∀ j,k<=j->j<m->Stays st og nq j (H j)/\∃ o,ops[j]?=some o/\Runs P ops D al st og nq t0 ds w0 H j o (H j))/\∀ x w,Left D al og nq w0 H m x w->G x w:=by
 intro l
 induction l with
 | nil=>intro k F hF hk hl h;exact⟨fact F,fun _ _=>rfl,fun j h1 h2=>by have:=h.1;omega,h.2⟩
 | cons o l ih =>
  intro k F hF hk hl h;rcases h with ⟨rfl,h⟩ | ⟨V,hs,hr,h⟩
  ·exact⟨fact F,fun _ _=>rfl,fun j h1 h2=>by omega,h⟩
  by_cases hkm:k<m
  ·obtain⟨H,h1,h2,h3⟩:=ih (k+1) (V::F) (by simp[hF]) hkm (fun j=>by have:=hl (j+1);simp at this;rw[this,Nat.add_right_comm,Nat.add_assoc]) h;refine⟨H,fun j hj=>by rw[h1 j (by omega),fact_lt (by omega)],fun j hj hjm=>?_,h3⟩;rcases Nat.lt_or_ge k j with hkj | hkj
   ·exact h2 j hkj hjm
   obtain rfl:j=k:=by omega
   have hH:H j=V:=by rw[h1 j (by omega),<-hF,fact_len]
   refine⟨by rw[hH];exact hs,o,by have:=hl 0;simpa using this.symm,?_⟩;rw[hH];intro T x w hA;exact hr T x w (hA.congr (fun i hi=>by have:=hlt j i hkm hi;rw[h1 i (by omega),fact_lt (by omega)]))
  obtain rfl:k=m:=by omega
  have hl0:∀ (l:List Oper) (k':Nat) (F:List Fact),k<k'->¬ Chain P ops D al st og nq t0 ds w0 k G l k' F:=by
   intro l
   induction l with
   | nil=>intro k' F hk' h;have:=h.1;omega
   | cons o l ih=>intro k' F hk' h;rcases h with ⟨e,_⟩ | ⟨_,_,_,h⟩;(omega);exact ih _ _ (by omega) h
  exact absurd h (hl0 _ _ _ (by omega))
theorem Oper.wp_noQ {o:Oper} {a:Act} {w:World} {K:Act->World->Prop} {Q:Exit->Act->World->Prop} (h:o.wp P a w K noQ):o.wp P a w K Q:=by
 unfold Oper.wp at *;generalize (execOp a.eval o).run P w=r at *
 cases r with
 | ok n w' =>
  cases n<;>simp only[Oper.upon] at h ⊢ <;>
   first
    | exact h
    | exact Calls.mono h (fun e w'' he=>by
      cases e with
      | returned v=>exact he
      | panicked c=>exact False.elim he
      | outgrown=>obtain⟨_,_,hh⟩:=he;exact False.elim hh)
 | halt x w'=>cases x<;>simp only[Oper.upon] at h ⊢<;>exact False.elim h
structure Inv (H:Nat->Fact) (m:Nat) (listed:Array Bool) (a:Act) (w:World) (x:Nat->Value):Prop where
 tm:∀ j d,listed.getD j false=true->dstOf ops j=some d->a.tmps[d]?=some (x j)
 pre:∀ t,(∀ j,listed.getD j false=true->dstOf ops j≠some t)->a.tmps[t]?=t0[t]?
 sz:a.tmps.size=t0.size
 df:a.defers=ds
 be:∀ B,B<=w0.heap.size->(∀ q,q<nq->B<=og q)->Below B w0 w
 bl:∀ b,b<w0.heap.size->(∀ q,q<nq->og q≠b)->w.heap[b]?=w0.heap[b]?
 od:∀ q,q<nq->(∀ k',listed.getD k' false=true->own st k'≠some (1000+q))->w.heap[og q]?=w0.heap[og q]?
 sw:w0.heap.size<=w.heap.size
 ls:listed.size=ops.length
 dn:∀ j,listed.getD j false=true->∀ i,(dep D j).contains i=true->listed.getD i false=true
 lt:∀ j,listed.getD j false=true->j<m
 fa:∀ j,listed.getD j false=true->H j (mask (dep D j) x) (x j) w
 pt:∀ i,al.contains i=true->listed.getD i false=true->∃ g,x i=.pointer (some ⟨g,0,none⟩)/\w0.heap.size<=g/\g<w.heap.size
 ne:∀ i j,al.contains i=true->al.contains j=true->listed.getD i false=true->listed.getD j false=true->i≠j->x i≠x j
section
variable {m size:Nat} (hok:ok ops D m size=true)
include hok
theorem ok_len:m<=ops.length:=by
 unfold ok at hok;simp only[Bool.and_eq_true,decide_eq_true_eq] at hok;exact hok.1
theorem ok_at {k:Nat} {o:Oper} (ho:ops[k]?=some o) :
  (∀ e ∈ o.after,Region.binds .any e=true->e.on<k) /\
  (∀ j,(dep D k).contains j=true->(∃ e ∈ o.after,Region.binds .any e=true/\(e.on=j\/(dep D e.on).contains j=true))/\(∀ i,(dep D j).contains i=true->(dep D k).contains i=true)/\j<k) /\
  (k<m\/∀ j,j<m->(dep D k).contains j=true) /\
  (∀ d,o.dst=some d->d<size/\∀ j,j<k->dstOf ops j≠some d):=by
 unfold ok at hok;simp only[Bool.and_eq_true,decide_eq_true_eq,List.all_eq_true,List.mem_range] at hok;have h:=hok.2 k (List.getElem?_eq_some_iff.1 ho).1;rw[ho] at h;simp only[Bool.and_eq_true,Bool.or_eq_true,Bool.not_eq_true',decide_eq_true_eq,List.all_eq_true,List.mem_range,Array.all_eq_true_iff_forall_mem] at h;obtain⟨⟨⟨h1,h2⟩,h3⟩,h4⟩:=h;refine⟨fun e he hb=>(h1 e he).resolve_left (by rw[hb];exact Bool.noConfusion),fun j hj=>?_,h3,fun d hd=>?_⟩
 ·obtain⟨⟨h5,h6⟩,h7⟩:=h2 j (by simpa using hj);obtain⟨e,he,hb⟩:=Array.any_eq_true'.1 h5;simp only[Bool.and_eq_true,Bool.or_eq_true,beq_iff_eq] at hb;exact⟨⟨e,he,hb.1,hb.2⟩,fun i hi=>h6 i (by simpa using hi),h7⟩
 rw[hd] at h4;simp only[Bool.and_eq_true,decide_eq_true_eq,List.all_eq_true,List.mem_range,bne_iff_ne,ne_eq] at h4;exact h4
theorem ok_lt {k j:Nat} (h:(dep D k).contains j=true) (hk:k<ops.length):j<k:=((ok_at hok (List.getElem?_eq_getElem hk)).2.1 j h).2.2
end
theorem okSt_at (h:okSt ops D al st nq=true) {k:Nat} (hk:k<ops.length):∀ i,own st k=some i->(i<1000->(dep D k).contains i=true/\al.contains i=true)/\(¬ i<1000->i - 1000<nq)/\∀ j,j<ops.length->j≠k->own st j≠some i:=by
 intro i hi;unfold okSt at h;rw[List.all_eq_true] at h;have h1:=h k (List.mem_range.2 hk);unfold own at hi;rw[hi] at h1;simp only[Bool.and_eq_true,List.all_eq_true,List.mem_range,Bool.or_eq_true,beq_iff_eq,bne_iff_ne,ne_eq] at h1;refine⟨fun h2=>?_,fun h2=>?_,fun j hj hjk=>(h1.2 j hj).resolve_left hjk⟩
 ·have h3:=h1.1;rw[if_pos h2] at h3
  simpa using h3
 have h3:=h1.1;rw[if_neg h2] at h3
 simpa using h3
theorem tv_mask {L:List Nat} {x:Nat->Value} {i:Nat} (h:i<1000->L.contains i=true):tv og (mask L x) i=tv og x i:=by
 unfold tv
 split
 ·rename_i hi;exact mask_in (h hi)
 rfl
theorem getD_set {l:Array Bool} {i j:Nat} (h:i<l.size):(l.setIfInBounds i true).getD j false=(decide (j=i) || l.getD j false):=by
 by_cases e:i=j
 ·subst e;simp[h]
 rw[getD_set_ne false e]
 simp[show ¬ j=i from fun x=>e x.symm]
theorem count_false {l:List Bool} {i:Nat} (h:l[i]?=some false):(l.set i true).count false+1=l.count false:=by
 obtain⟨hi,hv⟩:=List.getElem?_eq_some_iff.1 h;rw[List.count_set hi,hv];have:0<l.count false:=List.count_pos_iff.2 (hv ▸ List.getElem_mem hi)
 simp
 omega
section
variable {m:Nat} {Q:Exit->Act->World->Prop} {H:Nat->Fact}
theorem Inv.step (hok:ok ops D m t0.size=true) (hoks:okSt ops D al st nq=true) (h1000:∀ k i,own st k=some i->¬ i<1000) (hog:∀ q,q<nq->og q<w0.heap.size) (hod:∀ q q',q<nq->q'<nq->q≠q'->og q≠og q') (hst:∀ j,j<m->Stays st og nq j (H j)) {listed:Array Bool} {a:Act} {w:World} {x:Nat->Value} (I:Inv (ops:=ops) (D:=D) (al:=al) (st:=st) (og:=og) (nq:=nq) (t0:=t0) (ds:=ds) (w0:=w0) H m listed a w x)
  {k:Nat} {o:Oper} (ho:ops[k]?=some o) (hkm:k<m) (hun:listed.getD k false=false) (hdep:∀ j,(dep D k).contains j=true->listed.getD j false=true) {v:Value} {w':World}
  (hN:Next al st og (H k) k (mask (dep D k) x) w v w'):Inv (ops:=ops) (D:=D) (al:=al) (st:=st) (og:=og) (nq:=nq) (t0:=t0) (ds:=ds) (w0:=w0) H m (listed.setIfInBounds k true) (a.put o.dst v) w' (upd x k v):=by
 have hkl:k<ops.length:=(List.getElem?_eq_some_iff.1 ho).1;have hks:k<listed.size:=by rw[I.ls];exact hkl
 obtain⟨c1,c2,c3,c4⟩:=ok_at hok ho;have hdk:dstOf ops k=o.dst:=by simp[dstOf,ho]
 have hsp:=okSt_at hoks hkl
 -- where operation k stores
 have hpv:∀ i,own st k=some i->∃ g,tv og x i=.pointer (some ⟨g,0,none⟩)/\Priv g w w'/\((i<1000/\w0.heap.size<=g)\/(¬ i<1000/\i - 1000<nq/\g=og (i - 1000))):=by
  intro i ho';obtain⟨g,hg,hp⟩:=hN.pv i ho';obtain⟨h1,h2,h3⟩:=hsp i ho';rw[tv_mask (fun h=>(h1 h).1)] at hg;refine⟨g,hg,hp,?_⟩
  by_cases hi:i<1000
  ·obtain⟨g',e,h4,h5⟩:=I.pt i (h1 hi).2 (hdep i (h1 hi).1);unfold tv at hg;rw[if_pos hi] at hg;rw[hg] at e;injection e with e;injection e with e;injection e with e;subst e;exact Or.inl ⟨hi,h4⟩
  unfold tv at hg;rw[if_neg hi] at hg;injection hg with e;injection e with e;injection e with e;exact Or.inr ⟨hi,h2 hi,e.symm⟩
 have hsw:w.heap.size<=w'.heap.size:=by
  cases ho':own st k with
  | none=>exact (hN.bw ho').size
  | some i=>obtain⟨g,hg,hp,_⟩:=hpv i ho';exact hp.size
 have hbe:∀ B,B<=w0.heap.size->(∀ q,q<nq->B<=og q)->Below B w0 w':=fun B hB hq=>by
  refine (I.be B hB hq).trans ?_
  cases ho':own st k with
  | none=>exact (hN.bw ho').mono (by have:=I.sw;omega)
  | some i =>
   obtain⟨g,hg,hp,hc⟩:=hpv i ho';refine⟨hp.os,hp.tape,hp.output,hsw,fun q hqB=>hp.block q (by have:=I.sw;omega) ?_⟩;rcases hc with ⟨_,hc⟩ | ⟨_,h1,hc⟩
   ·omega
   have:=hq _ h1;omega
 have hbl:∀ b,b<w0.heap.size->(∀ q,q<nq->og q≠b)->w'.heap[b]?=w0.heap[b]?:=fun b hb hq=>by
  rw[<-I.bl b hb hq]
  cases ho':own st k with
  | none=>exact (hN.bw ho').block b (by have:=I.sw;omega)
  | some i =>
   obtain⟨g,hg,hp,hc⟩:=hpv i ho';refine hp.block b (by have:=I.sw;omega) ?_;rcases hc with ⟨_,hc⟩ | ⟨_,h1,hc⟩
   ·omega
   rw[hc];exact fun e=>hq _ h1 e.symm
 have hne:∀ j,listed.getD j false=true->j≠k:=fun j hj e=>by subst e;rw[hun] at hj;cases hj
 have hset:∀ j,(listed.setIfInBounds k true).getD j false=true->j=k\/listed.getD j false=true:=fun j hj=>by
  rw[getD_set hks] at hj;simpa using hj
 have hput:(a.put o.dst v).tmps=match o.dst with | some d=>a.tmps.setIfInBounds d v | none=>a.tmps:=by cases o.dst<;>rfl
 have hself:(dep D k).contains k=false:=by
  cases h:(dep D k).contains k with
  | false=>rfl
  | true=>have:=(c2 k h).2.2;omega
 -- two operations write two slots
 have hds:∀ j d,dstOf ops j=some d->o.dst=some d->j=k:=fun j d h1 h2=>by
  rcases Nat.lt_trichotomy j k with h | h | h
  ·exact absurd h1 ((c4 d h2).2 j h)
  ·exact h
  cases hoj:ops[j]? with
  | none=>simp[dstOf,hoj] at h1
  | some oj=>exact absurd (hdk.trans h2) (((ok_at hok hoj).2.2.2 d (by simpa [dstOf,hoj] using h1)).2 k h)
 refine⟨fun j d hj hd=>?_,fun t ht=>?_,?_,?_,hbe,hbl,fun q hq hl=>?_,Nat.le_trans I.sw hsw,by simpa using I.ls,fun j hj i hi=>?_,fun j hj=>?_,fun j hj=>?_,fun i hi hl=>?_,fun i j hi hj hli hlj hij=>?_⟩
 ·rw[hput];rcases hset j hj with rfl | hj'
  ·rw[hdk] at hd;rw[hd,upd_same];have:=(c4 d hd).1;rw[<-I.sz] at this
   simp[this]
  rw[upd_ne _ _ (hne j hj')]
  cases hod:o.dst with
  | none=>exact I.tm j d hj' hd
  | some e =>
   by_cases hde:e=d
   ·subst hde;exact absurd (hds j e hd hod) (hne j hj')
   simp only[];rw[Array.getElem?_setIfInBounds_ne hde];exact I.tm j d hj' hd
 ·rw[hput];have h1:a.tmps[t]?=t0[t]?:=I.pre t fun j hj=>ht j (by rw[getD_set hks];simp only[hj,Bool.or_true])
  cases hod:o.dst with
  | none=>exact h1
  | some e =>
   have:=ht k (by rw[getD_set hks];simp);rw[hdk,hod] at this;simp only[];rw[Array.getElem?_setIfInBounds_ne (fun h=>this (by rw[h]))];exact h1
 ·rw[hput,<-I.sz];cases o.dst<;>simp
 ·rw[<-I.df];cases o.dst<;>rfl
 ·rw[<-I.od q hq fun k' hk'=>hl k' (by rw[getD_set hks];simp only[hk',Bool.or_true])];have hlt:=hog q hq
  cases ho':own st k with
  | none=>exact (hN.bw ho').block _ (by have:=I.sw;omega)
  | some i =>
   obtain⟨g,hg,hp,hc⟩:=hpv i ho';refine hp.block _ (by have:=I.sw;omega) ?_;rcases hc with ⟨_,hc⟩ | ⟨hi,h1,hc⟩
   ·omega
   rw[hc];refine hod q _ hq h1 (fun e=>hl k (by rw[getD_set hks];simp) ?_);rw[ho',e];congr 1;omega
 ·rw[getD_set hks];rcases hset j hj with rfl | hj'
  ·simp only[hdep i hi,Bool.or_true]
  simp only[I.dn j hj' i hi,Bool.or_true]
 ·rcases hset j hj with rfl | hj'
  ·exact hkm
  exact I.lt j hj'
 ·rcases hset j hj with rfl | hj'
  ·rw[mask_upd _ hself,upd_same];exact hN.is
  rw[upd_ne _ _ (hne j hj'),mask_upd]
  ·cases ho':own st k with
   | none=>exact (hst j (I.lt j hj')).1 _ _ _ _ (I.fa j hj') (hN.bw ho')
   | some i =>
    obtain⟨g,hg,hp,hc⟩:=hpv i ho';obtain⟨h1,h2,h3⟩:=hsp i ho';refine (hst j (I.lt j hj')).2 (fun e=>by subst e;cases ho') _ _ _ _ g (I.fa j hj') (fun i' hi'=>?_) (by rcases hc with ⟨hx,_⟩ | ⟨_,hx,hy⟩;exact absurd hx (h1000 k i ho');exact⟨_,hx,hy⟩) hp;have hjl:j<ops.length:=by have:=I.lt j hj';have:=ok_len hok;omega
    obtain⟨h4,h5,h6⟩:=okSt_at hoks hjl i' hi';have hii:i'≠i:=fun e=>by subst e;exact h3 j hjl (hne j hj') hi'
    rw[tv_mask (fun h=>(h4 h).1)]
    by_cases hi1:i'<1000
    ·obtain⟨g',e',q1,q2⟩:=I.pt i' (h4 hi1).2 (I.dn j hj' i' (h4 hi1).1);have ht:tv og x i'=x i':=if_pos hi1;rw[ht];rcases hc with ⟨hi2,hc⟩ | ⟨hi2,hq2,hc⟩
     ·have ht2:tv og x i=x i:=if_pos hi2;rw[ht2] at hg;exact fun e=>I.ne i' i (h4 hi1).2 (h1 hi2).2 (I.dn j hj' i' (h4 hi1).1) (hdep i (h1 hi2).1) hii (e.trans hg.symm)
     intro e;rw[e'] at e;injection e with e;injection e with e;injection e with e;have:=hog _ hq2;omega
    have ht:tv og x i'=.pointer (some ⟨og (i' - 1000),0,none⟩):=if_neg hi1;rw[ht];intro e;injection e with e;injection e with e;injection e with e;have hl':=hog _ (h5 hi1);rcases hc with ⟨hi2,hc⟩ | ⟨hi2,hq2,hc⟩
    ·omega
    exact hod _ _ (h5 hi1) hq2 (by omega) (e.trans hc)
  cases h:(dep D j).contains k with
  | false=>rfl
  | true=>have:=I.dn j hj' k h;rw[hun] at this;cases this
 ·rcases hset i hl with rfl | hl'
  ·obtain⟨g,h1,h2,h3⟩:=hN.al hi;exact⟨g,by rw[upd_same];exact h1,by have:=I.sw;omega,h3⟩
  obtain⟨g,h1,h2,h3⟩:=I.pt i hi hl';exact⟨g,by rw[upd_ne _ _ (hne i hl')];exact h1,h2,by omega⟩
 rcases hset i hli with rfl | hli'<;>rcases hset j hlj with rfl | hlj'
 ·exact absurd rfl hij
 ·obtain⟨g,h1,h2,h3⟩:=hN.al hi;obtain⟨g',h1',h2',h3'⟩:=I.pt j hj hlj';rw[upd_same,upd_ne _ _ (hne j hlj'),h1,h1'];intro e;injection e with e;injection e with e;injection e with e;omega
 ·obtain⟨g,h1,h2,h3⟩:=hN.al hj;obtain⟨g',h1',h2',h3'⟩:=I.pt i hi hli';rw[upd_same,upd_ne _ _ (hne i hli'),h1,h1'];intro e;injection e with e;injection e with e;injection e with e;omega
 rw[upd_ne _ _ (hne i hli'),upd_ne _ _ (hne j hlj')];exact I.ne i j hi hj hli' hlj' hij
def Rest (P:Program) (ops:List Oper) (Q:Exit->Act->World->Prop) (t0:Array Value) (ds:List Deferred) (m:Nat) (x:Nat->Value) (w:World):Prop:=
 wpAny P .any ops.toArray Q (ops.length - m) (List.replicate m true++List.replicate (ops.length - m) false).toArray ⟨fill (ops.take m) x 0 t0,ds⟩ w
theorem dstOf_take {m j:Nat} (h:j<m):dstOf (ops.take m) j=dstOf ops j:=by
 unfold dstOf;rw[List.getElem?_take_of_lt h]
theorem dstOf_take_ge {m j:Nat} (h:m<=j):dstOf (ops.take m) j=none:=by
 unfold dstOf;rw[List.getElem?_eq_none (by simp;omega)];rfl
theorem finish (hml:m<=ops.length) {listed:Array Bool} {a:Act} {w:World} {x:Nat->Value}
  (I:Inv (ops:=ops) (D:=D) (al:=al) (st:=st) (og:=og) (nq:=nq) (t0:=t0) (ds:=ds) (w0:=w0) H m listed a w x) (hall:∀ j,j<m->listed.getD j false=true)
  (hG:∀ x w,Left D al og nq w0 H m x w->Rest P ops Q t0 ds m x w):wpAny P .any ops.toArray Q (listed.toList.count false) listed a w:=by
 have h:=hG x w ⟨⟨I.be,I.bl⟩,fun j hj=>I.fa j (hall j hj),fun i hi him=>I.pt i hi (hall i him),fun i j hi hj him hjm hij=>I.ne i j hi hj (hall i him) (hall j hjm) hij⟩
 have hl:listed=(List.replicate m true++List.replicate (ops.length - m) false).toArray:=by
  apply Array.ext
  ·rw[I.ls];simp;omega
  intro i h1 h2;rw[I.ls] at h1
  by_cases hi:i<m
  ·have:=hall i hi;rw[Array.getD_eq_getD_getElem?,Array.getElem?_eq_getElem (by rw[I.ls];exact h1)] at this;simp only[Option.getD_some] at this;rw[this]
   simp[List.getElem_append_left,hi]
  have h3:listed.getD i false=false:=by
   cases h:listed.getD i false with
   | false=>rfl
   | true=>exact absurd (I.lt i h) hi
  rw[Array.getD_eq_getD_getElem?,Array.getElem?_eq_getElem (by rw[I.ls];exact h1)] at h3;simp only[Option.getD_some] at h3;rw[h3]
  simp[List.getElem_append,hi]
 have ha:a=⟨fill (ops.take m) x 0 t0,ds⟩:=by
  have e:fill (ops.take m) x 0 t0=a.tmps:=by
   refine fill_eq _ x 0 t0 a.tmps I.sz (fun j d hd=>?_) (fun t ht=>?_)
   ·rcases Nat.lt_or_ge j m with hj | hj
    ·rw[dstOf_take hj] at hd;rw[Nat.zero_add];exact I.tm j d (hall j hj) hd
    rw[dstOf_take_ge hj] at hd;cases hd
   refine I.pre t fun j hj=>?_
   have:=ht j
   rwa [dstOf_take (I.lt j hj)] at this
  rw[e,<-I.df]
 have hc:listed.toList.count false=ops.length - m:=by rw[hl];simp[List.count_replicate]
 rw[hc,hl,ha];exact h
theorem main (hok:ok ops D m t0.size=true) (hoks:okSt ops D al st nq=true) (h1000:∀ k i,own st k=some i->¬ i<1000) (hog:∀ q,q<nq->og q<w0.heap.size) (hod:∀ q q',q<nq->q'<nq->q≠q'->og q≠og q') (hst:∀ j,j<m->Stays st og nq j (H j)) (hrun:∀ j,j<m->∃ o,ops[j]?=some o/\Runs P ops D al st og nq t0 ds w0 H j o (H j))
  (hG:∀ x w,Left D al og nq w0 H m x w->Rest P ops Q t0 ds m x w) :
  ∀ (fuel:Nat) (listed:Array Bool) (a:Act) (w:World) (x:Nat->Value),listed.toList.count false=fuel->Inv (ops:=ops) (D:=D) (al:=al) (st:=st) (og:=og) (nq:=nq) (t0:=t0) (ds:=ds) (w0:=w0) H m listed a w x->wpAny P .any ops.toArray Q fuel listed a w:=by
 have hml:=ok_len hok;intro fuel
 induction fuel with
 | zero =>
  intro listed a w x hc I;rw[<-hc];refine finish hml I (fun j hj=>?_) hG;rw[Array.getD_eq_getD_getElem?,Array.getElem?_eq_getElem (by rw[I.ls];omega)];simp only[Option.getD_some];have h0:=List.count_eq_zero.1 hc
  cases h:listed[j]'(by rw[I.ls];omega) with
  | true=>rfl
  | false=>exact absurd (by rw[<-h];simp) h0
 | succ fuel ih =>
  intro listed a w x hc I
  by_cases hall:∀ j,j<m->listed.getD j false=true
  ·rw[<-hc];exact finish hml I hall hG
  -- what may come up is one of the first m
  have hready:∀ i,i ∈ Region.ready .any ops.toArray listed->listed.getD i false=false/\∃ o,ops[i]?=some o/\(∀ j,(dep D i).contains j=true->listed.getD j false=true)/\i<m:=by
   intro i hi;obtain⟨h1,o,ho,h2⟩:=mem_ready.1 hi;have ho':ops[i]?=some o:=by simpa using ho
   have hlt:i<ops.length:=(List.getElem?_eq_some_iff.1 ho').1;obtain⟨c1,c2,c3,c4⟩:=ok_at hok ho'
   have hd:∀ j,(dep D i).contains j=true->listed.getD j false=true:=fun j hj=>by
    obtain⟨⟨e,he,hb,h3⟩,_⟩:=c2 j hj;rcases h3 with rfl | h3
    ·exact h2 e he hb
    exact I.dn _ (h2 e he hb) j h3
   refine⟨?_,o,ho',hd,c3.resolve_right fun h=>hall fun j hj=>hd j (h j hj)⟩;rw[Array.getD_eq_getD_getElem?,Array.getElem?_eq_getElem (by rw[I.ls];exact hlt)] at h1 ⊢;exact h1
  refine⟨fun hr=>?_,fun i hi=>?_⟩
  ·-- the least that has not come up may come up
   exfalso
   have hex:∃ j,listed.getD j false=false/\j<m:=by
    refine Classical.byContradiction fun h=>hall fun j hj=>?_
    cases h2:listed.getD j false with
    | true=>rfl
    | false=>exact absurd ⟨j,h2,hj⟩ h
   have hmin:∃ j,(listed.getD j false=false/\j<m)/\∀ i,i<j->listed.getD i false=true:=by
    obtain⟨j,h1,h2⟩:=hex
    induction j using Nat.strongRecOn with
    | ind j ihj =>
     by_cases hlow:∃ i,i<j/\listed.getD i false=false
     ·obtain⟨i,h3,h4⟩:=hlow;exact ihj i h3 h4 (by omega)
     refine⟨j,⟨h1,h2⟩,fun i hi=>?_⟩
     cases h5:listed.getD i false with
     | true=>rfl
     | false=>exact absurd ⟨i,hi,h5⟩ hlow
   obtain⟨j,⟨h1,h2⟩,h3⟩:=hmin;have hjo:ops[j]?=some (ops[j]'(by omega)):=List.getElem?_eq_getElem (by omega)
   have:j ∈ Region.ready .any ops.toArray listed:=mem_ready.2 ⟨by
    rw[Array.getD_eq_getD_getElem?,Array.getElem?_eq_getElem (by rw[I.ls];omega)] at h1 ⊢
    exact h1,_,by rw[gsa];exact hjo,fun e he hb=>h3 _ ((ok_at hok hjo).1 e he hb)⟩
   rw[hr] at this;cases this
  obtain⟨hun,o,ho,hd,him⟩:=hready i hi;obtain⟨o',ho',hR⟩:=hrun i him;obtain rfl:o=o':=by rw[ho] at ho';exact Option.some.inj ho'
  have hil:i<ops.length:=(List.getElem?_eq_some_iff.1 ho).1
  have hA:At ops D st og nq t0 w0 H i a.tmps (mask (dep D i) x) w:=by
   obtain⟨c1,c2,c3,c4⟩:=ok_at hok ho;refine⟨I.be,I.bl,fun q hq hk'=>I.od q hq fun k' hlk hok'=>?_,fun j d hj hd'=>?_,fun j hj=>?_,fun t ht=>I.pre t fun j hj hjt=>?_⟩
   ·rcases hk' k' hok' with e | e
    ·subst e;rw[hun] at hlk;cases hlk
    have:=I.dn k' hlk i e;rw[hun] at this;cases this
   ·rw[mask_in hj];exact I.tm j d (hd j hj) hd'
   ·have e:mask (dep D j) (mask (dep D i) x)=mask (dep D j) x:=by
     funext q
     unfold mask
     by_cases hq:(dep D j).contains q=true
     ·rw[if_pos hq,if_pos hq,if_pos ((c2 j hj).2.1 q hq)]
     rw[if_neg hq,if_neg hq]
    rw[e,mask_in hj];exact I.fa j (hd j hj)
   have hjl:j<ops.length:=by have:=I.lt j hj;omega
   unfold R7.pre at ht;rw[List.all_eq_true] at ht;have h1:=ht j (List.mem_range.2 hjl);simp only[Bool.or_eq_true,bne_iff_ne,ne_eq,beq_iff_eq] at h1;rcases h1 with (h1 | h1) | h1
   ·exact h1 hjt
   ·subst h1;rw[hun] at hj;cases hj
   have:=I.dn j hj i h1;rw[hun] at this;cases this
  have hrun1:=hR a.tmps (mask (dep D i) x) w hA (fun a' w'=>∃ v,a'=(a.put o.dst v)/\Next al st og (H i) i (mask (dep D i) x) w v w') (fun v w' hN=>⟨v,by rw[<-I.df],hN⟩);have hil':i<listed.size:=by rw[I.ls];exact hil
  have hcount:(listed.setIfInBounds i true).toList.count false=fuel:=by
   have h1:listed.toList[i]?=some false:=by
    rw[Array.getD_eq_getD_getElem?,Array.getElem?_eq_getElem (by rw[I.ls];exact hil)] at hun;rw[List.getElem?_eq_getElem (by simpa using hil')]
    simpa using hun
   have:=count_false h1;rw[hc] at this;rw[Array.toList_setIfInBounds]
   omega
  have hgo:∀ a' w',(∃ v,a'=(a.put o.dst v)/\Next al st og (H i) i (mask (dep D i) x) w v w')->wpAny P .any ops.toArray Q fuel (listed.setIfInBounds i true) a' w':=by
   rintro a' w' ⟨v,rfl,hN⟩;exact ih _ _ _ _ hcount (I.step hok hoks h1000 hog hod hst ho him hun hd hN)
  unfold wpOp;rw[show ops.toArray[i]?=some o by simpa using ho];simp only[];have hae:(⟨a.tmps,ds⟩:Act)=a:=by rw[<-I.df]
  rw[hae] at hrun1
  split
  ·rename_i hw
   rw[if_pos hw] at hrun1;exact Or.inl (Oper.wp_noQ (Go.Oper.wp_mono hgo hrun1))
  rename_i hw
  rw[if_neg hw] at hrun1;exact hgo _ _ hrun1
theorem own_big {st:List (Nat × Nat)} (h:(st.all fun p=>decide (1000<=p.2))=true):∀ k i,own st k=some i->¬ i<1000:=by
 intro k i hi;unfold own at hi
 induction st with
 | nil=>cases hi
 | cons p l ih =>
  obtain⟨a,b⟩:=p;rw[List.all_cons,Bool.and_eq_true,decide_eq_true_eq] at h;rw[List.lookup_cons] at hi
  split at hi
  ·injection hi with hi;subst hi;have:=h.1;omega
  exact ih h.2 hi
theorem region {id:Nat} {w:World} (hm:P.follows .mixedOrders=true) (D:List (List Nat)) (al:List Nat) (st:List (Nat × Nat)) (og:Nat->Nat) (nq:Nat) (m:Nat) (hok:ok ops D m t0.size=true) (hoks:okSt ops D al st nq=true) (h1000:(st.all fun p=>decide (1000<=p.2))=true) (hog:∀ q,q<nq->og q<w.heap.size) (hod:∀ q q',q<nq->q'<nq->q≠q'->og q≠og q')
  (h:Chain P ops D al st og nq t0 ds w.drew m (Rest P ops Q t0 ds m) ops 0 []):(Code.region id ops.toArray true).wp P Q ⟨t0,ds⟩ w:=by
 refine wp_region_any hm ?_;have hml:=ok_len hok;obtain⟨H,_,h2,h3⟩:=Chain.all (fun k j hk hj=>ok_lt hok hj (by omega)) ops 0 [] rfl (Nat.zero_le _) (fun j=>by rw[Nat.zero_add]) h;have hc:(Array.replicate ops.toArray.size false).toList.count false=ops.toArray.size:=by simp
 refine main (w0:=w.drew) hok hoks (own_big h1000) hog hod (fun j hj=>(h2 j (Nat.zero_le _) hj).1) (fun j hj=>(h2 j (Nat.zero_le _) hj).2) h3 _ _ _ _ (fun _=>undef) hc ?_
 have hno:∀ j,(Array.replicate ops.toArray.size false).getD j false=true->False:=fun j hj=>by
  rw[Array.getD_eq_getD_getElem?] at hj
  by_cases h:j<ops.length<;>simp[h] at hj
 exact⟨fun j _ hj=>(hno j hj).elim,fun _ _=>rfl,rfl,rfl,fun B _ _=>Below.refl _ _,fun _ _ _=>rfl,fun _ _ _=>rfl,Nat.le_refl _,by simp,fun j hj=>(hno j hj).elim,fun j hj=>(hno j hj).elim,fun j hj=>(hno j hj).elim,fun j _ hj=>(hno j hj).elim,fun i j _ _ hj=>(hno i hj).elim⟩
theorem rest_done {x:Nat->Value} {w:World} (h:Q .normal ⟨fill ops x 0 t0,ds⟩ w):Rest P ops Q t0 ds ops.length x w:=by
 unfold Rest;rw[Nat.sub_self,List.take_length];refine⟨?_,h⟩;simp only[List.replicate_zero,List.append_nil];refine List.eq_nil_iff_forall_not_mem.2 (fun i hi=>?_);obtain⟨h1,o,ho,_⟩:=mem_ready.1 hi;have hlt:i<ops.length:=by have:=(Array.getElem?_eq_some_iff.1 ho).1;simpa using this
 simp[Array.getD_eq_getD_getElem?,hlt] at h1
end
end
def lst (n m:Nat):Array Bool:=(List.replicate m true++List.replicate (n - m) false).toArray
def inOrder (ops:List Oper) (m:Nat):Bool:=(List.range ops.length).all fun i=>decide (i<m) || Region.ready .any ops.toArray (lst ops.length i)==[i]
theorem lst_set {n m:Nat} (h:m<n):(lst n m).setIfInBounds m true=lst n (m+1):=by
 unfold lst
 apply Array.ext'
 rw[Array.toList_setIfInBounds]
 show (List.replicate m true++List.replicate (n - m) false).set m true=List.replicate (m+1) true++List.replicate (n - (m+1)) false
 rw[List.set_append_right _ _ (by simp)];simp only[List.length_replicate,Nat.sub_self];obtain⟨r,hr⟩:∃ r,n - m=r+1:=⟨n - m - 1,by omega⟩
 rw[hr,show n - (m+1)=r by omega,List.replicate_succ,List.set_cons_zero,List.replicate_succ',List.append_assoc]
 rfl
theorem ready_full (ops:List Oper):Region.ready .any ops.toArray (lst ops.length ops.length)=[]:=by
 refine List.eq_nil_iff_forall_not_mem.2 (fun i hi=>?_);obtain⟨h1,o,ho,_⟩:=mem_ready.1 hi;have hlt:i<ops.length:=by have:=(Array.getElem?_eq_some_iff.1 ho).1;simpa using this
 simp[lst,Array.getD_eq_getD_getElem?,hlt] at h1
theorem rest_any {P:Program} {ops:List Oper} {Q:Exit->Act->World->Prop}:∀ (r m:Nat),m+r=ops.length->(∀ i,m<=i->i<ops.length->Region.ready .any ops.toArray (lst ops.length i)=[i])->∀ a w,wpList P ops.toArray Q (ops.drop m) a w->wpAny P .any ops.toArray Q r (lst ops.length m) a w
 | 0,m,hm,_,a,w,h=>by
  have e:m=ops.length:=by omega
  subst e;rw[List.drop_length] at h;exact⟨ready_full ops,h⟩
 | r+1,m,hm,hr,a,w,h=>by
  have hlt:m<ops.length:=by omega
  have h0:=hr m (Nat.le_refl _) hlt;refine⟨(fun hn=>by rw[h0] at hn;cases hn),fun i hi=>?_⟩;rw[h0,List.mem_singleton] at hi;subst hi;rw[List.drop_eq_getElem_cons hlt] at h;have ho:ops.toArray[i]?=some ops[i]:=by simp[hlt]
  have ih:=rest_any (P:=P) (Q:=Q) r (i+1) (by omega) (fun j hj hj'=>hr j (by omega) hj');unfold wpOp;rw[ho,lst_set hlt];simp only[wpList] at h ⊢
  split
  ·rename_i hw
   rw[if_pos hw] at h;rcases h with h | h
   ·exact .inl (Go.Oper.wp_mono (fun a' w' h'=>ih a' w' h') h)
   exact .inr h
  rename_i hw
  rw[if_neg hw] at h;exact ih _ _ h
theorem rest_list {P:Program} {ops:List Oper} {Q:Exit->Act->World->Prop} {t0:Array Value} {ds:List Deferred} {m:Nat} {x:Nat->Value} {w:World} (hm:m<=ops.length) (hi:inOrder ops m=true)
  (h:wpList P ops.toArray Q (ops.drop m) ⟨fill (ops.take m) x 0 t0,ds⟩ w):Rest P ops Q t0 ds m x w:=by
 unfold Rest;refine rest_any (ops.length - m) m (by omega) (fun i h1 h2=>?_) _ _ h;unfold inOrder at hi;have:=List.all_eq_true.1 hi i (List.mem_range.2 h2);simp only[Bool.or_eq_true,decide_eq_true_eq,beq_iff_eq] at this;exact this.resolve_left (by omega)
section
variable {P:Program} {ops:List Oper} {D:List (List Nat)} {al:List Nat} {st:List (Nat × Nat)} {og:Nat → Nat} {nq:Nat} {t0:Array Value} {ds:List Deferred} {w0:World}
theorem mi {L:List Nat} {x:Nat → Value} {j:Nat} (h:L.contains j=true):mask L x j=x j:=mask_in h
theorem cd {m k:Nat} {G:(Nat → Value) → World → Prop} {o:Oper} {l:List Oper} {F:List Fact} (f:(Nat → Value) → Value) (hr:∀ (T:Array Value) (x:Nat → Value) (w:World),At ops D st og nq t0 w0 (fact F) k T x w → (execOp (Act.eval ⟨T,ds⟩) o).run P w=.ok (.value (f x)) w)
    (h:Chain P ops D al st og nq t0 ds w0 m G l (k+1) ((fun x v _=>v=f x)::F)) (hp:plain al st k=true:=by rfl) (hw:∀ T:Array Value,Region.wanted o (yielded ops.toArray T)=true:=by (intro T;rfl)):Chain P ops D al st og nq t0 ds w0 m G (o::l) k F:=Chain.det f hp (fun T x w hA=>⟨hw T,hr T x w hA⟩) h
theorem At.tq {F:Nat → Fact} {k:Nat} {T:Array Value} {x:Nat → Value} {w:World} (h:At ops D st og nq t0 w0 F k T x w) (j d:Nat) (h1:(dep D k).contains j=true:=by rfl) (h2:dstOf ops j=some d:=by rfl):T[d]?=some (x j):=h.tm j d h1 h2
theorem At.fq {F:Nat → Fact} {k:Nat} {T:Array Value} {x:Nat → Value} {w:World} (h:At ops D st og nq t0 w0 F k T x w) (j:Nat) (h1:(dep D k).contains j=true:=by rfl):F j (mask (dep D j) x) (x j) w:=h.fa j h1
theorem At.pq {F:Nat → Fact} {k:Nat} {T:Array Value} {x:Nat → Value} {w:World} (h:At ops D st og nq t0 w0 F k T x w) (t:Nat) (h1:R7.pre ops D k t=true:=by kernel_rfl):T[t]?=t0[t]?:=h.pre t h1
theorem b0_ {cur new:World} (h:∀ B,B ≤ cur.drew.heap.size → (∀ q,q<0 → B ≤ og q) → Below B cur.drew new):Below cur.heap.size cur new:=(fun k:Below cur.heap.size cur.drew new=>⟨k.os,k.tape,k.output,k.size,k.block⟩) (h cur.heap.size (Nat.le_refl _) (fun _ h=>absurd h (Nat.not_lt_zero _)))
theorem r0 {id:Nat} {w:World} {Q:Exit → Act → World → Prop} (D:List (List Nat)) (m:Nat) (h:Chain P ops D [] [] (fun _=>0) 0 t0 ds w.drew m (Rest P ops Q t0 ds m) ops 0 []) (hm:P.follows .mixedOrders=true:=by kernel_rfl) (hok:ok ops D m t0.size=true:=by kernel_rfl) (hoks:okSt ops D [] [] 0=true:=by kernel_rfl):(Code.region id ops.toArray true).wp P Q ⟨t0,ds⟩ w:=
  region hm D [] [] (fun _=>0) 0 m hok hoks rfl (fun q h=>absurd h (Nat.not_lt_zero _)) (fun q q' h=>absurd h (Nat.not_lt_zero _)) h
end
end R7
set_option linter.unusedVariables false
set_option linter.unusedSimpArgs false
theorem add_blockV (a:Addr) (i:Nat):(a.add i).block=a.block:=by unfold Addr.add;split<;>rfl
theorem add_litV (g o i:Nat):(⟨g,o,none⟩:Addr).add i=⟨g,o+i,none⟩:=by simp[Addr.add]
theorem add_addV (a:Addr) (i j:Nat):(a.add i).add j=a.add (i+j):=addr_add_add a i j
def N32 (l:List Value):Prop:=∀ u ∈ l,∀ z,u ≠ .int .u32 z
theorem below_grownV {w w':World} (h:Below w.heap.size w w') (row:Option Nat):w.grownBy w' row:=⟨h.os,h.tape,h.output,h.size,fun k hk _=>h.block k hk⟩
theorem N32.app {a b:List Value} (h:N32 a) (k:N32 b):N32 (a++b):=fun u hu=>by
 rcases List.mem_append.1 hu with hu | hu
 ·exact h u hu
 exact k u hu
theorem N32.take {a:List Value} (h:N32 a) (n:Nat):N32 (a.take n):=fun u hu=>h u (List.mem_of_mem_take hu)
theorem N32.drop {a:List Value} (h:N32 a) (n:Nat):N32 (a.drop n):=fun u hu=>h u (List.mem_of_mem_drop hu)
theorem N32.zeros {c:Array Value} (h:N32 c.toList) (n:Nat):N32 (Builtin.zeroCells c n).toList:=by
 intro u hu;unfold Builtin.zeroCells at hu;rw[Array.mem_toList_iff,Array.mem_map] at hu;obtain⟨i,hi,rfl⟩:=hu;rw[Array.mem_range] at hi
 have h0:0<c.size:=by
  rcases Nat.eq_zero_or_pos c.size with h0 | h0
  ·rw[h0] at hi;omega
  exact h0
 have hl:=Nat.mod_lt i h0;rw[getElem!_pos c _ hl];exact h _ (Array.mem_toList_iff.2 (Array.getElem_mem hl))
theorem N32.flat {α:Type} {f:α->List Value} {l:List α} (h:∀ a,N32 (f a)):N32 (l.flatMap f):=fun u hu=>by
 obtain⟨a,_,ha⟩:=List.mem_flatMap.1 hu;exact h a u ha
structure Fr (e:TypeId) (w w':World):Prop where
 block:∀ (g:Nat) (c:Array Value) (T:TypeId),w.heap[g]?=some (.cells c T (0,0))->T≠e->w'.heap[g]?=some (.cells c T (0,0))
 num:∀ (a:Addr) (z:Int),w.cell? a=some (.int .u32 z)->w'.cell? a=some (.int .u32 z)
theorem Fr.refl (e:TypeId) (w:World):Fr e w w:=⟨fun _ _ _ h _=>h,fun _ _ h=>h⟩
theorem Fr.of_below {e:TypeId} {w w':World} (h:Below w.heap.size w w'):Fr e w w':=
 ⟨fun g c T hg _=>by rw[h.block g (lt_of_block hg)];exact hg,fun a z hc=>by rw[h.cell (World.block_lt_of_cell? w a hc)];exact hc⟩
theorem cell_n32 {w:World} {g:Nat} {c:Array Value} {T:TypeId} {fz:Nat × Nat} (h:w.heap[g]?=some (.cells c T fz)) (h32:N32 c.toList) {a:Addr} (ha:a.block=g) (z:Int):w.cell? a≠some (.int .u32 z):=by
 intro hc;unfold World.cell? at hc;rw[ha,h] at hc;simp only at hc
 split at hc
 ·cases hc
 exact h32 _ (Array.mem_toList_iff.2 (Array.mem_of_getElem? hc)) z rfl
theorem Fr.of_grown {e:TypeId} {w w':World} {r:Option Nat} (hg:w.grownBy w' r) (hr:∀ g,r=some g->∃ c,w.heap[g]?=some (.cells c e (0,0))/\N32 c.toList):Fr e w w':=
 ⟨fun g x T hx hT=>by
  rw[hg.block g (lt_of_block hx) (fun h=>by
   obtain⟨c,hc,-⟩:=hr g h.symm
   rw[hx] at hc;injection hc with hc;injection hc with _ hc;exact hT hc)];exact hx,
  fun a z hc=>by
  refine hg.cell hc (fun h=>?_);obtain⟨c,hcc,h32⟩:=hr _ h.symm
  exact cell_n32 hcc h32 rfl z hc⟩
theorem Sl.fr {e:TypeId} {w w':World} {v:Value} {xs:List Nat} (h:Sl w .u32 v xs) (k:Fr e w w'):Sl w' .u32 v xs:=by
 obtain⟨ao,cap,e1,h1,h2,h3,h4⟩:=h;refine⟨ao,cap,e1,h1,h2,h3,fun i hi=>?_⟩;obtain⟨a,ha,hc⟩:=h4 i hi;exact⟨a,ha,k.num _ _ hc⟩
theorem CI.fr {e:TypeId} {w w':World} {v:Value} {z:Int} {k:Nat} (h:CI w v z k) (f:Fr e w w'):CI w' v z k:=by
 obtain⟨va,h1,h2,h3⟩:=h;exact⟨va,h1,h2.fr f,h3⟩
theorem CI.mono {w:World} {v:Value} {z:Int} {k k':Nat} (h:CI w v z k) (hk:k<=k'):CI w v z k':=by
 obtain⟨va,h1,h2,h3⟩:=h;exact⟨va,h1,h2,lt_pow_more h3 hk⟩
structure El (α:Type) where
 e:TypeId
 t:TypeId
 n:Nat
 b:Nat
 z:Value
 f:α->List Value
 R:World->α->Prop
 ok:TypeId->Prop
 pos:0<n
 by_:b<=1000
 zs:z.cells.size=n
 z32:N32 z.cells.toList
 ht:Tryz.prog.underlying t=some (.slice e)
 info:(Tryz.prog.info? e).map (fun i=>(i.zero,i.size,i.bytes))=some (some z,n,b)
 len:∀ a,(f a).length=n
 one:∀ a,∀ u ∈ f a,u.oneCell'=true
 n32:∀ a,N32 (f a)
 fr:∀ {e':TypeId} {w w':World} {a:α},ok e'->Fr e' w w'->R w a->R w' a
 own:ok e
section
variable {α:Type} (E:El α)
theorem El.below {w w':World} {a:α} (h:E.R w a) (hb:Below w.heap.size w w'):E.R w' a:=E.fr E.own (Fr.of_below hb) h
theorem flat_atV {α:Type} {n:Nat} (f:α->List Value) (hf:∀ a,(f a).length=n):∀ (l:List α) (i j:Nat) (hi:i<l.length),j<n->(l.flatMap f)[i*n+j]?=(f l[i])[j]?:=by
 intro l
 induction l with
 | nil=>intro i j hi;simp at hi
 | cons a l ih =>
  intro i j hi hj;rw[List.flatMap_cons]
  cases i with
  | zero=>rw[Nat.zero_mul,Nat.zero_add,List.getElem?_append_left (by rw[hf];exact hj)];rfl
  | succ i =>
   rw[List.getElem?_append_right (by rw[hf,Nat.add_mul];omega),hf,show (i+1)*n+j - n=i*n+j by rw[Nat.add_mul];omega,List.getElem_cons_succ];exact ih i j (by simpa using hi) hj
theorem flat_lenV {α:Type} {n:Nat} (f:α->List Value) (hf:∀ a,(f a).length=n):∀ l:List α,(l.flatMap f).length=l.length*n:=by
 intro l
 induction l with
 | nil=>simp
 | cons a l ih=>rw[List.flatMap_cons,lsa,ih,hf,lsc,Nat.add_mul];omega
structure El.Row (w:World) (B:Nat) (v:Value) (el:List α):Prop where
 own:w.ownsRow B E.e E.n v el.length (el.flatMap E.f)
 n32:∀ g,v.ownBlock=some g->∃ c,w.heap[g]?=some (.cells c E.e (0,0))/\N32 c.toList
 rd:∀ a ∈ el,E.R w a
def El.At (w:World) (v:Value) (el:List α):Prop:=∃ ko kc,v=.slice ko el.length kc/\(el.length<=kc/\kc<=maxLen/\(ko=none->kc=0)) /\
 ∀ i (h:i<el.length),∃ a,ko=some a/\(∃ c,w.heap[a.block]?=some (.cells c E.e (0,0)))/\(∀ j u,(E.f el[i])[j]?=some u->w.cell? (a.add (i*E.n+j))=some u)/\E.R w el[i]
variable {E}
theorem El.Row.nil (w:World) (B:Nat):E.Row w B (.slice none 0 0) []:=⟨World.ownsRow_nil _ _ _ _,fun _ h=>(by cases h),fun q h=>(by cases h)⟩
theorem El.Row.form {w:World} {B:Nat} {v:Value} {el:List α} (h:E.Row w B v el):∃ ko kc,v=.slice ko el.length kc/\el.length<=kc/\kc<=maxLen/\(ko=none->kc=0):=by
 rcases h.own.2 with ⟨rfl,h1⟩ | ⟨g,cap,cur,rfl,_,_,h1,h2,_⟩
 ·rw[h1];exact⟨_,_,rfl,Nat.le_refl _,Nat.zero_le _,fun _=>rfl⟩
 exact⟨_,_,rfl,h1,h2,fun h=>by cases h⟩
theorem El.Row.ge {w:World} {B:Nat} {v:Value} {el:List α} (h:E.Row w B v el) {j:Nat} (hj:v.ownBlock=some j):B<=j/\j<w.heap.size:=World.ownsRow.lt h.own j hj
theorem El.Row.below {w w':World} {B:Nat} {v:Value} {el:List α} (h:E.Row w B v el) (hb:Below w.heap.size w w'):E.Row w' B v el:=by
 refine⟨?_,fun g hg=>?_,fun q hq=>E.below (h.rd q hq) hb⟩
 ·rcases hr:v.ownBlock with _ | j
  ·exact World.ownsRow.kept h.own (below_grownV hb none) (.inl hr)
  exact World.ownsRow.kept h.own (below_grownV hb none) (.inr (by rw[hr];intro e;cases e))
 obtain⟨c,hc,h32⟩:=h.n32 g hg;exact⟨c,by rw[hb.block g (lt_of_block hc)];exact hc,h32⟩
theorem El.Row.at {w:World} {B:Nat} {v:Value} {el:List α} (h:E.Row w B v el):E.At w v el:=by
 obtain⟨ko,kc,rfl,h1⟩:=h.form;refine⟨ko,kc,rfl,h1,fun i hi=>?_⟩;rcases h.own.2 with ⟨hv,h0⟩ | ⟨g,cap,cur,hv,_,hg,h2,h3,h4,h5⟩
 ·omega
 injection hv with e1 e2 e3;subst e1;subst e3;refine⟨_,rfl,⟨cur,hg⟩,fun j u hu=>?_,h.rd _ (List.getElem_mem hi)⟩;have hj:j<E.n:=by have:=(List.getElem?_eq_some_iff.1 hu).1;rwa [E.len] at this
 rw[add_litV,Nat.zero_add,World.ownsRow.cellAt h.own (i*E.n+j) (by
  calc i*E.n+j<i*E.n+E.n:=by omega
   _=(i+1)*E.n:=by rw[Nat.add_mul];omega
   _<=el.length*E.n:=Nat.mul_le_mul_right _ hi),flat_atV E.f E.len el i j hi hj]
 exact hu
theorem El.At.nil (w:World):E.At w (.slice none 0 0) []:=(El.Row.nil w 0).at
theorem El.At.fr {e':TypeId} {w w':World} {v:Value} {el:List α} (h:E.At w v el) (hok:E.ok e') (hne:E.e≠e') (f:Fr e' w w'):E.At w' v el:=by
 obtain⟨ko,kc,rfl,h1,h2⟩:=h;refine⟨ko,kc,rfl,h1,fun i hi=>?_⟩;obtain⟨a,ha,⟨c,hc⟩,h3,h4⟩:=h2 i hi;have hc':=f.block _ _ _ hc hne;refine⟨a,ha,⟨c,hc'⟩,fun j u hu=>?_,E.fr hok f h4⟩;rw[World.cell?_of_block (w:=w) (by rw[add_blockV,hc,hc'])];exact h3 j u hu
theorem El.At.below {w w':World} {v:Value} {el:List α} (h:E.At w v el) (hb:Below w.heap.size w w'):E.At w' v el:=by
 obtain⟨ko,kc,rfl,h1,h2⟩:=h;refine⟨ko,kc,rfl,h1,fun i hi=>?_⟩;obtain⟨a,ha,⟨c,hc⟩,h3,h4⟩:=h2 i hi;have hc':=hb.block _ (lt_of_block hc);refine⟨a,ha,⟨c,by rw[hc'];exact hc⟩,fun j u hu=>?_,E.below h4 hb⟩;rw[World.cell?_of_block (w:=w) (by rw[add_blockV,hc'])];exact h3 j u hu
theorem El.At.block {w:World} {g:Nat} {el:List α} (h:w.heap[g]?=some (.cells (el.flatMap E.f).toArray E.e (0,0))) (hl:el.length<=maxLen) (hR:∀ a ∈ el,E.R w a):E.At w (.slice (some ⟨g,0,none⟩) el.length el.length) el:=by
 refine⟨_,_,rfl,⟨Nat.le_refl _,hl,fun h=>by cases h⟩,fun i hi=>⟨_,rfl,⟨_,h⟩,fun j u hu=>?_,hR _ (List.getElem_mem hi)⟩⟩;have hj:j<E.n:=by have:=(List.getElem?_eq_some_iff.1 hu).1;rwa [E.len] at this
 rw[add_litV,Nat.zero_add,cell_of_row w g _ _ _ _ h,gsa,flat_atV E.f E.len el i j hi hj];exact hu
theorem El.At.news {w:World} {a:Addr} {n kc:Nat} {el:List α} (h:E.At w (.slice (some a) n kc) el):∀ j u,(el.flatMap E.f)[j]?=some u->w.cell? (a.add j)=some u:=by
 intro j u hu;obtain⟨ko',kc',e,h1,h4⟩:=h;injection e with e1 e2 e3;have hjl:j<el.length*E.n:=by have:=(List.getElem?_eq_some_iff.1 hu).1;rwa [flat_lenV E.f E.len] at this
 have hp:=E.pos;have hi:j / E.n<el.length:=(Nat.div_lt_iff_lt_mul hp).2 hjl;have hm:j % E.n<E.n:=Nat.mod_lt _ hp;have hd:j / E.n*E.n+j % E.n=j:=by rw[Nat.mul_comm];exact Nat.div_add_mod j E.n
 obtain⟨b,hb,-,h5,-⟩:=h4 _ hi;rw[<-e1] at hb;injection hb with hb;subst hb;have:=h5 (j % E.n) u (by rw[<-flat_atV E.f E.len el (j / E.n) (j % E.n) hi hm,hd];exact hu)
 rwa [hd] at this
theorem El.Row.run {w:World} {B:Nat} {v x:Value} {el ns:List α} (h:E.Row w B v el) (hx:E.At w x ns) (ty:TypeId) (hlen:el.length+ns.length<=1000000) (hB:B<=w.heap.size) :
  ∃ v' w',(Builtin.append_ #[E.t,E.t] ty #[v,x]).run Tryz.prog w=.ok v' w'/\E.Row w' B v' (el++ns)/\Fr E.e w w'/\Below B w w'/\w.grownBy w' v.ownBlock:=by
 obtain⟨i,hi,hz,hz1,hz2⟩:=info_parts E.info;have ht:=E.ht;have hzs:=E.zs;have hbyte:=E.by_;have hsz:=E.pos;rcases x with _ | _ | _ | _ | _ | _ | ⟨ao,m,c⟩ | _ | _ | _ | _ | _ | _ | _ | _ | _<;>first | (obtain⟨_,_,e,_⟩:=hx;cases e;done) | skip
 have hm:m=ns.length:=by obtain⟨_,_,e,_⟩:=hx;injection e
 have fin:∀ v' w',E.Row w' B v' (el++ns)->w.grownBy w' v.ownBlock->E.Row w' B v' (el++ns)/\Fr E.e w w'/\Below B w w'/\w.grownBy w' v.ownBlock:=fun v' w' h1 h2 =>
  ⟨h1,.of_grown h2 h.n32,⟨h2.os,h2.tape,h2.output,h2.size,fun k hk=>h2.block k (by omega) (fun e=>by have:=(h.ge e.symm).1;omega)⟩,h2⟩
 cases ao with
 | none =>
  have h0:ns=[]:=by
   cases ns with
   | nil=>rfl
   | cons a l=>obtain⟨_,_,e,_,h4⟩:=hx;injection e with e1 e2 e3;subst e1;obtain⟨_,hb,_⟩:=h4 0 (by simp);cases hb
  have hc:c=0:=by obtain⟨_,_,e,⟨_,_,h3⟩,_⟩:=hx;injection e with e1 e2 e3;subst e1;subst e3;exact h3 rfl
  subst h0;subst hc;subst hm;refine⟨v,w,run_append_owned_none w B E.t ty E.e i E.n ht hi v el.length _ h.own,?_⟩;rw[List.append_nil];exact⟨h,Fr.refl _ _,Below.refl _ _,World.grownBy.refl _ _⟩
 | some a =>
  subst hm;have hnews:=hx.news;have hl:=flat_lenV E.f E.len ns
  have h1:∀ u ∈ ns.flatMap E.f,u.oneCell'=true:=fun u hu=>by
   obtain⟨b,_,hb⟩:=List.mem_flatMap.1 hu;exact E.one b u hb
  have h32:N32 (ns.flatMap E.f):=N32.flat E.n32
  have hb2:(el.length+ns.length)*i.bytes<=140737488355328:=by
   rw[hz2];exact Nat.le_trans (Nat.mul_le_mul hlen hbyte) (by decide)
  have hmx:el.length+ns.length<=maxLen:=by unfold maxLen;omega
  obtain⟨v',w',hr,h2,h3,h4⟩:=run_append_own (P:=Tryz.prog) w B E.t ty E.e i E.z E.n E.b ht hi hz hz1 hz2 hzs hsz v el.length _ h.own a ns.length c _ hl hnews h1 hmx (by rw[<-hz2];exact hb2) hB;refine⟨v',w',hr,fin v' w' ⟨?_,?_,?_⟩ h3⟩
  ·rw[lsa,List.flatMap_append];exact h2
  ·rw[<-hz1] at hl;have hown1:(el.flatMap E.f).length=el.length*i.size:=by rw[hz1];exact h.own.1
   intro g hg;rcases h.own.2 with ⟨rfl,h0⟩ | ⟨q,cap,cur,rfl,hbg,hgq,hnc,hcm,hcs,htake⟩
   ·by_cases hm:ns.length=0
    ·have hnone:=h4.2 ⟨rfl,hm⟩;rw[hnone] at hg;cases hg
    have hr2:=run_append_nil (P:=Tryz.prog) w E.t ty E.e i E.z ht hi hz a ns.length c _ hl hnews (by omega) (by omega) (by have hb3:=Nat.mul_le_mul_right i.bytes (Nat.le_add_left ns.length el.length);omega);rw[hr] at hr2;injection hr2 with e1 e2;subst e1 e2;injection hg with hg;subst hg;exact⟨_,heap_alloc_new w.drew _,by simp only[Array.toList_append,List.toList_toArray];exact h32.app (N32.zeros E.z32 _)⟩
   obtain⟨cc,hcc,hc32⟩:=h.n32 q rfl;rw[hgq] at hcc;injection hcc with hcc;injection hcc with hcc;subst hcc
   by_cases hroom:el.length+ns.length<=cap
   ·have hfit:el.length*i.size+(ns.flatMap E.f).length<=cur.size:=by rw[hl,hcs,<-hz1,<-Nat.add_mul];exact Nat.mul_le_mul_right _ hroom
    have hr2:=run_append_room (P:=Tryz.prog) w E.t ty E.e i ht hi q el.length cap cur hgq a ns.length c _ hl hnews h1 hroom hfit;rw[hr] at hr2;injection hr2 with e1 e2;subst e1 e2;injection hg with hg;subst hg;exact⟨_,setRow_heap w q cur _ E.e _ hgq,by simp only[List.toList_toArray];exact ((hc32.take _).app h32).app (hc32.drop _)⟩
   have hr2:=run_append_grow (P:=Tryz.prog) w E.t ty E.e i E.z ht hi hz ⟨q,0,none⟩ el.length cap _ hown1 (h.own.cells (g:=q) rfl) a ns.length c _ hl hnews (by omega) (by omega) (growslice_fits (by omega) hb2);rw[hr] at hr2;injection hr2 with e1 e2;subst e1 e2;injection hg with hg;subst hg;exact⟨_,heap_alloc_new w.drew _,by simp only[Array.toList_append,List.toList_toArray];exact ((N32.flat E.n32).app h32).app (N32.zeros E.z32 _)⟩
  have f:Fr E.e w w':=.of_grown h3 h.n32;intro q hq;rcases List.mem_append.1 hq with hq | hq
  ·exact E.fr E.own f (h.rd q hq)
  obtain⟨k,hk,rfl⟩:=List.getElem_of_mem hq;obtain⟨_,_,_,_,h5⟩:=hx;obtain⟨_,_,_,_,h6⟩:=h5 k hk;exact E.fr E.own f h6
theorem El.Row.append {w:World} {B:Nat} {v x:Value} {el ns:List α} (h:E.Row w B v el) {ops:Array Oper} {rest:List Oper} {o:Oper} {a:Act} {Q:Exit->Act->World->Prop} (hgd:o.guard=none) (s y:Operand)
  (ho:o.op=.call { callee:=.builtin .append,args:=#[s,y],argTypes:=#[E.t,E.t] }) (hs:a.eval s=v) (hx:a.eval y=x) (hxs:E.At w x ns) (hlen:el.length+ns.length<=1000000) (hB:B<=w.heap.size)
  (hK:∀ v' w',E.Row w' B v' (el++ns)->Fr E.e w w'->Below B w w'->w.grownBy w' v.ownBlock->wpList Tryz.prog ops Q rest (a.put o.dst v') w'):wpList Tryz.prog ops Q (o::rest) a w:=by
 refine wpList_plain hgd fun K hk=>?_
 obtain⟨v',w',hr,h1,h2,h3,h4⟩:=h.run hxs o.type hlen hB;unfold Oper.wp execOp;simp only[ho,resolve,invoke,builtin,Sem.run_bind,Sem.run_pure,Result.andThen_ok,List.map_toArray,List.map_cons,List.map_nil,hs,hx,hr];exact hk _ _ (hK v' w' h1 h2 h3 h4)
end
inductive V where
 | I (z:Int)
 | B (b:Bool)
 | L (l:List Int)
 deriving DecidableEq
def lesser (z:Int):List Int:=if z=0 then [] else 0::(if Int.tdiv z 2=0 then [] else [Int.tdiv z 2])
def shorter (l:List Int):List (List Int):=(List.range l.length).map fun i=>l.take i++l.drop (i+1)
def smaller (l:List Int):List (List Int):=(List.range l.length).flatMap fun i=>(lesser (l.getD i 0)).map fun m=>l.take i++[m]++l.drop (i+1)
def stepsV:V->List V
 | .I z=>(lesser z).map .I
 | .B _=>[]
 | .L l=>(shorter l).map .L++(smaller l).map .L
structure NU where
 o:Option Addr
 l:Nat
 c:Nat
 z:Int
def nC (n:NU):List Value:=[.bool (decide (n.z<0)),.slice n.o n.l n.c]
def nV (n:NU):Value:=.agg #[.bool (decide (n.z<0)),.slice n.o n.l n.c]
def NR (w:World) (n:NU):Prop:=CI w (nV n) n.z 600
theorem infoIntV:(Tryz.prog.info? 26).map (fun i=>(i.zero,i.size,i.bytes))=some (some (.agg #[.bool false,.slice none 0 0]),2,32):=by kernel_rfl
theorem infoVal:(Tryz.prog.info? 41).map (fun i=>(i.zero,i.size,i.bytes))=some (some (.agg #[.int .i64 0,.bool false,.slice none 0 0,.bool false,.slice none 0 0]),5,72):=by kernel_rfl
def nE:El NU where
 e:=26
 t:=39
 n:=2
 b:=32
 z:=.agg #[.bool false,.slice none 0 0]
 f:=nC
 R:=NR
 ok _:=True
 pos:=by decide
 by_:=by decide
 zs:=rfl
 z32:=by intro u hu z;simp only[Value.cells,List.mem_cons,List.not_mem_nil,or_false] at hu;rcases hu with rfl | rfl<;>(intro h;cases h)
 ht:=Tryz.underlying39
 info:=infoIntV
 len _:=rfl
 one n:=by
  intro u hu;simp only[nC,List.mem_cons,List.not_mem_nil,or_false] at hu;rcases hu with rfl | rfl<;>rfl
 n32 n:=by
  intro u hu z;simp only[nC,List.mem_cons,List.not_mem_nil,or_false] at hu;rcases hu with rfl | rfl<;>(intro h;cases h)
 fr _ f h:=CI.fr h f
 own:=trivial
structure VU where
 k:Int
 n:NU
 b:Bool
 lo:Option Addr
 ll:Nat
 lc:Nat
 x:V
def vC (u:VU):List Value:=[.int .i64 u.k,.bool (decide (u.n.z<0)),.slice u.n.o u.n.l u.n.c,.bool u.b,.slice u.lo u.ll u.lc]
def vV (u:VU):Value:=.agg #[.int .i64 u.k,.bool (decide (u.n.z<0)),.slice u.n.o u.n.l u.n.c,.bool u.b,.slice u.lo u.ll u.lc]
def n0:NU:=⟨none,0,0,0⟩
def NL (w:World) (v:Value) (zs:List Int):Prop:=∃ ns,nE.At w v ns/\ns.map (·.z)=zs
def VR (w:World) (u:VU):Prop:=
 match u.x with
 | .I z=>u.k=0/\u.n.z=z/\NR w u.n/\u.b=false/\u.lo=none/\u.ll=0/\u.lc=0
 | .B b=>u.k=1/\u.n=n0/\u.b=b/\u.lo=none/\u.ll=0/\u.lc=0
 | .L zs=>u.k=2/\u.n=n0/\u.b=false/\NL w (.slice u.lo u.ll u.lc) zs
theorem NL.fr {e':TypeId} {w w':World} {v:Value} {zs:List Int} (h:NL w v zs) (hne:26≠e') (f:Fr e' w w'):NL w' v zs:=by
 obtain⟨ns,h1,h2⟩:=h;exact⟨ns,h1.fr trivial hne f,h2⟩
theorem NL.below {w w':World} {v:Value} {zs:List Int} (h:NL w v zs) (hb:Below w.heap.size w w'):NL w' v zs:=by
 obtain⟨ns,h1,h2⟩:=h;exact⟨ns,h1.below hb,h2⟩
theorem VR.fr {e':TypeId} {w w':World} {u:VU} (h:VR w u) (hne:26≠e') (f:Fr e' w w'):VR w' u:=by
 unfold VR at h ⊢
 split at h
 ·obtain⟨h1,h2,h3,h4⟩:=h;exact⟨h1,h2,CI.fr h3 f,h4⟩
 ·exact h
 obtain⟨h1,h2,h3,h4⟩:=h;exact⟨h1,h2,h3,h4.fr hne f⟩
theorem VR.below {w w':World} {u:VU} (h:VR w u) (hb:Below w.heap.size w w'):VR w' u:=h.fr (e':=153) (by decide) (Fr.of_below hb)
def vE:El VU where
 e:=41
 t:=30
 n:=5
 b:=72
 z:=.agg #[.int .i64 0,.bool false,.slice none 0 0,.bool false,.slice none 0 0]
 f:=vC
 R:=VR
 ok e':=26≠e'
 pos:=by decide
 by_:=by decide
 zs:=rfl
 z32:=by intro u hu z;simp only[Value.cells,List.mem_cons,List.not_mem_nil,or_false] at hu;rcases hu with rfl | rfl | rfl | rfl | rfl<;>(intro h;cases h)
 ht:=Tryz.underlying30
 info:=infoVal
 len _:=rfl
 one n:=by
  intro u hu;simp only[vC,List.mem_cons,List.not_mem_nil,or_false] at hu;rcases hu with rfl | rfl | rfl | rfl | rfl<;>rfl
 n32 n:=by
  intro u hu z;simp only[vC,List.mem_cons,List.not_mem_nil,or_false] at hu;rcases hu with rfl | rfl | rfl | rfl | rfl<;>(intro h;cases h)
 fr ok f h:=VR.fr h ok f
 own:=by decide
def VC (w:World) (v:Value) (x:V):Prop:=∃ u:VU,v=vV u/\u.x=x/\VR w u
theorem VC.fr {e':TypeId} {w w':World} {v:Value} {x:V} (h:VC w v x) (hne:26≠e') (f:Fr e' w w'):VC w' v x:=by
 obtain⟨u,h1,h2,h3⟩:=h;exact⟨u,h1,h2,h3.fr hne f⟩
theorem VC.int {w:World} {v:Value} {z:Int} (h:VC w v (.I z)):∃ o l c,v=.agg #[.int .i64 0,.bool (decide (z<0)),.slice o l c,.bool false,.slice none 0 0]/\CI w (.agg #[.bool (decide (z<0)),.slice o l c]) z 600:=by
 obtain⟨u,rfl,h1,h2⟩:=h;unfold VR at h2;rw[h1] at h2;obtain⟨h3,h4,h5,h6,h7,h8,h9⟩:=h2;refine⟨u.n.o,u.n.l,u.n.c,?_,?_⟩
 ·unfold vV;rw[h3,h4,h6,h7,h8,h9]
 unfold NR nV at h5;rw[h4] at h5;exact h5
theorem VC.bool {w:World} {v:Value} {b:Bool} (h:VC w v (.B b)):v=.agg #[.int .i64 1,.bool false,.slice none 0 0,.bool b,.slice none 0 0]:=by
 obtain⟨u,rfl,h1,h2⟩:=h;unfold VR at h2;rw[h1] at h2;obtain⟨h3,h4,h5,h7,h8,h9⟩:=h2;unfold vV;rw[h3,h4,h5,h7,h8,h9];rfl
theorem VC.list {w:World} {v:Value} {zs:List Int} (h:VC w v (.L zs)):∃ o l c,v=.agg #[.int .i64 2,.bool false,.slice none 0 0,.bool false,.slice o l c]/\NL w (.slice o l c) zs:=by
 obtain⟨u,rfl,h1,h2⟩:=h;unfold VR at h2;rw[h1] at h2;obtain⟨h3,h4,h5,h6⟩:=h2;refine⟨u.lo,u.ll,u.lc,?_,h6⟩;unfold vV;rw[h3,h4,h5];rfl
theorem VC.mkB (w:World) (b:Bool):VC w (.agg #[.int .i64 1,.bool false,.slice none 0 0,.bool b,.slice none 0 0]) (.B b):=⟨⟨1,n0,b,none,0,0,.B b⟩,rfl,rfl,rfl,rfl,rfl,rfl,rfl,rfl⟩
theorem NL.form {w:World} {v:Value} {zs:List Int} (h:NL w v zs):∃ ko kc,v=.slice ko zs.length kc/\(zs.length<=kc/\kc<=maxLen)/\∀ i (hi:i<zs.length),∃ a o l c,ko=some a/\w.cell? (a.add (i*2))=some (.bool (decide (zs[i]<0)))/\w.cell? ⟨(a.add (i*2)).block,(a.add (i*2)).off+1,none⟩=some (.slice o l c)/\CI w (.agg #[.bool (decide (zs[i]<0)),.slice o l c]) zs[i] 600:=by
 obtain⟨ns,⟨ko,kc,rfl,⟨h1,h2,_⟩,h3⟩,rfl⟩:=h;refine⟨ko,kc,by simp,⟨by simpa using h1,h2⟩,fun i hi=>?_⟩;obtain⟨a,ha,-,h4,h5⟩:=h3 i (by simpa using hi);simp only[List.getElem_map];exact⟨a,_,_,_,ha,h4 0 _ rfl,by have:=h4 1 _ rfl;rw[<-add_addV] at this;exact this,h5⟩
theorem grown2V {w:World} {k:Nat} (v0 v1:Value):w.grownBy ((w.setCell ⟨k,0,none⟩ v0).setCell ⟨k,1,none⟩ v1) (some k):=by
 refine grown_setCell ?_ _;refine grown_setCell ?_ _;exact World.grownBy.refl _ _
theorem grown5V {w:World} {k:Nat} (v0 v1 v2 v3 v4:Value):w.grownBy (((((w.setCell ⟨k,0,none⟩ v0).setCell ⟨k,1,none⟩ v1).setCell ⟨k,2,none⟩ v2).setCell ⟨k,3,none⟩ v3).setCell ⟨k,4,none⟩ v4) (some k):=by
 refine grown_setCell ?_ _;refine grown_setCell ?_ _;refine grown_setCell ?_ _;refine grown_setCell ?_ _;refine grown_setCell ?_ _;exact World.grownBy.refl _ _
theorem grown_belowV {w w':World} {B g:Nat} (h:w.grownBy w' (some g)) (hB:B<=w.heap.size) (hg:B<=g):Below B w w':=
 ⟨h.os,h.tape,h.output,h.size,fun k hk=>h.block k (by omega) (fun e=>by injection e with e;omega)⟩
theorem res5V {w0 w:World} {k:Nat} {c:Array Value} (hb:Below w0.heap.size w0 w) (hB:w.heap[k]?=some (.cells c 41 (0,0))) (h32:N32 c.toList) (hk:w0.heap.size<=k) (v0 v1 v2 v3 v4:Value) :
  Fr 41 w (((((w.setCell ⟨k,0,none⟩ v0).setCell ⟨k,1,none⟩ v1).setCell ⟨k,2,none⟩ v2).setCell ⟨k,3,none⟩ v3).setCell ⟨k,4,none⟩ v4)/\Below w0.heap.size w0 (((((w.setCell ⟨k,0,none⟩ v0).setCell ⟨k,1,none⟩ v1).setCell ⟨k,2,none⟩ v2).setCell ⟨k,3,none⟩ v3).setCell ⟨k,4,none⟩ v4):=
 ⟨.of_grown (grown5V v0 v1 v2 v3 v4) (fun g hg=>by injection hg with hg;subst hg;exact⟨_,hB,h32⟩),hb.trans ((grown_belowV (grown5V v0 v1 v2 v3 v4) (Nat.le_of_lt (by have:=lt_of_block hB;omega)) hk).mono (Nat.le_refl _))⟩
theorem res2V {w0 w:World} {k:Nat} {c:Array Value} (hb:Below w0.heap.size w0 w) (hB:w.heap[k]?=some (.cells c 26 (0,0))) (h32:N32 c.toList) (hk:w0.heap.size<=k) (v0 v1:Value) :
  Fr 26 w ((w.setCell ⟨k,0,none⟩ v0).setCell ⟨k,1,none⟩ v1)/\Below w0.heap.size w0 ((w.setCell ⟨k,0,none⟩ v0).setCell ⟨k,1,none⟩ v1):=
 ⟨.of_grown (grown2V v0 v1) (fun g hg=>by injection hg with hg;subst hg;exact⟨_,hB,h32⟩),hb.trans ((grown_belowV (grown2V v0 v1) (Nat.le_of_lt (by have:=lt_of_block hB;omega)) hk).mono (Nat.le_refl _))⟩
theorem n32_2 {b:Bool} {o:Option Addr} {l c:Nat}:N32 (#[Value.bool b,.slice o l c]:Array Value).toList:=by
 intro u hu z;simp only[List.mem_cons,List.not_mem_nil,or_false] at hu;rcases hu with rfl | rfl<;>(intro h;cases h)
theorem n32_5 {k:Int} {b d:Bool} {o p:Option Addr} {l c m q:Nat}:N32 (#[Value.int .i64 k,.bool b,.slice o l c,.bool d,.slice p m q]:Array Value).toList:=by
 intro u hu z;simp only[List.mem_cons,List.not_mem_nil,or_false] at hu;rcases hu with rfl | rfl | rfl | rfl | rfl<;>(intro h;cases h)
theorem newV (w:World) (c:Array Value) (T:TypeId):∃ w1 k,w.alloc (.cells c T)=w1/\w.heap.size=k/\Hid (Below w.heap.size w w1)/\Hid (w.heap.size<=k)/\Hid (w1.heap[k]?=some (.cells c T (0,0))):=
 ⟨_,_,rfl,rfl,Lib.hid ((Below.refl _ _).alloc (Nat.le_refl _) _),Lib.hid (Nat.le_refl _),Lib.hid (heap_alloc_new w _)⟩
theorem kBV {w w':World} {k:Nat} {o:Obj} (hb:Below w.heap.size w w') (h:Hid (w.heap[k]?=some o)):Hid (w'.heap[k]?=some o):=Lib.hid ((hb.block _ (lt_of_block h.out)).trans h.out)
theorem cells2V {w:World} {g:Nat} {T:TypeId} {a b:Value} (h:w.heap[g]?=some (.cells #[a,b] T (0,0))) :
  w.cell? ⟨g,0,none⟩=some a/\w.cell? ⟨g,1,none⟩=some b/\w.frozen? ⟨g,0,none⟩=false/\w.frozen? ⟨g,1,none⟩=false:=
 ⟨cell_at h 0 rfl,cell_at h 1 rfl,froz_at h 0,froz_at h 1⟩
theorem cells5V {w:World} {g:Nat} {T:TypeId} {a b c d e:Value} (h:w.heap[g]?=some (.cells #[a,b,c,d,e] T (0,0))) :
  (w.cell? ⟨g,0,none⟩=some a/\w.cell? ⟨g,1,none⟩=some b/\w.cell? ⟨g,2,none⟩=some c/\w.cell? ⟨g,3,none⟩=some d/\w.cell? ⟨g,4,none⟩=some e) /\
  w.frozen? ⟨g,0,none⟩=false/\w.frozen? ⟨g,1,none⟩=false/\w.frozen? ⟨g,2,none⟩=false/\w.frozen? ⟨g,3,none⟩=false/\w.frozen? ⟨g,4,none⟩=false:=
 ⟨⟨cell_at h 0 rfl,cell_at h 1 rfl,cell_at h 2 rfl,cell_at h 3 rfl,cell_at h 4 rfl⟩,froz_at h 0,froz_at h 1,froz_at h 2,froz_at h 3,froz_at h 4⟩
theorem ofBool_p (b:Bool) (w:World) :
  Calls Tryz.prog 62 #[.bool b] w fun e w'=>∃ v,e=.returned v/\VC w' v (.B b)/\Below w.heap.size w w':=by
 go_enter Tryz.func62,Tryz.ntmps62;obtain⟨w2,k2,e2,ek2,hb2,hk2,HB2⟩:=newV w #[.int .i64 0,.bool false,.slice none 0 0,.bool false,.slice none 0 0] 41;obtain⟨⟨c0,c1,c2,c3,c4⟩,f0,f1,f2,f3,f4⟩:=cells5V HB2.out;go_wp2_with fail;obtain⟨r1,r2⟩:=res5V hb2.out HB2.out n32_5 hk2.out (.int .i64 1) (.bool false) (.slice none 0 0) (.bool b) (.slice none 0 0);exact bodyPost_ret (v:=.agg #[.int .i64 1,.bool false,.slice none 0 0,.bool b,.slice none 0 0]) (by simp[results,Tryz.results62,go_sem,c0,c1,c2,c3,c4]) rfl ⟨_,rfl,VC.mkB _ _,r2⟩
theorem nr0 (w:World):NR w n0:=⟨.slice none 0 0,rfl,by
 rw[show dig L32 n0.z.natAbs=[] from by simp[n0,dig_zero]]
 exact⟨none,0,rfl,Nat.le_refl _,Nat.zero_le _,fun _=>rfl,fun i hi=>absurd hi (Nat.not_lt_zero _)⟩,lt_pow_more (k:=0) (k':=600) (by decide) (by decide)⟩
def v0:VU:=⟨0,n0,false,none,0,0,.I 0⟩
theorem vr0 (w:World):VR w v0:=⟨rfl,rfl,nr0 w,rfl,rfl,rfl,rfl⟩
section
variable {α:Type} {E:El α}
theorem made_flat (E:El α) (a:α) (ha:E.f a=E.z.cells.toList) (n:Nat):(madeCells E.z.cells (n*E.n)).toList=(List.replicate n a).flatMap E.f:=by
 apply List.ext_getElem?;intro j;have hp:=E.pos;have hl:=flat_lenV E.f E.len (List.replicate n a);rw[List.length_replicate] at hl;by_cases hj:j<n*E.n
 ·have hi:j / E.n<n:=(Nat.div_lt_iff_lt_mul hp).2 hj;have hm:j % E.n<E.n:=Nat.mod_lt _ hp;have hd:j / E.n*E.n+j % E.n=j:=by rw[Nat.mul_comm];exact Nat.div_add_mod j E.n
  have h1:=flat_atV E.f E.len (List.replicate n a) (j / E.n) (j % E.n) (by simpa using hi) hm;rw[hd,List.getElem_replicate,ha] at h1;rw[h1];have hms:j % E.z.cells.size<E.z.cells.size:=Nat.mod_lt _ (by rw[E.zs];exact hp);rw[Array.getElem?_toList];simp only[madeCells,Array.getElem?_map,Array.getElem?_range,hj,if_true,Option.map_some];rw[getElem!_pos E.z.cells _ hms];simp only[<-E.zs];simp
 rw[List.getElem?_eq_none (by simp[size_madeCells];omega),List.getElem?_eq_none (by rw[hl];omega)]
theorem wpList_make_El (E:El α) (a0:α) (ha:E.f a0=E.z.cells.toList) (hR:∀ w,E.R w a0) (w:World) {ops:Array Oper} {rest:List Oper} {o:Oper} {a:Act} {Q:Exit->Act->World->Prop}
  (hg:o.guard=none) (l c:Operand) (hop:o.op=Op.makeSlice E.t l c) (B:Nat) (kl kc:IntKind) (L C:Int) (n:Nat) (hl:a.eval l=.int kl L) (hc:a.eval c=.int kc C) (hL:L=(n:Int)) (hC:C=(n:Int)) (hn:n<=1000000) (hB:B<=w.heap.size)
  (hK:∀ w',E.Row w' B (.slice (some ⟨w.heap.size,0,none⟩) n n) (List.replicate n a0)->Below w.heap.size w w'->wpList Tryz.prog ops Q rest (a.put o.dst (.slice (some ⟨w.heap.size,0,none⟩) n n)) w') :
  wpList Tryz.prog ops Q (o::rest) a w:=by
 obtain⟨i,hi,hz,hz1,hz2⟩:=info_parts E.info;have hby:=E.by_;refine wpList_make_full w hg l c E.t hop B E.e i E.z E.n E.ht hi hz hz1 kl kc L C n hl hc hL hC (by rw[hz2];exact Nat.le_trans (Nat.mul_le_mul hby hn) (by decide)) (by unfold maxLen;omega) hB ?_;intro w' h1 h2;have h3:=h1;rw[made_flat E a0 ha] at h3;refine hK w' ⟨?_,?_,?_⟩ ⟨h2.os,h2.tape,h2.output,h2.size,fun k hk=>h2.block k hk (by intro e;cases e)⟩
 ·rw[List.length_replicate];exact h3
 ·intro g hg;rcases h1.2 with ⟨h,_⟩ | ⟨q,cap,cur,hv,_,hq,_,_,hcs,htk⟩
  ·cases h
  injection hv with e1 e2 e3;injection e1 with e1;subst e3;injection hg with hg;have hqg:q=g:=by rw[<-hg,e1]
  subst hqg;refine⟨cur,hq,?_⟩;rw[List.take_of_length_le (by rw[Array.length_toList,hcs];exact Nat.le_refl _),made_flat E a0 ha] at htk;rw[htk];exact N32.flat E.n32
 intro q hq;rw[List.eq_of_mem_replicate hq];exact hR w'
theorem n32_set {c:Array Value} (h:N32 c.toList) (i:Nat) {v:Value} (hv:∀ z,v ≠ .int .u32 z):N32 (c.setIfInBounds i v).toList:=by
 intro u hu;rw[Array.toList_setIfInBounds] at hu;rcases List.mem_or_eq_of_mem_set hu with hu | rfl
 ·exact h u hu
 exact hv
theorem El.Row.put {w:World} {B g n kc:Nat} {el:List α} (h:E.Row w B (.slice (some ⟨g,0,none⟩) n kc) el) {w':World} (i:Nat) (a:α) (hg:w.grownBy w' (some g)) (hown:w'.ownsRow B E.e E.n (.slice (some ⟨g,0,none⟩) n kc) n ((el.set i a).flatMap E.f))
  (h32:∃ c,w'.heap[g]?=some (.cells c E.e (0,0))/\N32 c.toList) (hn:n=el.length) (ha:E.R w a):E.Row w' B (.slice (some ⟨g,0,none⟩) n kc) (el.set i a)/\Fr E.e w w':=by
 have f:Fr E.e w w':=.of_grown hg (fun q hq=>by injection hq with hq;subst hq;exact h.n32 g rfl);refine⟨⟨by rw[List.length_set,<-hn];exact hown,fun q hq=>?_,fun q hq=>?_⟩,f⟩
 ·injection hq with hq;subst hq;exact h32
 rcases List.mem_or_eq_of_mem_set hq with hq | rfl
 ·exact E.fr E.own f (h.rd q hq)
 exact E.fr E.own f ha
end
theorem take_nextV {α:Type} {L M:List α} {k:Nat} (h:L.take k=M.take k) (h1:k<L.length) (h2:k<M.length) (e:L[k]=M[k]):L.take (k+1)=M.take (k+1):=by
 rw[List.take_succ_eq_append_getElem h1,List.take_succ_eq_append_getElem h2,h,e]
def RNum (w:World) (v:Value):Prop:=∃ xs,Sl w .u32 v xs/\Dig L32 xs
theorem RNum.below {w w':World} {v:Value} (h:RNum w v) (hb:Below w.heap.size w w'):RNum w' v:=by obtain⟨xs,h1,h2⟩:=h;exact⟨xs,h1.below hb,h2⟩
def TV:V->Prop
 | .I z=>z.natAbs<L32 ^ 4
 | .B _=>True
 | .L l=>l.length<=6/\∀ z ∈ l,z.natAbs<L32 ^ 4
theorem CI.lt {w:World} {v:Value} {z:Int} {k:Nat} (h:CI w v z k):z.natAbs<L32 ^ k:=by obtain⟨_,_,_,h3⟩:=h;exact h3
def sortOf:V->Int
 | .I _=>0
 | .B _=>1
 | .L _=>2
inductive F where
 | node (o z:Int) (nm:ByteArray) (ks:List F)
def F.op:F->Int | .node o _ _ _=>o
def F.num:F->Int | .node _ z _ _=>z
def F.name:F->ByteArray | .node _ _ nm _=>nm
def F.kids:F->List F | .node _ _ _ ks=>ks
def srt (o:Int):Int:=if 8<=o/\o<=11 then 2 else if 12<=o/\o<=20 then 1 else 0
def kidsOk (o:Int) (ss:List Int):Bool:=
 if o=0\/o=1\/o=8\/o=9\/o=12\/o=13\/o=14 then decide (ss=[])
 else if o=3\/o=5 then decide (ss=[0])
 else if o=2\/o=4\/o=15 then decide (ss=[0,0])
 else if o=6\/o=7\/o=11 then decide (ss=[2])
 else if o=10 then decide (ss=[0,2])
 else if o=16 then decide (ss=[0,0]) || decide (ss=[2,2])
 else if o=17 then decide (ss=[1])
 else if o=18\/o=19 then ss.all (fun s=>decide (s=1))
 else if o=20 then decide (ss=[1,1])
 else false
def fitF (o z:Int) (ss:List Int):Bool:=kidsOk o ss && (decide (o≠5) || decide (1<=z))
def srts (ks:List F):List Int:=ks.map fun f=>srt f.op
mutual
def rt:F->Bool
 | .node o z _ ks=>fitF o z (srts ks) && rts ks
def rts:List F->Bool
 | []=>true
 | f::l=>rt f && rts l
end
theorem rts_all:∀ l:List F,rts l=l.all rt
 | []=>rfl
 | f::l=>by rw[rts,List.all_cons,rts_all l]
mutual
def szF:F->Nat
 | .node _ _ _ ks=>1+szsF ks
def szsF:List F->Nat
 | []=>0
 | f::l=>szF f+szsF l
end
theorem szsF_app:∀ a b:List F,szsF (a++b)=szsF a+szsF b
 | [],b=>by simp[szsF]
 | f::a,b=>by rw[List.cons_append,szsF,szsF,szsF_app a b];omega
theorem szsF_take (ks:List F) (j:Nat) (h:j<ks.length):szsF (ks.take (j+1))=szsF (ks.take j)+szF ks[j]:=by
 rw[List.take_succ_eq_append_getElem h,szsF_app,szsF,szsF];omega
theorem szsF_take_le (ks:List F) (j:Nat):szsF (ks.take j)<=szsF ks:=by
 have:=szsF_app (ks.take j) (ks.drop j);rw[List.take_append_drop] at this;omega
def asI:V->Int
 | .I z=>z
 | _=>0
def asB:V->Bool
 | .B b=>b
 | _=>false
def asL:V->List Int
 | .L l=>l
 | _=>[]
def at0 (vs:List V):V:=vs.getD 0 (.I 0)
def at1 (vs:List V):V:=vs.getD 1 (.I 0)
def opV (r:ByteArray->V) (o z:Int) (nm:ByteArray) (vs:List V):V:=
 if o=0 then .I z
 else if o=1 then .I (asI (r nm))
 else if o=2 then .I (asI (at0 vs)+asI (at1 vs))
 else if o=3 then .I (z*asI (at0 vs))
 else if o=4 then .I (asI (at0 vs)*asI (at1 vs))
 else if o=5 then .I (Int.fdiv (asI (at0 vs)) z)
 else if o=6 then .I ((asL (at0 vs)).length:Nat)
 else if o=7 then .I ((asL (at0 vs)).headD 0)
 else if o=8 then .L (asL (r nm))
 else if o=9 then .L []
 else if o=10 then .L (asI (at0 vs)::asL (at1 vs))
 else if o=11 then .L (asL (at0 vs)).tail
 else if o=12 then .B true
 else if o=13 then .B false
 else if o=14 then .B (asB (r nm))
 else if o=15 then .B (decide (asI (at0 vs)<=asI (at1 vs)))
 else if o=16 then .B (decide (at0 vs=at1 vs))
 else if o=17 then .B (!asB (at0 vs))
 else if o=18 then .B (vs.all asB)
 else if o=19 then .B (vs.any asB)
 else if o=20 then .B (asB (at0 vs)==asB (at1 vs))
 else .I 0
mutual
def ev (r:ByteArray->V):F->V
 | .node o z nm ks=>opV r o z nm (evs r ks)
def evs (r:ByteArray->V):List F->List V
 | []=>[]
 | f::l=>ev r f::evs r l
end
theorem ops21 (o:Int):(o=0\/o=1\/o=2\/o=3\/o=4\/o=5\/o=6\/o=7\/o=8\/o=9\/o=10\/o=11\/o=12\/o=13\/o=14\/o=15\/o=16\/o=17\/o=18\/o=19\/o=20)\/(o<0\/20<o):=by omega
theorem opV_sort (r:ByteArray->V) (o z:Int) (nm:ByteArray) (vs:List V):sortOf (opV r o z nm vs)=srt o:=by
 rcases ops21 o with h | h
 ·rcases h with rfl | rfl | rfl | rfl | rfl | rfl | rfl | rfl | rfl | rfl | rfl | rfl | rfl | rfl | rfl | rfl | rfl | rfl | rfl | rfl | rfl<;>rfl
 unfold opV srt;rw[if_neg (by omega),if_neg (by omega),if_neg (by omega),if_neg (by omega),if_neg (by omega),if_neg (by omega),if_neg (by omega),if_neg (by omega),if_neg (by omega),if_neg (by omega),if_neg (by omega),if_neg (by omega),if_neg (by omega),if_neg (by omega),if_neg (by omega),if_neg (by omega),if_neg (by omega),if_neg (by omega),if_neg (by omega),if_neg (by omega),if_neg (by omega),if_neg (by omega),if_neg (by omega)];rfl
theorem ev_sort (r:ByteArray->V):∀ f:F,sortOf (ev r f)=srt f.op
 | .node o z nm ks=>by rw[ev];exact opV_sort r o z nm _
theorem ev_int {r:ByteArray->V} {f:F} (h:srt f.op=0):ev r f=.I (asI (ev r f)):=by
 have:=ev_sort r f;rw[h] at this;cases he:ev r f with
 | I z=>rfl
 | B b=>rw[he] at this;cases this
 | L l=>rw[he] at this;cases this
theorem ev_bool {r:ByteArray->V} {f:F} (h:srt f.op=1):ev r f=.B (asB (ev r f)):=by
 have:=ev_sort r f;rw[h] at this;cases he:ev r f with
 | I z=>rw[he] at this;cases this
 | B b=>rfl
 | L l=>rw[he] at this;cases this
theorem ev_list {r:ByteArray->V} {f:F} (h:srt f.op=2):ev r f=.L (asL (ev r f)):=by
 have:=ev_sort r f;rw[h] at this;cases he:ev r f with
 | I z=>rw[he] at this;cases this
 | B b=>rw[he] at this;cases this
 | L l=>rfl
def SmV:V->Prop
 | .I z=>z.natAbs<L32 ^ 600
 | .B _=>True
 | .L l=>l.length<=1000/\∀ z ∈ l,z.natAbs<L32 ^ 600
mutual
def Sm (r:ByteArray->V):F->Prop
 | .node o z nm ks=>SmV (opV r o z nm (evs r ks))/\Sms r ks
def Sms (r:ByteArray->V):List F->Prop
 | []=>True
 | f::l=>Sm r f/\Sms r l
end
theorem Sms.get {r:ByteArray->V}:∀ {l:List F},Sms r l->∀ f ∈ l,Sm r f
 | [],_,f,hf=>by cases hf
 | a::l,h,f,hf=>by
  rw[Sms] at h;rcases List.mem_cons.1 hf with rfl | hf
  ·exact h.1
  exact h.2.get f hf
theorem Sm.val {r:ByteArray->V}:∀ {f:F},Sm r f->SmV (ev r f)
 | .node o z nm ks,h=>by rw[Sm] at h;rw[ev];exact h.1
theorem Sm.kid {r:ByteArray->V} {o z:Int} {nm:ByteArray} {ks:List F} (h:Sm r (.node o z nm ks)):∀ f ∈ ks,Sm r f:=by
 rw[Sm] at h;exact h.2.get
def rho (env:List (ByteArray × V)) (nm:ByteArray):V:=env.foldl (fun a p=>if p.1=nm then p.2 else a) (.I 0)
theorem rho_app (env:List (ByteArray × V)) (p:ByteArray × V) (nm:ByteArray):rho (env++[p]) nm=if p.1=nm then p.2 else rho env nm:=by
 unfold rho;rw[List.foldl_append];rfl
theorem rho_take (env:List (ByteArray × V)) (nm:ByteArray) (j:Nat) (h:j<env.length):rho (env.take (j+1)) nm=if env[j].1=nm then env[j].2 else rho (env.take j) nm:=by
 rw[List.take_succ_eq_append_getElem h,rho_app]
def FreshF (w:World) (v v':Value):Prop:=∀ g,v'.ownBlock=some g->v.ownBlock=some g\/w.heap.size<=g
theorem append_freshF {P:Program} {w w':World} {t ty e:TypeId} {i:TypeInfo} {z:Value} (ht:P.underlying t=some (.slice e)) (hi:P.info? e=some i) (hz:i.zero=some z)
  {base n m c:Nat} {v v':Value} {xs news:List Value} (hown:w.ownsRow base e i.size v n xs) {a:Addr} (hl:news.length=m*i.size) (hnews:∀ j u,news[j]?=some u->w.cell? (a.add j)=some u) (h1:∀ u ∈ news,u.oneCell'=true)
  (h63:n+m<=1000000000) (hbytes:(n+m)*i.bytes<=140737488355328) (hm:0<m) (hzs:z.cells.size=i.size) (hsz:0<i.size)
  (hr:(Builtin.append_ #[t,t] ty #[v,.slice (some a) m c]).run P w=.ok v' w'):FreshF w v v':=by
 have h0:=hown;rcases hown.2 with ⟨rfl,rfl⟩ | ⟨g,cap,cur,rfl,hbg,hg,hnc,hcm,hcs,htake⟩
 ·have hx:xs=[]:=List.eq_nil_of_length_eq_zero (by simpa using hown.1);subst hx;obtain⟨v2,w2,hr2,ho2,_,_⟩:=run_append_own (P:=P) w w.heap.size t ty e i z i.size i.bytes ht hi hz rfl rfl hzs hsz (.slice none 0 0) 0 [] (World.ownsRow_nil w _ e i.size) a m c news hl hnews h1 (by unfold maxLen;omega) hbytes (Nat.le_refl _);rw[hr] at hr2;injection hr2 with e1 e2;subst e1;exact fun g hg=>.inr (ho2.lt g hg).1
 by_cases hroom:n+m<=cap
 ·have hfit:n*i.size+news.length<=cur.size:=by rw[hl,hcs,<-Nat.add_mul];exact Nat.mul_le_mul_right _ hroom
  rw[run_append_room (P:=P) w t ty e i ht hi g n cap cur hg a m c news hl hnews h1 hroom hfit] at hr;injection hr with e1 e2;subst e1;exact fun q hq=>.inl hq
 rw[run_append_grow (P:=P) w t ty e i z ht hi hz ⟨g,0,none⟩ n cap xs h0.1 (h0.cells (g:=g) rfl) a m c news hl hnews (by omega) (by omega) (growslice_fits (by omega) hbytes)] at hr;injection hr with e1 e2;subst e1;intro q hq;injection hq with hq;exact .inr (by rw[<-hq];exact Nat.le_refl _)
theorem wpList_append_elF {P:Program} (w:World) {ops:Array Oper} {rest:List Oper} {o:Oper} {a:Act} {Q:Exit->Act->World->Prop} (hgd:o.guard=none) (s x:Operand) (t:TypeId)
  (ho:o.op=.call { callee:=.builtin .append,args:=#[s,x],argTypes:=#[t,t] })
  (e:TypeId) (ht:P.underlying t=some (.slice e)) {z:Value} {size bytes:Nat} (hinfo:(P.info? e).map (fun i=>(i.zero,i.size,i.bytes))=some (some z,size,bytes)) (hzs:z.cells.size=size) (hsz:0<size) (hby:bytes<=1000)
  (base:Nat) (v:Value) (n:Nat) (xs:List Value) (hs:a.eval s=v) (hown:w.ownsRow base e size v n xs)
  (h:Nat) (T:TypeId) (cs:List Value) (hcs:cs.length=size) (h1:∀ u ∈ cs,u.oneCell'=true) (hx:a.eval x=.slice (some ⟨h,0,none⟩) 1 1) (hc:w.heap[h]?=some (.cells cs.toArray T (0,0)))
  (hlen:n<=1000000) (hbase:base<=w.heap.size)
  (hK:∀ v' w',w'.ownsRow base e size v' (n+1) (xs++cs)->w.grownBy w' v.ownBlock->FreshF w v v'->wpList P ops Q rest (a.put o.dst v') w'):wpList P ops Q (o::rest) a w:=by
 obtain⟨i,hi,hz,hz1,hz2⟩:=info_parts hinfo;subst hz1 hz2;have hnews:∀ j u,cs[j]?=some u->w.cell? ((⟨h,0,none⟩:Addr).add j)=some u:=fun j u hj=>World.news_of_block hc j u (by simpa using hj)
 have hb2:(n+1)*i.bytes<=140737488355328:=Nat.le_trans (Nat.mul_le_mul (show n+1<=1000001 by omega) hby) (by decide);refine wpList_plain hgd fun K hk=>?_
 obtain⟨v',w',hr,h2,h3,h4⟩:=run_append_own (P:=P) w base t o.type e i z i.size i.bytes ht hi hz rfl rfl hzs hsz v n xs hown ⟨h,0,none⟩ 1 1 cs (by rw[hcs,Nat.one_mul]) hnews h1 (by unfold maxLen;omega) hb2 hbase;have hf:=append_freshF ht hi hz hown (c:=1) (m:=1) (by rw[hcs,Nat.one_mul]) hnews h1 (by omega) hb2 (by decide) hzs hsz hr;unfold Oper.wp execOp;simp only[ho,resolve,invoke,builtin,Sem.run_bind,Sem.run_pure,Result.andThen_ok,List.map_toArray,List.map_cons,List.map_nil,hs,hx,hr];exact hk _ _ (hK v' w' h2 h3 hf)
theorem cell_keepF {w w':World} {p:Addr} (h:w'.heap[p.block]?=w.heap[p.block]?):w'.cell? p=w.cell? p:=World.cell?_of_block h
def AtF (n:Nat) (w:World) (ko:Option Addr) (i:Nat) (cs:List Value):Prop:=∃ a,ko=some a/\∀ j v,cs[j]?=some v->w.cell? ((a.add (i*n)).add j)=some v
theorem AtF.keep {n:Nat} {w w':World} {ko:Option Addr} {i:Nat} {cs:List Value} (h:AtF n w ko i cs) (hk:∀ a,ko=some a->w'.heap[a.block]?=w.heap[a.block]?):AtF n w' ko i cs:=by
 obtain⟨a,rfl,h⟩:=h;refine⟨a,rfl,fun j v hv=>?_⟩;rw[cell_keepF (w:=w) (by rw[add_blockV,add_blockV];exact hk a rfl)];exact h j v hv
theorem AtF.lt {n:Nat} {w:World} {ko:Option Addr} {i:Nat} {c:Value} {cs:List Value} (h:AtF n w ko i (c::cs)):∀ a,ko=some a->a.block<w.heap.size:=by
 obtain⟨a,rfl,h⟩:=h;rintro _ ⟨⟩;have:=cell_lt (h 0 _ rfl)
 rwa [add_blockV,add_blockV] at this
theorem own_atF {n:Nat} {w:World} {base:Nat} {e:TypeId} {ko:Option Addr} {m kc:Nat} {α:Type} (f:α->List Value) (hf:∀ a,(f a).length=n) {ys:List α} (hm:m=ys.length) (h:w.ownsRow base e n (.slice ko m kc) m (ys.flatMap f)) (i:Nat) (hi:i<ys.length):AtF n w ko i (f ys[i]):=by
 have hfl:∀ (l:List α) (i j:Nat) (hi:i<l.length),j<n->(l.flatMap f)[i*n+j]?=(f l[i])[j]?:=by
  intro l;induction l with
  | nil=>intro i j hi;simp at hi
  | cons a l ih =>
   intro i j hi hj;rw[List.flatMap_cons];cases i with
   | zero=>rw[Nat.zero_mul,Nat.zero_add,List.getElem?_append_left (by rw[hf];exact hj)];rfl
   | succ i =>
    rw[List.getElem?_append_right (by rw[hf,Nat.add_mul];omega),hf,show (i+1)*n+j - n=i*n+j by rw[Nat.add_mul];omega,List.getElem_cons_succ];exact ih i j (by simpa using hi) hj
 have hll:∀ l:List α,(l.flatMap f).length=l.length*n:=by
  intro l;induction l with
  | nil=>simp
  | cons a l ih=>rw[List.flatMap_cons,lsa,ih,hf,lsc,Nat.add_mul];omega
 have h0:=h;rcases h.2 with ⟨hv,h1⟩ | ⟨g,cap,cur,hv,hb,hg,h1,h2,h3,h4⟩
 ·omega
 injection hv with e1 e2 e3;subst e1 e3;refine⟨_,rfl,fun j v hj=>?_⟩;have hjn:j<n:=by have:=(List.getElem?_eq_some_iff.1 hj).1;rwa [hf] at this
 rw[add_litV,add_litV,Nat.zero_add,World.ownsRow.cellAt h0 (i*n+j) (by
  rw[hm];calc i*n+j<i*n+n:=by omega
   _=(i+1)*n:=by rw[Nat.add_mul];omega
   _<=ys.length*n:=Nat.mul_le_mul_right _ hi),hfl ys i j hi hjn]
 exact hj
theorem own_formF {w:World} {base:Nat} {e:TypeId} {size:Nat} {v:Value} {n:Nat} {xs:List Value} (h:w.ownsRow base e size v n xs):∃ ko kc,v=.slice ko n kc/\n<=kc:=by
 rcases h.2 with ⟨rfl,rfl⟩ | ⟨g,cap,cur,rfl,_,_,h1,_⟩
 ·exact⟨_,_,rfl,Nat.le_refl _⟩
 exact⟨_,_,rfl,h1⟩
def KN (w w':World):Prop:=∀ (a:Addr) (z:Int),w.cell? a=some (.int .u32 z)->w'.cell? a=some (.int .u32 z)
theorem KN.of_below {w w':World} (h:Below w.heap.size w w'):KN w w':=fun a z hc=>by rw[h.cell (World.block_lt_of_cell? w a hc)];exact hc
theorem KN.of_fr {e:TypeId} {w w':World} (h:Fr e w w'):KN w w':=h.num
theorem KN.trans {a b c:World} (h:KN a b) (k:KN b c):KN a c:=fun p z hp=>k p z (h p z hp)
theorem Sl.kn {w w':World} {v:Value} {xs:List Nat} (h:Sl w .u32 v xs) (k:KN w w'):Sl w' .u32 v xs:=by
 obtain⟨ao,cap,e1,h1,h2,h3,h4⟩:=h;refine⟨ao,cap,e1,h1,h2,h3,fun i hi=>?_⟩;obtain⟨a,ha,hc⟩:=h4 i hi;exact⟨a,ha,k _ _ hc⟩
theorem CI.kn {w w':World} {v:Value} {z:Int} {k:Nat} (h:CI w v z k) (f:KN w w'):CI w' v z k:=by
 obtain⟨va,h1,h2,h3⟩:=h;exact⟨va,h1,h2.kn f,h3⟩
structure Es (α:Type) where
 e:TypeId
 n:Nat
 f:α->List Value
 R:World->(Nat->Prop)->α->Prop
 pos:0<n
 len:∀ a,(f a).length=n
 one:∀ a,∀ u ∈ f a,u.oneCell'=true
 keep:∀ {w w':World} {S:Nat->Prop} {a:α},(∀ g,S g->w'.heap[g]?=w.heap[g]?)->KN w w'->R w S a->R w' S a
 mono:∀ {w:World} {S S':Nat->Prop} {a:α},(∀ g,S g->S' g)->R w S a->R w S' a
 lt:∀ {w:World} {S:Nat->Prop} {a:α},R w S a->R w (fun g=>S g/\g<w.heap.size) a
section
variable {α:Type} (E:Es α)
theorem Es.below {w w':World} {S:Nat->Prop} {a:α} (h:E.R w S a) (hb:Below w.heap.size w w'):E.R w' S a:=E.mono (fun _ h=>h.1) (E.keep (fun g hg=>hb.block g hg.2) (KN.of_below hb) (E.lt h))
theorem Es.grown {w w':World} {S:Nat->Prop} {a:α} {r:Option Nat} (h:E.R w S a) (hg:w.grownBy w' r) (hn:KN w w') (hS:∀ b,S b->r≠some b):E.R w' S a:=
 E.mono (fun _ h=>h.1) (E.keep (fun q hq=>hg.block q hq.2 (fun e=>hS q hq.1 e.symm)) hn (E.lt h))
variable {E}
def Es.At (E:Es α) (w:World) (S:Nat->Prop) (v:Value) (el:List α):Prop:=∃ ko kc,v=.slice ko el.length kc/\(el.length<=kc/\kc<=maxLen/\(ko=none->kc=0))/\(el.length≠0->∀ a,ko=some a->S a.block)/\∀ i (h:i<el.length),AtF E.n w ko i (E.f el[i])/\E.R w S el[i]
theorem Es.At.keep {w w':World} {S:Nat->Prop} {v:Value} {el:List α} (hk:∀ g,S g->w'.heap[g]?=w.heap[g]?) (hn:KN w w') (h:E.At w S v el):E.At w' S v el:=by
 obtain⟨ko,kc,rfl,h1,h2,h3⟩:=h;exact⟨ko,kc,rfl,h1,h2,fun i hi=>⟨(h3 i hi).1.keep fun a ha=>hk _ (h2 (by omega) a ha),E.keep hk hn (h3 i hi).2⟩⟩
theorem Es.At.mono {w:World} {S S':Nat->Prop} {v:Value} {el:List α} (hs:∀ g,S g->S' g) (h:E.At w S v el):E.At w S' v el:=by
 obtain⟨ko,kc,rfl,h1,h2,h3⟩:=h;exact⟨ko,kc,rfl,h1,fun h0 a ha=>hs _ (h2 h0 a ha),fun i hi=>⟨(h3 i hi).1,E.mono hs (h3 i hi).2⟩⟩
theorem Es.At.lt {w:World} {S:Nat->Prop} {v:Value} {el:List α} (h:E.At w S v el):E.At w (fun g=>S g/\g<w.heap.size) v el:=by
 obtain⟨ko,kc,rfl,h1,h2,h3⟩:=h;refine⟨ko,kc,rfl,h1,fun h0 a ha=>⟨h2 h0 a ha,?_⟩,fun i hi=>⟨(h3 i hi).1,E.lt (h3 i hi).2⟩⟩;have h:=(h3 0 (by omega)).1;cases hf:E.f (el[0]'(by omega)) with
 | nil=>have:=E.len (el[0]'(by omega));rw[hf] at this;have:=E.pos;simp at *;omega
 | cons c cs=>rw[hf] at h;exact h.lt a ha
theorem Es.At.below {w w':World} {S:Nat->Prop} {v:Value} {el:List α} (h:E.At w S v el) (hb:Below w.heap.size w w'):E.At w' S v el:=(Es.At.keep (fun g hg=>hb.block g hg.2) (KN.of_below hb) h.lt).mono fun _ h=>h.1
theorem Es.At.grown {w w':World} {S:Nat->Prop} {v:Value} {el:List α} {r:Option Nat} (h:E.At w S v el) (hg:w.grownBy w' r) (hn:KN w w') (hS:∀ b,S b->r≠some b):E.At w' S v el:=
 (Es.At.keep (fun q hq=>hg.block q hq.2 (fun e=>hS q hq.1 e.symm)) hn h.lt).mono fun _ h=>h.1
end
theorem infoForm:(Tryz.prog.info? 29).map (fun i=>(i.zero,i.size,i.bytes))=some (some (.agg #[.int .i64 0,.bool false,.slice none 0 0,.string ⟨#[]⟩,.slice none 0 0]),5,80):=by kernel_rfl
structure FU where
 k:Int
 n:NU
 nm:ByteArray
 ko:Option Addr
 kl:Nat
 kc:Nat
def fC (u:FU):List Value:=[.int .i64 u.k,.bool (decide (u.n.z<0)),.slice u.n.o u.n.l u.n.c,.string u.nm,.slice u.ko u.kl u.kc]
def fV (u:FU):Value:=.agg #[.int .i64 u.k,.bool (decide (u.n.z<0)),.slice u.n.o u.n.l u.n.c,.string u.nm,.slice u.ko u.kl u.kc]
def IR (z:Int):Prop:=-9223372036854775808<=z/\z<=9223372036854775807
theorem NR.of {w:World} {n:NU} (h:Sl w .u32 (.slice n.o n.l n.c) (dig L32 n.z.natAbs)) (hb:n.z.natAbs<L32 ^ 600):NR w n:=⟨_,rfl,h,hb⟩
def FT (w:World) (S:Nat->Prop):Nat->FU->F->Prop
 | 0,_,_=>False
 | d+1,u,t=>(u.k=t.op/\IR u.k/\u.n.z=t.num/\u.nm=t.name)/\NR w u.n/\∃ el:List (FU × F),el.map (·.2)=t.kids/\(u.kl=el.length/\el.length<=u.kc/\u.kc<=maxLen/\(u.ko=none->u.kc=0)) /\
   (el.length≠0->∀ a,u.ko=some a->S a.block)/\∀ i (h:i<el.length),AtF 5 w u.ko i (fC el[i].1)/\FT w S d el[i].1 el[i].2
theorem FT.keep {w w':World} {S:Nat->Prop} (hk:∀ g,S g->w'.heap[g]?=w.heap[g]?) (hn:KN w w'):∀ {d:Nat} {u:FU} {t:F},FT w S d u t->FT w' S d u t
 | 0,_,_,h=>h
 | d+1,u,t,⟨h1,h2,el,h3,h4,h5,h6⟩=>⟨h1,CI.kn h2 hn,el,h3,h4,h5,fun i hi=>⟨(h6 i hi).1.keep fun a ha=>hk _ (h5 (by omega) a ha),(h6 i hi).2.keep hk hn⟩⟩
theorem FT.mono {w:World} {S S':Nat->Prop} (hs:∀ g,S g->S' g):∀ {d:Nat} {u:FU} {t:F},FT w S d u t->FT w S' d u t
 | 0,_,_,h=>h
 | d+1,u,t,⟨h1,h2,el,h3,h4,h5,h6⟩=>⟨h1,h2,el,h3,h4,fun h0 a ha=>hs _ (h5 h0 a ha),fun i hi=>⟨(h6 i hi).1,(h6 i hi).2.mono hs⟩⟩
theorem FT.lt {w:World} {S:Nat->Prop}:∀ {d:Nat} {u:FU} {t:F},FT w S d u t->FT w (fun g=>S g/\g<w.heap.size) d u t
 | 0,_,_,h=>h
 | d+1,u,t,⟨h1,h2,el,h3,h4,h5,h6⟩=>⟨h1,h2,el,h3,h4,fun h0 a ha=>⟨h5 h0 a ha,(h6 0 (by omega)).1.lt a ha⟩,fun i hi=>⟨(h6 i hi).1,(h6 i hi).2.lt⟩⟩
theorem FT.up {w:World} {S:Nat->Prop}:∀ {d:Nat} {u:FU} {t:F},FT w S d u t->∀ {d':Nat},d<=d'->FT w S d' u t
 | 0,_,_,h,_,_=>absurd h id
 | d+1,u,t,⟨h1,h2,el,h3,h4,h5,h6⟩,0,hd=>by omega
 | d+1,u,t,⟨h1,h2,el,h3,h4,h5,h6⟩,d'+1,hd=>⟨h1,h2,el,h3,h4,h5,fun i hi=>⟨(h6 i hi).1,(h6 i hi).2.up (Nat.le_of_succ_le_succ hd)⟩⟩
def fE (d:Nat):Es (FU × F) where
 e:=29
 n:=5
 f q:=fC q.1
 R w S q:=FT w S d q.1 q.2
 pos:=by decide
 len _:=rfl
 one q:=by
  intro u hu;simp only[fC,List.mem_cons,List.not_mem_nil,or_false] at hu;rcases hu with rfl | rfl | rfl | rfl | rfl<;>rfl
 keep h n k:=k.keep h n
 mono h k:=k.mono h
 lt k:=k.lt
theorem FT.below {w w':World} {S:Nat->Prop} {d:Nat} {u:FU} {t:F} (h:FT w S d u t) (hb:Below w.heap.size w w'):FT w' S d u t:=(fE d).below (a:=(u,t)) h hb
theorem FT.grown {w w':World} {S:Nat->Prop} {d:Nat} {u:FU} {t:F} {r:Option Nat} (h:FT w S d u t) (hg:w.grownBy w' r) (hn:KN w w') (hS:∀ b,S b->r≠some b):FT w' S d u t:=(fE d).grown (a:=(u,t)) h hg hn hS
def FC (w:World) (S:Nat->Prop) (d:Nat) (v:Value) (t:F):Prop:=∃ u:FU,v=fV u/\FT w S d u t
def FL (w:World) (S:Nat->Prop) (d:Nat) (v:Value) (ts:List F):Prop:=∃ el:List (FU × F),(fE d).At w S v el/\el.map (·.2)=ts
theorem FC.below {w w':World} {S:Nat->Prop} {d:Nat} {v:Value} {t:F} (h:FC w S d v t) (hb:Below w.heap.size w w'):FC w' S d v t:=by
 obtain⟨u,h1,h2⟩:=h;exact⟨u,h1,h2.below hb⟩
theorem FC.mono {w:World} {S S':Nat->Prop} {d:Nat} {v:Value} {t:F} (hs:∀ g,S g->S' g) (h:FC w S d v t):FC w S' d v t:=by
 obtain⟨u,h1,h2⟩:=h;exact⟨u,h1,h2.mono hs⟩
theorem FC.up {w:World} {S:Nat->Prop} {d d':Nat} {v:Value} {t:F} (h:FC w S d v t) (hd:d<=d'):FC w S d' v t:=by
 obtain⟨u,h1,h2⟩:=h;exact⟨u,h1,h2.up hd⟩
theorem FC.grown {w w':World} {S:Nat->Prop} {d:Nat} {v:Value} {t:F} {r:Option Nat} (h:FC w S d v t) (hg:w.grownBy w' r) (hn:KN w w') (hS:∀ b,S b->r≠some b):FC w' S d v t:=by
 obtain⟨u,h1,h2⟩:=h;exact⟨u,h1,h2.grown hg hn hS⟩
theorem FL.below {w w':World} {S:Nat->Prop} {d:Nat} {v:Value} {ts:List F} (h:FL w S d v ts) (hb:Below w.heap.size w w'):FL w' S d v ts:=by
 obtain⟨el,h1,h2⟩:=h;exact⟨el,h1.below hb,h2⟩
theorem FL.mono {w:World} {S S':Nat->Prop} {d:Nat} {v:Value} {ts:List F} (hs:∀ g,S g->S' g) (h:FL w S d v ts):FL w S' d v ts:=by
 obtain⟨el,h1,h2⟩:=h;exact⟨el,h1.mono hs,h2⟩
theorem FL.grown {w w':World} {S:Nat->Prop} {d:Nat} {v:Value} {ts:List F} {r:Option Nat} (h:FL w S d v ts) (hg:w.grownBy w' r) (hn:KN w w') (hS:∀ b,S b->r≠some b):FL w' S d v ts:=by
 obtain⟨el,h1,h2⟩:=h;exact⟨el,h1.grown hg hn hS,h2⟩
theorem FC.open {w:World} {S:Nat->Prop} {d:Nat} {v:Value} {t:F} (h:FC w S d v t):∃ (b:Bool) (o:Option Addr) (l c:Nat) (ko:Option Addr) (kl kc:Nat),
  v=.agg #[.int .i64 t.op,.bool b,.slice o l c,.string t.name,.slice ko kl kc]/\(IR t.op/\CI w (.agg #[.bool b,.slice o l c]) t.num 600/\kl=t.kids.length/\kl<=kc/\kc<=maxLen)/\1<=d/\FL w S (d - 1) (.slice ko kl kc) t.kids:=by
 obtain⟨u,rfl,h⟩:=h;cases d with
 | zero=>exact absurd h id
 | succ d =>
  obtain⟨⟨h1,h2,h3,h4⟩,h5,el,h6,⟨h7,h8,h9,h10⟩,h11,h12⟩:=h;have h13:u.kl=t.kids.length:=by rw[h7,<-h6,List.length_map]
  have h14:u.kl<=u.kc:=by rw[h7];exact h8
  refine⟨decide (u.n.z<0),u.n.o,u.n.l,u.n.c,u.ko,u.kl,u.kc,?_,⟨by rw[<-h1];exact h2,?_,h13,h14,h9⟩,Nat.succ_le_succ (Nat.zero_le _),el,⟨u.ko,u.kc,by rw[h7],⟨h8,h9,h10⟩,h11,h12⟩,h6⟩
  ·unfold fV;rw[h1,h4]
  rw[<-h3];exact h5
theorem FL.form {w:World} {S:Nat->Prop} {d:Nat} {v:Value} {ts:List F} (h:FL w S d v ts):∃ ko kc,v=.slice ko ts.length kc/\(ts.length<=kc/\kc<=maxLen/\(ko=none->kc=0)):=by
 obtain⟨el,⟨ko,kc,rfl,h1,-⟩,rfl⟩:=h;exact⟨ko,kc,by simp,by simpa using h1⟩
theorem FL.cells {w:World} {S:Nat->Prop} {d:Nat} {ko:Option Addr} {n kc:Nat} {ts:List F} (h:FL w S d (.slice ko n kc) ts) (i:Nat) (hi:i<ts.length):∃ (a:Addr) (b:Bool) (o:Option Addr) (l c:Nat) (po:Option Addr) (pl pc:Nat),ko=some a /\
  (w.cell? (a.add (i*5))=some (.int .i64 ts[i].op)/\w.cell? ⟨(a.add (i*5)).block,(a.add (i*5)).off+1,none⟩=some (.bool b)/\w.cell? ⟨(a.add (i*5)).block,(a.add (i*5)).off+2,none⟩=some (.slice o l c) /\
   w.cell? ⟨(a.add (i*5)).block,(a.add (i*5)).off+3,none⟩=some (.string ts[i].name)/\w.cell? ⟨(a.add (i*5)).block,(a.add (i*5)).off+4,none⟩=some (.slice po pl pc)) /\
  FC w S d (.agg #[.int .i64 ts[i].op,.bool b,.slice o l c,.string ts[i].name,.slice po pl pc]) ts[i]:=by
 obtain⟨el,⟨ko',kc',e,h1,h2,h3⟩,rfl⟩:=h;injection e with e1 e2 e3;subst e1;have hi':i<el.length:=by simpa using hi
 obtain⟨⟨a,ha,hc⟩,hT⟩:=h3 i hi';simp only[List.getElem_map];have hk:el[i].1.k=el[i].2.op/\el[i].1.nm=el[i].2.name:=by
  cases d with
  | zero=>exact absurd hT id
  | succ d=>obtain⟨⟨h1,h2,h3,h4⟩,-⟩:=hT;exact⟨h1,h4⟩
 refine⟨a,_,_,_,_,_,_,_,ha,⟨by have:=hc 0 _ rfl;rw[<-hk.1];exact this,hc 1 _ rfl,hc 2 _ rfl,by have:=hc 3 _ rfl;rw[<-hk.2];exact this,hc 4 _ rfl⟩,el[i].1,?_,hT⟩;unfold fV;rw[hk.1,hk.2]
theorem FC.mk {w:World} {S:Nat->Prop} {d:Nat} {b:Bool} {o:Option Addr} {l c:Nat} {nm:ByteArray} {ko:Option Addr} {kl kc:Nat} {op z:Int} {ks:List F} (hr:IR op) (hz:CI w (.agg #[.bool b,.slice o l c]) z 600)  (hk:FL w S d (.slice ko kl kc) ks) :
  FC w S (d+1) (.agg #[.int .i64 op,.bool b,.slice o l c,.string nm,.slice ko kl kc]) (.node op z nm ks):=by
 have hb:b=decide (z<0):=by
  obtain⟨va,e,_⟩:=hz;injection e with e;have e1:=congrArg (fun t:Array Value=>t[0]?) e;injection e1 with e1;injection e1 with e1
 subst hb;obtain⟨el,⟨ko',kc',e,h1,h2,h3⟩,rfl⟩:=hk;injection e with e1 e2 e3;subst e1;subst e3;exact⟨⟨op,⟨o,l,c,z⟩,nm,ko,kl,kc⟩,rfl,⟨rfl,hr,rfl,rfl⟩,hz,el,rfl,⟨e2,h1⟩,h2,h3⟩
theorem FL.nil (w:World) (S:Nat->Prop) (d:Nat):FL w S d (.slice none 0 0) []:=⟨[],⟨none,0,rfl,⟨Nat.le_refl _,Nat.zero_le _,fun _=>rfl⟩,fun h=>absurd rfl h,fun i hi=>absurd hi (Nat.not_lt_zero i)⟩,rfl⟩
abbrev Bs:=List UInt8
theorem cellsByte:Tryz.prog.cellsOf 5=1:=by kernel_rfl
theorem Bld.fresh (w:World):Bld w.heap.size w.heap.size [] (w.alloc (.cells #[.pointer none,.slice none 0 0] 109)):=Lib.fresh_isBuilder 109 5 w
theorem Bld.lt {B b:Nat} {l:Bs} {w:World} (h:Bld B b l w):B<=b/\b<w.heap.size:=by
 obtain⟨p,v,h1,-,-,h2,-⟩:=h.at;exact⟨h2,lt_of_block h1⟩
def FrB (w w':World):Prop:=∀ (g:Nat) (c:Array Value) (T:TypeId) (fz:Nat × Nat),w.heap[g]?=some (.cells c T fz)->T≠5->T≠109->w'.heap[g]?=some (.cells c T fz)
theorem FrB.refl (w:World):FrB w w:=fun _ _ _ _ h _ _=>h
theorem FrB.trans {a b c:World} (h:FrB a b) (k:FrB b c):FrB a c:=fun g x T fz h1 h2 h3=>k g x T fz (h g x T fz h1 h2 h3) h2 h3
theorem fr_below {w w':World} (h:Below w.heap.size w w'):FrB w w':=fun g c T fz h1 _ _=>by rw[h.block g (lt_of_block h1)];exact h1
theorem fr_set {w:World} {b:Nat} {c0:Array Value} {f0:Nat × Nat} (hb:w.heap[b]?=some (.cells c0 109 f0)) (i:Nat) (x:Value):FrB w (w.setCell ⟨b,i,none⟩ x):=fun g c T fz h1 _ h3=>by
 by_cases e:g=b
 ·subst e;rw[hb] at h1;injection h1 with h1;injection h1 with _ h1 _;exact absurd h1.symm h3
 rw[heap_setCell_other _ _ g _ (by simpa using e)];exact h1
theorem fr_grown {w w':World} {B:Nat} {v:Value} {n:Nat} {xs:List Value} (hown:w.ownsRow B 5 1 v n xs) (hg:w.grownBy w' v.ownBlock):FrB w w':=fun g c T fz h1 h2 _=>by
 rw[hg.block g (lt_of_block h1) (fun e=>?_)];exact h1;rcases hown.2 with ⟨rfl,_⟩ | ⟨q,cap,cur,rfl,_,hq,_⟩
 ·cases e
 injection e with e;subst e;rw[hq] at h1;injection h1 with h1;injection h1 with _ h1 _;exact h2 h1.symm
theorem bw_checked {B b:Nat} {l:Bs} {w:World} (h:Bld B b l w):∃ v,Calls Tryz.prog 150 #[.pointer (some ⟨b,0,none⟩)] w fun e w1=>e=.returned (.tuple #[])/\w1.heap[b]?=some (.cells #[.pointer (some ⟨b,0,none⟩),v] 109 (0,0))/\w1.ownsRow B 5 1 v l.length (Lib.byteCells l)/\v.ownBlock≠some b/\Below B w w1/\FrB w w1:=by
 obtain⟨p,v,hbk,hown,hne,hBb,hp⟩:=h.at;refine⟨v,?_⟩;rcases hp with rfl | rfl
 ·refine (copyCheck_fresh b w (by rw[cell_of_row w b 0 _ 109 (0,0) hbk];rfl) (by simp[World.shape?,hbk]) (frozen_of_row w b 0 _ 109 hbk)).mono ?_;rintro e w1 ⟨rfl,rfl⟩;refine⟨rfl,?_,?_,hne,(Below.refl _ _).setCell hBb _,fr_set hbk 0 _⟩
  ·rw[heap_setCell_same w b 0 _ 109 _ hbk];rfl
  exact ownsRow_setCell_other hown (by simpa using hne) _
 refine (copyCheck_used b w (by rw[cell_of_row w b 0 _ 109 (0,0) hbk];rfl)).mono ?_;rintro e w1 ⟨rfl,rfl⟩;exact⟨rfl,hbk,hown,hne,Below.refl _ _,FrB.refl _⟩
def BwPost (B b:Nat) (l:Bs) (w:World) (e:Ending) (w':World):Prop:=(∃ v,e=.returned v)/\Bld B b l w'/\Below B w w'/\FrB w w'
theorem bw_str (B b:Nat) (l m:Bs) (w:World) (h:Bld B b l w) (hlen:l.length+m.length<=1000000) (hBw:B<=w.heap.size) :
  Calls Tryz.prog 100 #[.pointer (some ⟨b,0,none⟩),.string ⟨m.toArray⟩] w (BwPost B b (l++m) w):=by
 obtain⟨i0,hi,hz0,hz1,hz2⟩:=info_parts infoByte;obtain⟨v,cc⟩:=bw_checked h;have hBb:=h.lt.1;have hsz:(⟨m.toArray⟩:ByteArray).size=m.length:=rfl;have CC:=Lib.hid cc;clear cc h;go_enter Tryz.func100,Tryz.ntmps100;go_wp2_with fail;refine CC.out.mono ?_;rintro e w1 ⟨rfl,hbk1,hown1,hne,hb1,hfr1⟩;have HFR:=Lib.hid hfr1;clear hfr1;have c0:w1.cell? ⟨b,0,none⟩=some (.pointer (some ⟨b,0,none⟩)):=by rw[cell_of_row w1 b 0 _ 109 (0,0) hbk1];rfl
 have c1:w1.cell? ⟨b,1,none⟩=some v:=by rw[cell_of_row w1 b 1 _ 109 (0,0) hbk1];rfl
 have HK:=Lib.hid hbk1;clear hbk1;have hsz1:=hb1.size;go_wp2_with (at_builtin;refine Lib.wpList_append_own_string _ rfl (.tmp 12) (.tmp 13) 99 9 rfl B 5 i0 Tryz.underlying99 Tryz.underlying9 hi hz0 hz1 hz2 _ _ _ rfl hown1 ⟨m.toArray⟩ rfl ?c3 ?c4 ?c5 ?_)
 case c3=>unfold maxLen;omega
 case c4=>omega
 case c5=>omega
 intro v' w2 hown' hgrow _;have HFG:=Lib.hid (fr_grown hown1 hgrow);have hlt1:b<w1.heap.size:=lt_of_block HK.out;have hb2:w2.heap[b]?=some (.cells #[.pointer (some ⟨b,0,none⟩),v] 109 (0,0)):=by
  rw[hgrow.block b hlt1 (fun e=>hne e.symm)];exact HK.out
 have d0:w2.cell? ⟨b,0,none⟩=some (.pointer (some ⟨b,0,none⟩)):=by rw[cell_of_row w2 b 0 _ 109 (0,0) hb2];rfl
 have d1:w2.cell? ⟨b,1,none⟩=some v:=by rw[cell_of_row w2 b 1 _ 109 (0,0) hb2];rfl
 have f1:w2.frozen? ⟨b,1,none⟩=false:=frozen_of_row w2 b 1 _ 109 hb2;obtain⟨ao,cap,rfl,-⟩:=own_formF hown';have HB2:=Lib.hid hb2;clear hb2;go_wp2;go_ret2;refine⟨⟨_,rfl⟩,?_,(hb1.grown hgrow (by omega) (fun k hk=>(hown1.lt k hk).1)).setCell (p:=⟨b,1,none⟩) hBb _,(HFR.out.trans HFG.out).trans (fr_set HB2.out 1 _)⟩;refine .inr ?_;rw[<-strCells_bytes];refine Lib.BuilderAt.put (T:=109) (e:=5) hBb HB2.out (bs':=Lib.byteCells l++Lib.strCells ⟨m.toArray⟩) ?_ (by decide);rw[lsa,Lib.byteCells_length,Lib.strCells_length];exact hown'
theorem bw_byte (B b:Nat) (l:Bs) (c:UInt8) (z:Int) (hz:z=(c.toNat:Int)) (w:World) (h:Bld B b l w) (hlen:l.length<=1000000) (hBw:B<=w.heap.size) :
  Calls Tryz.prog 116 #[.pointer (some ⟨b,0,none⟩),.int .u8 z] w (BwPost B b (l++[c]) w):=by
 obtain⟨v,cc⟩:=bw_checked h;have hBb:=h.lt.1;have CC:=Lib.hid cc;have HZ:=Lib.hid hz;clear cc h hz;go_enter Tryz.func116,Tryz.ntmps116;go_wp2_with fail;refine CC.out.mono ?_;rintro e w1 ⟨rfl,hbk1,hown1,hne,hb1,hfr1⟩;have HFR:=Lib.hid hfr1;clear hfr1;have hlt1:b<w1.heap.size:=lt_of_block hbk1;have c0:w1.cell? ⟨b,0,none⟩=some (.pointer (some ⟨b,0,none⟩)):=by rw[cell_of_row w1 b 0 _ 109 (0,0) hbk1];rfl
 have c1:w1.cell? ⟨b,1,none⟩=some v:=by rw[cell_of_row w1 b 1 _ 109 (0,0) hbk1];rfl
 have hA:=hown1.alloc (.cells #[.int .u8 z] 5);have HA:=Lib.hid hA;have HK:=Lib.hid (made_more hbk1 (.cells #[.int .u8 z] 5));have HM:=Lib.hid (made_at w1 (.cells #[.int .u8 z] 5) _ rfl);clear hbk1 hA;have hsz1:=hb1.size
 go_wp2_with (at_builtin;go_loud (refine wpList_append_elF _ rfl (.tmp 11) (.tmp 13) 99 rfl 5 Tryz.underlying99 infoByte rfl (by decide) (by decide) B v l.length _ rfl HA.out w1.heap.size 5 [.int .u8 z] rfl (by intro u hu;simp at hu;subst hu;rfl) rfl HM.out (by omega) (by simp;omega) ?_;intro v' w2 hown' hgrow hfr;have hb2:=(hgrow.block b (lt_of_block HK.out) (fun e=>hne e.symm)).trans HK.out;have d1:w2.cell? ⟨b,1,none⟩=some v:=(by rw[cell_of_row w2 b 1 _ 109 (0,0) hb2];rfl);have f1:w2.frozen? ⟨b,1,none⟩=false:=frozen_of_row w2 b 1 _ 109 hb2;obtain⟨ao,cap,rfl,-⟩:=own_formF hown';have HB2:=Lib.hid hb2;have HOW:=Lib.hid hown';have HGR:=Lib.hid hgrow;clear hb2 hown' hgrow hfr));go_ret;have hBw1:Below B w (w1.alloc (.cells #[.int .u8 z] 5)):=hb1.alloc (by omega) _
 refine⟨⟨_,rfl⟩,.inr ?_,(hBw1.grown HGR.out (by have:=hBw1.size;omega) (fun k hk=>(HA.out.lt k hk).1)).setCell (p:=⟨b,1,none⟩) hBb _,((HFR.out.trans (fr_below ((Below.refl _ _).alloc (Nat.le_refl _) _))).trans (fr_grown HA.out HGR.out)).trans (fr_set HB2.out 1 _)⟩;have e:Lib.byteCells (l++[c])=Lib.byteCells l++[.int .u8 z]:=by rw[HZ.out];simp[Lib.byteCells]
 rw[e];refine Lib.BuilderAt.put (T:=109) (e:=5) hBb HB2.out (bs':=Lib.byteCells l++[.int .u8 z]) ?_ (by decide);rw[lsa,Lib.byteCells_length];exact HOW.out
theorem bw_string_some (B b g cap:Nat) (p:Value) (cur:Array Value) (l:Bs) (w:World) (h0:l ≠ []) (hB:B<=g) (hbk:w.heap[b]?=some (.cells #[p,.slice (some ⟨g,0,none⟩) l.length cap] 109 (0,0))) (hg:w.heap[g]?=some (.cells cur 5 (0,0)))
  (hnc:l.length<=cap) (hcm:cap<=maxLen) (hcs:cur.size=cap) (hcell:∀ j (x:UInt8),l[j]?=some x->w.cell? ((⟨g,0,none⟩:Addr).add j)=some (.int .u8 x.toNat)) :
  Calls Tryz.prog 68 #[.pointer (some ⟨b,0,none⟩)] w fun e w'=>e=.returned (.string ⟨l.toArray⟩)/\Below B w w':=by
 have hl0:l.length≠0:=by simpa using h0
 have c1:w.drew.cell? ⟨b,1,none⟩=some (.slice (some ⟨g,0,none⟩) l.length cap):=by
  have:w.drew.heap[b]?=some (.cells #[p,.slice (some ⟨g,0,none⟩) l.length cap] 109 (0,0)):=hbk;rw[Lib.cell_of_heap this];rfl
 have hSD:(Builtin.unsafeSliceData_ #[99] 159 #[.slice (some ⟨g,0,none⟩) l.length cap]).run Tryz.prog w.drew=.ok (.pointer (some ⟨g,0,none⟩)) w.drew:=
  Lib.run_unsafeSliceData_row _ _ _ _ _ _ (by omega)
 have hUS:(Builtin.unsafeString_ #[159,3] 9 #[.pointer (some ⟨g,0,none⟩),.int .i64 l.length]).run Tryz.prog w.drew=.ok (.string ⟨l.toArray⟩) (w.drew.freeze ⟨g,0,none⟩ l.length):=by
  refine Lib.run_unsafeString_row w.drew 159 3 9 5 Tryz.underlying159 cellsByte g cur.size (by have hg':w.drew.heap[g]?=some (.cells cur 5 (0,0)):=hg;simp[World.shape?,hg']) l h0 (by omega) (by unfold maxLen at hcm;omega) ?_;intro j x hx;exact hcell j x hx
 clear hcell hcs hg hbk;go_enter Tryz.func68,Tryz.ntmps68;go_wp2;go_region;all_goals (go_wp2;go_ret;exact⟨rfl,Lib.below_freeze (Below.drew (Below.refl B w)) (p:=⟨g,0,none⟩) hB _⟩)
theorem bw_string (B b:Nat) (l:Bs) (w:World) (h:Bld B b l w) (h0:l ≠ []) :
  Calls Tryz.prog 68 #[.pointer (some ⟨b,0,none⟩)] w fun e w'=>e=.returned (.string ⟨l.toArray⟩)/\Below B w w':=by
 obtain⟨p,v,hbk,hown,hne,hBb,hp⟩:=h.at;have hl0:l.length≠0:=by simpa using h0
 have h1:=hown;rcases hown.2 with ⟨_,hz⟩ | ⟨g,cap,cur,rfl,hbg,hg,hnc,hcm,hcs,htake⟩
 ·exact absurd hz hl0
 refine bw_string_some B b g cap p cur l w h0 hbg hbk hg hnc hcm (by omega) fun j x hx=>?_
 exact h1.cells (g:=g) rfl j (.int .u8 x.toNat) (by simp[Lib.byteCells,hx])
theorem sort_p (o:Int) (b:Bool) (ao:Option Addr) (l c:Nat) (nm:ByteArray) (ko:Option Addr) (kl kc:Nat) (w:World) :
  Calls Tryz.prog 22 #[.agg #[.int .i64 o,.bool b,.slice ao l c,.string nm,.slice ko kl kc]] w fun e w'=>e=.returned (.int .i64 (srt o))/\Below w.heap.size w w':=by
 have hb:=(Below.refl w.heap.size w).alloc (Nat.le_refl _) (.cells #[.int .i64 o,.bool b,.slice ao l c,.string nm,.slice ko kl kc] 29);have HB:=Lib.hid hb;clear hb;by_cases h1:8<=o/\o<=20
 ·have:o=8\/o=9\/o=10\/o=11\/o=12\/o=13\/o=14\/o=15\/o=16\/o=17\/o=18\/o=19\/o=20:=by omega
  clear h1;rcases this with rfl | rfl | rfl | rfl | rfl | rfl | rfl | rfl | rfl | rfl | rfl | rfl | rfl;all_goals (go_enter Tryz.func22,Tryz.ntmps22;go_wp2_with fail;go_ret;exact⟨rfl,HB.out⟩)
 have hs:srt o=0:=by unfold srt;rw[if_neg (by omega),if_neg (by omega)]
 have n8:(o==8)=false:=beq_eq_false_iff_ne.2 (by omega);have n9:(o==9)=false:=beq_eq_false_iff_ne.2 (by omega);have n10:(o==10)=false:=beq_eq_false_iff_ne.2 (by omega);have n11:(o==11)=false:=beq_eq_false_iff_ne.2 (by omega);have n12:(o==12)=false:=beq_eq_false_iff_ne.2 (by omega);have n13:(o==13)=false:=beq_eq_false_iff_ne.2 (by omega);have n14:(o==14)=false:=beq_eq_false_iff_ne.2 (by omega);have n15:(o==15)=false:=beq_eq_false_iff_ne.2 (by omega);have n16:(o==16)=false:=beq_eq_false_iff_ne.2 (by omega);have n17:(o==17)=false:=beq_eq_false_iff_ne.2 (by omega);have n18:(o==18)=false:=beq_eq_false_iff_ne.2 (by omega);have n19:(o==19)=false:=beq_eq_false_iff_ne.2 (by omega);have n20:(o==20)=false:=beq_eq_false_iff_ne.2 (by omega);clear h1;go_enter Tryz.func22,Tryz.ntmps22;go_wp2_with fail;go_ret
 exact⟨by rw[hs];rfl,HB.out⟩
theorem are1_p (o:Int) (b:Bool) (ao:Option Addr) (l c:Nat) (nm:ByteArray) (ko:Option Addr) (kl kc:Nat) (s:Int) (w:World) :
  Calls Tryz.prog 159 #[.agg #[.int .i64 o,.bool b,.slice ao l c,.string nm,.slice ko kl kc],.int .i64 s] w fun e w'=>e=.returned (.bool (srt o==s))/\Below w.heap.size w w':=by
 have hb:=(Below.refl w.heap.size w).alloc (Nat.le_refl _) (.cells #[.int .i64 o,.bool b,.slice ao l c,.string nm,.slice ko kl kc] 29);have HB:=Lib.hid hb;clear hb;go_enter Tryz.func159,Tryz.ntmps159;go_wp2_with fail;refine (sort_p o b ao l c nm ko kl kc _).mono ?_;rintro e w2 ⟨rfl,hb⟩;have HW:=Lib.hid (HB.out.trans (hb.mono HB.out.size));clear hb;go_wp2_with fail;go_ret;exact⟨rfl,HW.out⟩
theorem areAll1_p (o:Int) (b:Bool) (ao:Option Addr) (l c:Nat) (nm:ByteArray) (ko:Option Addr) (kl kc:Nat) (s:Int) (kb:Nat) (w:World) (hB:w.heap[kb]?=some (.cells #[.int .i64 s] 36 (0,0))) :
  Calls Tryz.prog 161 #[.agg #[.int .i64 o,.bool b,.slice ao l c,.string nm,.slice ko kl kc],.pointer (some ⟨kb,0,none⟩)] w fun e w'=>e=.returned (.bool (srt o != s))/\Below w.heap.size w w':=by
 have HBb:=Lib.hid hB;clear hB;have HW:=Lib.hid (Below.refl w.heap.size w);go_enter Tryz.func161,Tryz.ntmps161;obtain⟨x1,kf,ef,ekf,hbf,hkf,HBf⟩:=newV w #[.int .i64 o,.bool b,.slice ao l c,.string nm,.slice ko kl kc] 29;replace HBb:=kBV hbf.out HBb;replace HW:=Lib.hid (HW.out.trans (hbf.out.mono HW.out.size));obtain⟨⟨c0,c1,c2,c3,c4⟩,fc0,fc1,fc2,fc3,fc4⟩:=cells5V HBf.out;go_upto_region 1 with fail;clear c0 fc0 c1 fc1 c2 fc2 c3 fc3 c4 fc4;have hlt_f:=lt_of_block HBf.out;have hlt_b:=lt_of_block HBb.out;have hog:Hid (∀ q,q<0->(fun q=>0) q<x1.heap.size):=Lib.hid (fun q h=>absurd h (Nat.not_lt_zero _));refine R7.region (by kernel_rfl) [[],[0],[],[0,1,2],[0,1,2,3]] [] [] (fun q=>0) 0 5 (by kernel_rfl) (by kernel_rfl) (by rfl) hog.out (fun q q' h h' hn=>absurd hn (by omega)) ?_
 refine R7.Chain.det ?_ (by rfl) (fun T xs wr hA=>?_) ?_;rotate_left 1
 ·have e2:=hA.pre 2 (by kernel_rfl);simp only[gsa,gsc,gsz] at e2;have hBq:wr.heap[kf]?=_:=(hA.bl _ hlt_f (fun q h=>absurd h (Nat.not_lt_zero _))).trans HBf.out;have q0:=cell_at (v:=.int .i64 o) hBq 0 rfl;have q1:=cell_at (v:=.bool b) hBq 1 rfl;have q2:=cell_at (v:=.slice ao l c) hBq 2 rfl;have q3:=cell_at (v:=.string nm) hBq 3 rfl;have q4:=cell_at (v:=.slice ko kl kc) hBq 4 rfl;clear hBq;clear hA;refine⟨(by rfl),?_⟩;go_simp<;>(try with_reducible rfl)
 refine R7.Chain.call (fun xs v w=>v=.int .i64 (srt o)) (fun _ _ _ _ h _=>h) (fun _ _ _ _ _ h _ _=>h) (by rfl) (fun T xs wr hA=>?_) ?_
 ·have hsw:=(hA.be 0 (Nat.zero_le _) (fun _ _=>Nat.zero_le _)).size;have e4:=hA.tm 0 4 (by rfl) (by rfl);have f4:xs 0=_:=hA.fa 0 (by rfl);(try simp (disch:=first | rfl | decide) only [R7.mask_in] at f4);rw[f4] at e4;clear f4;have hbw:=undrew (hA.be x1.heap.size (Nat.le_refl _) (fun q h=>absurd h (Nat.not_lt_zero q)));clear hA;refine⟨(by rfl),fun K hK=>?_⟩;go_simp;refine (sort_p o b ao l c nm ko kl kc wr).mono ?_;rintro e w' ⟨rfl,hb'⟩;exact hK.out _ _ rfl hb'
 refine R7.Chain.det ?_ (by rfl) (fun T xs wr hA=>?_) ?_;rotate_left 1
 ·have e1:=hA.pre 1 (by kernel_rfl);simp only[gsa,gsc,gsz] at e1;have hBq:wr.heap[kb]?=_:=(hA.bl _ hlt_b (fun q h=>absurd h (Nat.not_lt_zero _))).trans HBb.out;have q0:=cell_at (v:=.int .i64 s) hBq 0 rfl;clear hBq;clear hA;refine⟨(by rfl),?_⟩;go_simp<;>(try with_reducible rfl)
 refine R7.Chain.det ?_ (by rfl) (fun T xs wr hA=>?_) ?_;rotate_left 1
 ·have e5:=hA.tm 1 5 (by rfl) (by rfl);have f5:xs 1=(.int .i64 (srt o)):=hA.fa 1 (by rfl);rw[f5] at e5;clear f5;have e6:=hA.tm 2 6 (by rfl) (by rfl);have f6:xs 2=_:=hA.fa 2 (by rfl);(try simp (disch:=first | rfl | decide) only [R7.mask_in] at f6);rw[f6] at e6;clear f6;clear hA;refine⟨(by rfl),?_⟩;go_simp<;>(try with_reducible rfl)
 refine R7.Chain.det ?_ (by rfl) (fun T xs wr hA=>?_) ?_;rotate_left 1
 ·have e7:=hA.tm 3 7 (by rfl) (by rfl);have f7:xs 3=_:=hA.fa 3 (by rfl);(try simp (disch:=first | rfl | decide) only [R7.mask_in] at f7);rw[f7] at e7;clear f7;clear hA;refine⟨(by rfl),?_⟩;go_simp<;>(try with_reducible rfl)
 refine R7.Chain.done (fun xs x2 hL=>?_);obtain⟨⟨hbe,hbl⟩,hf,-,-⟩:=hL;have f0:xs 0=_:=hf 0 (by decide);(try simp (disch:=first | rfl | decide) only [R7.mask_in] at f0);have f1:xs 1=(.int .i64 (srt o)):=hf 1 (by decide);have f2:xs 2=_:=hf 2 (by decide);(try simp (disch:=first | rfl | decide) only [R7.mask_in] at f2);have f3:xs 3=_:=hf 3 (by decide);(try simp (disch:=first | rfl | decide) only [R7.mask_in] at f3);have f4:xs 4=_:=hf 4 (by decide);(try simp (disch:=first | rfl | decide) only [R7.mask_in] at f4);have hb0:Below 0 x1 x2:=undrew (hbe 0 (Nat.zero_le _) (fun _ _=>Nat.zero_le _));have hgr:∀ j,j<x1.heap.size->(∀ q,q<0->(fun q=>0) q≠j)->x2.heap[j]?=x1.heap[j]?:=hbl;clear hbe hbl hf
 have hb:Below x1.heap.size x1 x2:=⟨hb0.os,hb0.tape,hb0.output,hb0.size,fun q hq=>hgr q hq (fun q h=>absurd h (Nat.not_lt_zero _))⟩;refine R7.rest_done ?_;simp only[R7.fill,t5_,t6_,t7_,f0,f1,f2,f3,f4];clear hb0 hgr hog hlt_f hlt_b f0 f1 f2 f3 f4;replace HW:=Lib.hid (HW.out.trans (hb.mono HW.out.size));replace hb:=Lib.hid hb;go_wp2_with fail;go_ret;exact⟨rfl,HW.out⟩
def BL (w:World) (v:Value) (ss:List Int):Prop:=∃ ko kc,v=.slice ko ss.length kc/\(ss.length<=kc/\kc<=maxLen)/\∀ i (hi:i<ss.length),∃ a,ko=some a/\w.cell? (a.add i)=some (.int .i64 ss[i])
theorem BL.below {w w':World} {v:Value} {ss:List Int} (h:BL w v ss) (hb:Below w.heap.size w w'):BL w' v ss:=by
 obtain⟨ko,kc,rfl,h1,h2⟩:=h;refine⟨ko,kc,rfl,h1,fun i hi=>?_⟩;obtain⟨a,ha,hc⟩:=h2 i hi;exact⟨a,ha,by rw[hb.cell (World.block_lt_of_cell? w _ hc)];exact hc⟩
theorem BL.cells {w:World} {ko:Option Addr} {n kc:Nat} {ss:List Int} (h:BL w (.slice ko n kc) ss) (i:Nat) (hi:i<ss.length):∃ a,ko=some a/\w.cell? (a.add i)=some (.int .i64 ss[i]):=by
 obtain⟨ko',kc',e,h1,h2⟩:=h;injection e with e1 e2 e3;subst e1;exact h2 i hi
theorem BL.block {w:World} {g:Nat} {ss:List Int} {T:TypeId} (h:w.heap[g]?=some (.cells (ss.map (Value.int .i64)).toArray T (0,0))) (hl:ss.length<=maxLen):BL w (.slice (some ⟨g,0,none⟩) ss.length ss.length) ss:=
 ⟨_,_,rfl,⟨Nat.le_refl _,hl⟩,fun i hi=>⟨_,rfl,by rw[add_litV,Nat.zero_add,cell_of_row w g _ _ _ _ h];simp[hi]⟩⟩
theorem BL.nil (w:World):BL w (.slice none 0 0) []:=⟨none,0,rfl,⟨Nat.le_refl _,Nat.zero_le _⟩,fun i hi=>absurd hi (Nat.not_lt_zero i)⟩
theorem srts_len (ts:List F):(srts ts).length=ts.length:=by unfold srts;rw[List.length_map]
theorem srts_get (ts:List F) (i:Nat) (hi:i<ts.length) (hi':i<(srts ts).length):(srts ts)[i]=srt ts[i].op:=List.getElem_map (fun f:F=>srt f.op)
theorem equalS_p (va vb:Value) (ts:List F) (M:List Int) (d:Nat) (S:Nat->Prop) (w:World) (h1:FL w S d va ts) (h2:BL w vb M) :
  Calls Tryz.prog 158 #[va,vb,.func (.func 159) #[] #[]] w fun e w'=>e=.returned (.bool (decide (srts ts=M)))/\Below w.heap.size w w':=by
 obtain⟨ko,kc,rfl,⟨hq1,hq2,-⟩⟩:=h1.form;have h2':=h2;obtain⟨po,pc,rfl,⟨hr1,hr2⟩,-⟩:=h2';have hmx:kc<=9223372036854775807:=hq2;have hmy:pc<=9223372036854775807:=hr2;have HX:=Lib.hid h1;have HY:=Lib.hid h2;clear h1 h2 hq2 hr2;by_cases hl:ts.length=M.length
 ·have hne:(((ts.length:Nat):Int) != ((M.length:Nat):Int))=false:=by rw[hl];exact bne_self_eq_false _
  have HL:=Lib.hid hl;obtain⟨n,hn⟩:∃ n,n=ts.length:=⟨_,rfl⟩;rw[<-hn] at HL hne hq1 HX ⊢;obtain⟨n',hn'⟩:∃ n,n=M.length:=⟨_,rfl⟩;rw[<-hn'] at HL hne hr1 HY ⊢;have HN:=Lib.hid hn;have HN':=Lib.hid hn';clear hl hn hn';go_enter Tryz.func158,Tryz.ntmps158;go_wp2_with fail;clear hne;go_loopw [17] (fun i wr=>∃ j:Nat,i=.int .i64 (j:Nat)/\j<=n/\Hid ((srts ts).take j=M.take j)/\Hid (Below w.heap.size w wr)) (fun i _=>n - (intOf i).toNat)
  case atStart=>exact⟨0,rfl,Nat.zero_le _,Lib.hid rfl,Lib.hid (Below.refl _ _)⟩
  case round =>
   obtain⟨j,rfl,hj,HT,HW⟩:=hrel;by_cases hlt:j<n
   ·have hz:j<ts.length:=by rw[<-HN.out];exact hlt
    have hz2:j<M.length:=by rw[<-HN'.out,<-HL.out];exact hlt
    have hlt2:j<n':=by rw[<-HL.out];exact hlt
    obtain⟨a,bb,ao,al,ac,qo,ql,qc,rfl,⟨c0,c1,c2,c3,c4⟩,-⟩:=(HX.out.below HW.out).cells j hz;obtain⟨b,rfl,d0⟩:=(HY.out.below HW.out).cells j hz2;obtain⟨x,hxx⟩:∃ x,x=ts[j].op:=⟨_,rfl⟩;obtain⟨nm,hnm⟩:∃ x,x=ts[j].name:=⟨_,rfl⟩;obtain⟨y,hyy⟩:∃ y,y=M[j]:=⟨_,rfl⟩;rw[<-hxx] at c0;rw[<-hnm] at c3;rw[<-hyy] at d0;have HXX:=Lib.hid hxx;have HYY:=Lib.hid hyy;clear hxx hyy hnm;obtain⟨x1,k8,e8,ek8,hb8,hk8,HB8⟩:=newV wr #[.int .i64 x,.bool bb,.slice ao al ac,.string nm,.slice qo ql qc] 29;replace HW:=Lib.hid (HW.out.trans (hb8.out.mono HW.out.size));rw[<-hb8.out.cell (by have:=cell_lt d0;exact this)] at d0;obtain⟨⟨g0,g1,g2,g3,g4⟩,fg0,fg1,fg2,fg3,fg4⟩:=cells5V HB8.out;by_cases he:srt x=y
    ·have hdd:(srt x==y)=true:=by simp[he]
     have HE:=Lib.hid he;clear he;go_wp2_with fail;refine (are1_p x bb ao al ac nm qo ql qc y x1).mono ?_;rintro e w3 ⟨rfl,hb⟩;rw[hdd];replace HW:=Lib.hid (HW.out.trans (hb.mono HW.out.size));clear hb hdd;go_wp2_with fail;go_roundw
     case rel=>exact⟨j+1,by go_num,hlt,Lib.hid (take_nextV HT.out (by rw[srts_len];exact hz) hz2 (by rw[srts_get ts j hz,<-HXX.out,<-HYY.out];exact HE.out)),HW⟩
     case measure=>simp[intOf];omega
    have hdd:(srt x==y)=false:=by simp[he]
    have HE:=Lib.hid he;clear he;go_wp2_with fail;refine (are1_p x bb ao al ac nm qo ql qc y x1).mono ?_;rintro e w3 ⟨rfl,hb⟩;rw[hdd];replace HW:=Lib.hid (HW.out.trans (hb.mono HW.out.size));clear hb hdd;go_wp2_with fail;go_ret;refine⟨?_,HW.out⟩;rw[decide_eq_false (fun e=>HE.out (by rw[HXX.out,HYY.out];subst e;rw[srts_get ts j hz]))];rfl
   go_wp2_with fail;go_ret;refine⟨?_,HW.out⟩;have e:=HT.out;rw[show j=n by omega,HN.out,<-srts_len,List.take_length,srts_len,<-HN.out,HL.out,HN'.out,List.take_length] at e;rw[decide_eq_true e];rfl
 have hne:(((ts.length:Nat):Int) != ((M.length:Nat):Int))=true:=by rw[bne_iff_ne];omega
 have HL:=Lib.hid hl;clear hl;go_enter Tryz.func158,Tryz.ntmps158;go_wp2_with fail;go_ret;refine⟨?_,Below.refl _ _⟩;rw[decide_eq_false (fun e=>HL.out (by rw[<-e,srts_len]))];rfl
theorem are_p (va vb:Value) (ts:List F) (M:List Int) (d:Nat) (S:Nat->Prop) (w:World) (h1:FL w S d va ts) (h2:BL w vb M) :
  Calls Tryz.prog 112 #[va,vb] w fun e w'=>e=.returned (.bool (decide (srts ts=M)))/\Below w.heap.size w w':=by
 have HX:=Lib.hid h1;have HY:=Lib.hid h2;clear h1 h2;go_enter Tryz.func112,Tryz.ntmps112;go_wp2_with fail;refine (equalS_p _ _ ts M d S w HX.out HY.out).mono ?_;rintro e w3 ⟨rfl,hb⟩;have HB:=Lib.hid hb;clear hb;go_wp2_with fail;go_ret;exact⟨rfl,HB.out⟩
theorem index_all (va:Value) (ts:List F) (P:F->Bool) (d:Nat) (S:Nat->Prop) (w:World) (kb:Nat) (h1:FL w S d va ts) (hc:∀ f ∈ ts,∀ (v:Value) (w':World),Below w.heap.size w w'->FC w' S d v f->Calls Tryz.prog 161 #[v,.pointer (some ⟨kb,0,none⟩)] w' fun e w''=>e=.returned (.bool (P f))/\Below w'.heap.size w' w'') :
  Calls Tryz.prog 190 #[va,.func (.func 161) #[] #[.pointer (some ⟨kb,0,none⟩)]] w fun e w'=>∃ r:Int,e=.returned (.int .i64 r)/\decide (0<=r)=ts.any P/\Below w.heap.size w w':=by
 obtain⟨ko,kc,rfl,⟨hq1,hq2,-⟩⟩:=h1.form;have hmx:kc<=9223372036854775807:=hq2;have HX:=Lib.hid h1;have HC:=Lib.hid hc;clear h1 hc hq2;obtain⟨n,hn⟩:∃ n,n=ts.length:=⟨_,rfl⟩;rw[<-hn] at hq1 HX ⊢;have HN:=Lib.hid hn;clear hn;go_enter Tryz.func190,Tryz.ntmps190;go_wp2_with fail;go_loopw [8] (fun i wr=>∃ j:Nat,i=.int .i64 (j:Nat)/\j<=n/\Hid ((ts.take j).any P=false)/\Hid (Below w.heap.size w wr)) (fun i _=>n - (intOf i).toNat)
 case atStart=>exact⟨0,rfl,Nat.zero_le _,Lib.hid rfl,Lib.hid (Below.refl _ _)⟩
 case round =>
  obtain⟨j,rfl,hj,HT,HW⟩:=hrel;by_cases hlt:j<n
  ·have hz:j<ts.length:=by rw[<-HN.out];exact hlt
   obtain⟨a,bb,ao,al,ac,qo,ql,qc,rfl,⟨c0,c1,c2,c3,c4⟩,hf⟩:=(HX.out.below HW.out).cells j hz;have HF:=Lib.hid (HC.out ts[j] (List.getElem_mem hz) _ wr HW.out hf);clear hf;obtain⟨x,hxx⟩:∃ x,x=ts[j].op:=⟨_,rfl⟩;obtain⟨nm,hnm⟩:∃ x,x=ts[j].name:=⟨_,rfl⟩;rw[<-hxx] at c0 HF;rw[<-hnm] at c3 HF;clear hxx hnm;have HT':Hid ((ts.take (j+1)).any P=P ts[j]):=Lib.hid (by rw[List.take_succ_eq_append_getElem hz,List.any_append,HT.out];simp);have HA:Hid (P ts[j]=true->ts.any P=true):=Lib.hid (fun h=>List.any_eq_true.2 ⟨_,List.getElem_mem hz,h⟩);obtain⟨p,hp⟩:∃ p,p=P ts[j]:=⟨_,rfl⟩;rw[<-hp] at HF HT' HA;clear hp;go_wp2_with fail;refine HF.out.mono ?_;rintro e w3 ⟨rfl,hb⟩;replace HW:=Lib.hid (HW.out.trans (hb.mono HW.out.size));clear hb HF;cases p with
   | true =>
    go_wp2_with fail;go_ret;exact⟨j,rfl,by rw[HA.out (by trivial)];simp,HW.out⟩
   | false =>
    go_wp2_with fail;go_roundw
    case rel=>exact⟨j+1,by go_num,hlt,HT',HW⟩
    case measure=>simp[intOf];omega
  go_wp2_with fail;go_ret;refine⟨-1,rfl,?_,HW.out⟩;have e:=HT.out;rw[show j=n by omega,HN.out,List.take_length] at e;rw[e];rfl
theorem contains_all (va:Value) (ts:List F) (P:F->Bool) (d:Nat) (S:Nat->Prop) (w:World) (kb:Nat) (h1:FL w S d va ts) (hc:∀ f ∈ ts,∀ (v:Value) (w':World),Below w.heap.size w w'->FC w' S d v f->Calls Tryz.prog 161 #[v,.pointer (some ⟨kb,0,none⟩)] w' fun e w''=>e=.returned (.bool (P f))/\Below w'.heap.size w' w'') :
  Calls Tryz.prog 160 #[va,.func (.func 161) #[] #[.pointer (some ⟨kb,0,none⟩)]] w fun e w'=>e=.returned (.bool (ts.any P))/\Below w.heap.size w w':=by
 have HI:=Lib.hid (index_all va ts P d S w kb h1 hc);clear h1 hc;go_enter Tryz.func160,Tryz.ntmps160;go_wp2_with fail;refine HI.out.mono ?_;rintro e w3 ⟨r,rfl,hr,hb⟩;have HB:=Lib.hid hb;have HR:=Lib.hid hr;clear hb hr HI;go_wp2_with fail;go_ret;exact⟨by rw[<-HR.out];rfl,HB.out⟩
theorem areAll_p (va:Value) (s:Int) (ts:List F) (d:Nat) (S:Nat->Prop) (w:World) (h1:FL w S d va ts) :
  Calls Tryz.prog 113 #[va,.int .i64 s] w fun e w'=>e=.returned (.bool ((srts ts).all fun q=>decide (q=s)))/\Below w.heap.size w w':=by
 have HX:=Lib.hid h1;clear h1;have HW:=Lib.hid (Below.refl w.heap.size w);go_enter Tryz.func113,Tryz.ntmps113;obtain⟨x1,kb,eb,ekb,hbb,hkb,HBb⟩:=newV w #[.int .i64 s] 36;replace HW:=Lib.hid (HW.out.trans (hbb.out.mono HW.out.size));replace HX:=Lib.hid (HX.out.below hbb.out);go_wp2_with fail;refine (contains_all va ts (fun f=>srt f.op != s) d S x1 kb HX.out (fun f hf v w' hb hv=>?_)).mono ?_
 ·obtain⟨b,ao,l,c,ko,kl,kc,rfl,-,-,-⟩:=hv.open;exact areAll1_p _ _ _ _ _ _ _ _ _ s kb w' ((hb.block _ (lt_of_block HBb.out)).trans HBb.out)
 rintro e w3 ⟨rfl,hb⟩;replace HW:=Lib.hid (HW.out.trans (hb.mono HW.out.size));clear hb;go_wp2_with fail;go_ret;refine⟨?_,HW.out⟩;rw[show (srts ts).all (fun q=>decide (q=s)) = !ts.any (fun f=>srt f.op != s) by
  unfold srts;rw[List.all_map,List.not_any_eq_all_not];congr 1;funext f;by_cases h:srt f.op=s<;>simp[h]]
 rfl
theorem fits_p (v:Value) (t:F) (d:Nat) (S:Nat->Prop) (w:World) (h:FC w S d v t) :
  Calls Tryz.prog 64 #[v] w fun e w'=>e=.returned (.bool (fitF t.op t.num (srts t.kids)))/\Below w.heap.size w w':=by
 obtain⟨b,ao,l,c,ko,kl,kc,rfl,⟨hr,hz,-,-,-⟩,-,hk⟩:=h.open;obtain⟨o,z,nm,ks⟩:=t;simp only[F.op,F.num,F.name,F.kids] at hr hz hk ⊢;clear h hr;rcases ops21 o with h | h
 ·rcases h with rfl | rfl | rfl | rfl | rfl | rfl | rfl | rfl | rfl | rfl | rfl | rfl | rfl | rfl | rfl | rfl | rfl | rfl | rfl | rfl | rfl
  ·have HX:=Lib.hid hk;clear hk hz;have HW:=Lib.hid (Below.refl w.heap.size w);go_enter Tryz.func64,Tryz.ntmps64;obtain⟨x1,kf,ef,ekf,hbf,hkf,HBf⟩:=newV w #[.int .i64 0,.bool b,.slice ao l c,.string nm,.slice ko kl kc] 29;replace HX:=Lib.hid (HX.out.below hbf.out);replace HW:=Lib.hid (HW.out.trans (hbf.out.mono HW.out.size));obtain⟨⟨c0,c1,c2,c3,c4⟩,fc0,fc1,fc2,fc3,fc4⟩:=cells5V HBf.out;go_wp2_with fail;refine (are_p _ _ ks [] (d - 1) S x1 HX.out (BL.nil _)).mono ?_;rintro e x2 ⟨rfl,hb⟩;clear c0 fc0 c1 fc1 c2 fc2 c3 fc3 c4 fc4;replace HW:=Lib.hid (HW.out.trans (hb.mono HW.out.size));go_wp2_with fail;go_ret;exact⟨by simp[fitF,kidsOk],HW.out⟩
  ·have HX:=Lib.hid hk;clear hk hz;have HW:=Lib.hid (Below.refl w.heap.size w);go_enter Tryz.func64,Tryz.ntmps64;obtain⟨x1,kf,ef,ekf,hbf,hkf,HBf⟩:=newV w #[.int .i64 1,.bool b,.slice ao l c,.string nm,.slice ko kl kc] 29;replace HX:=Lib.hid (HX.out.below hbf.out);replace HW:=Lib.hid (HW.out.trans (hbf.out.mono HW.out.size));obtain⟨⟨c0,c1,c2,c3,c4⟩,fc0,fc1,fc2,fc3,fc4⟩:=cells5V HBf.out;go_wp2_with fail;refine (are_p _ _ ks [] (d - 1) S x1 HX.out (BL.nil _)).mono ?_;rintro e x2 ⟨rfl,hb⟩;clear c0 fc0 c1 fc1 c2 fc2 c3 fc3 c4 fc4;replace HW:=Lib.hid (HW.out.trans (hb.mono HW.out.size));go_wp2_with fail;go_ret;exact⟨by simp[fitF,kidsOk],HW.out⟩
  ·have HX:=Lib.hid hk;clear hk hz;have HW:=Lib.hid (Below.refl w.heap.size w);go_enter Tryz.func64,Tryz.ntmps64;obtain⟨x1,kf,ef,ekf,hbf,hkf,HBf⟩:=newV w #[.int .i64 2,.bool b,.slice ao l c,.string nm,.slice ko kl kc] 29;replace HX:=Lib.hid (HX.out.below hbf.out);replace HW:=Lib.hid (HW.out.trans (hbf.out.mono HW.out.size));obtain⟨⟨c0,c1,c2,c3,c4⟩,fc0,fc1,fc2,fc3,fc4⟩:=cells5V HBf.out;obtain⟨x2,ky,ey,eky,hby,hky,HBy⟩:=newV x1 #[.int .i64 0,.int .i64 0] 36;replace HX:=Lib.hid (HX.out.below hby.out);replace HW:=Lib.hid (HW.out.trans (hby.out.mono HW.out.size));go_wp2_with fail;refine (are_p _ _ ks [0,0] (d - 1) S x2 HX.out (BL.block (ss:=[0,0]) HBy.out (by decide))).mono ?_;rintro e x3 ⟨rfl,hb⟩;clear c0 fc0 c1 fc1 c2 fc2 c3 fc3 c4 fc4;replace HW:=Lib.hid (HW.out.trans (hb.mono HW.out.size))
   go_wp2_with fail;go_ret;exact⟨by simp[fitF,kidsOk],HW.out⟩
  ·have HX:=Lib.hid hk;clear hk hz;have HW:=Lib.hid (Below.refl w.heap.size w);go_enter Tryz.func64,Tryz.ntmps64;obtain⟨x1,kf,ef,ekf,hbf,hkf,HBf⟩:=newV w #[.int .i64 3,.bool b,.slice ao l c,.string nm,.slice ko kl kc] 29;replace HX:=Lib.hid (HX.out.below hbf.out);replace HW:=Lib.hid (HW.out.trans (hbf.out.mono HW.out.size));obtain⟨⟨c0,c1,c2,c3,c4⟩,fc0,fc1,fc2,fc3,fc4⟩:=cells5V HBf.out;obtain⟨x2,ky,ey,eky,hby,hky,HBy⟩:=newV x1 #[.int .i64 0] 36;replace HX:=Lib.hid (HX.out.below hby.out);replace HW:=Lib.hid (HW.out.trans (hby.out.mono HW.out.size));go_wp2_with fail;refine (are_p _ _ ks [0] (d - 1) S x2 HX.out (BL.block (ss:=[0]) HBy.out (by decide))).mono ?_;rintro e x3 ⟨rfl,hb⟩;clear c0 fc0 c1 fc1 c2 fc2 c3 fc3 c4 fc4;replace HW:=Lib.hid (HW.out.trans (hb.mono HW.out.size));go_wp2_with fail
   go_ret;exact⟨by simp[fitF,kidsOk],HW.out⟩
  ·have HX:=Lib.hid hk;clear hk hz;have HW:=Lib.hid (Below.refl w.heap.size w);go_enter Tryz.func64,Tryz.ntmps64;obtain⟨x1,kf,ef,ekf,hbf,hkf,HBf⟩:=newV w #[.int .i64 4,.bool b,.slice ao l c,.string nm,.slice ko kl kc] 29;replace HX:=Lib.hid (HX.out.below hbf.out);replace HW:=Lib.hid (HW.out.trans (hbf.out.mono HW.out.size));obtain⟨⟨c0,c1,c2,c3,c4⟩,fc0,fc1,fc2,fc3,fc4⟩:=cells5V HBf.out;obtain⟨x2,ky,ey,eky,hby,hky,HBy⟩:=newV x1 #[.int .i64 0,.int .i64 0] 36;replace HX:=Lib.hid (HX.out.below hby.out);replace HW:=Lib.hid (HW.out.trans (hby.out.mono HW.out.size));go_wp2_with fail;refine (are_p _ _ ks [0,0] (d - 1) S x2 HX.out (BL.block (ss:=[0,0]) HBy.out (by decide))).mono ?_;rintro e x3 ⟨rfl,hb⟩;clear c0 fc0 c1 fc1 c2 fc2 c3 fc3 c4 fc4;replace HW:=Lib.hid (HW.out.trans (hb.mono HW.out.size))
   go_wp2_with fail;go_ret;exact⟨by simp[fitF,kidsOk],HW.out⟩
  ·have HX:=Lib.hid hk;have HZ:=Lib.hid hz;clear hk hz;have HW:=Lib.hid (Below.refl w.heap.size w);go_enter Tryz.func64,Tryz.ntmps64;obtain⟨x1,kf,ef,ekf,hbf,hkf,HBf⟩:=newV w #[.int .i64 5,.bool b,.slice ao l c,.string nm,.slice ko kl kc] 29;replace HX:=Lib.hid (HX.out.below hbf.out);replace HZ:=Lib.hid (HZ.out.below hbf.out);replace HW:=Lib.hid (HW.out.trans (hbf.out.mono HW.out.size));obtain⟨⟨c0,c1,c2,c3,c4⟩,fc0,fc1,fc2,fc3,fc4⟩:=cells5V HBf.out;go_wp2_with fail;refine (wsign_any _ z 600 x1 HZ.out.gi (by decide)).mono ?_;rintro e x2 ⟨rfl,hb⟩;replace HBf:=kBV hb HBf;replace HX:=Lib.hid (HX.out.below hb);replace HW:=Lib.hid (HW.out.trans (hb.mono HW.out.size));clear c0 fc0 c1 fc1 c2 fc2 c3 fc3 c4 fc4;clear hb;obtain⟨⟨c0,c1,c2,c3,c4⟩,fc0,fc1,fc2,fc3,fc4⟩:=cells5V HBf.out;by_cases hs:z<1
   ·have hlt:decide (sgnZ z<1)=true:=by unfold sgnZ;(repeat' split)<;>first | rfl | (simp;omega) | (exfalso;omega)
    have hfit:fitF 5 z (srts ks)=false:=by simp[fitF,kidsOk];omega
    go_wp2_with fail;go_ret;exact⟨by rw[hfit];rfl,HW.out⟩
   have hlt:decide (sgnZ z<1)=false:=by unfold sgnZ;(repeat' split)<;>first | rfl | (simp;omega) | (exfalso;omega)
   have hz1:decide (1<=z)=true:=by simp;omega
   obtain⟨x3,ky,ey,eky,hby,hky,HBy⟩:=newV x2 #[.int .i64 0] 36;replace HX:=Lib.hid (HX.out.below hby.out);replace HW:=Lib.hid (HW.out.trans (hby.out.mono HW.out.size));go_wp2_with fail;refine (are_p _ _ ks [0] (d - 1) S x3 HX.out (BL.block (ss:=[0]) HBy.out (by decide))).mono ?_;rintro e x4 ⟨rfl,hb⟩;clear c0 fc0 c1 fc1 c2 fc2 c3 fc3 c4 fc4;replace HW:=Lib.hid (HW.out.trans (hb.mono HW.out.size));go_wp2_with fail;go_ret;exact⟨by simp[fitF,kidsOk,hz1],HW.out⟩
  ·have HX:=Lib.hid hk;clear hk hz;have HW:=Lib.hid (Below.refl w.heap.size w);go_enter Tryz.func64,Tryz.ntmps64;obtain⟨x1,kf,ef,ekf,hbf,hkf,HBf⟩:=newV w #[.int .i64 6,.bool b,.slice ao l c,.string nm,.slice ko kl kc] 29;replace HX:=Lib.hid (HX.out.below hbf.out);replace HW:=Lib.hid (HW.out.trans (hbf.out.mono HW.out.size));obtain⟨⟨c0,c1,c2,c3,c4⟩,fc0,fc1,fc2,fc3,fc4⟩:=cells5V HBf.out;obtain⟨x2,ky,ey,eky,hby,hky,HBy⟩:=newV x1 #[.int .i64 2] 36;replace HX:=Lib.hid (HX.out.below hby.out);replace HW:=Lib.hid (HW.out.trans (hby.out.mono HW.out.size));go_wp2_with fail;refine (are_p _ _ ks [2] (d - 1) S x2 HX.out (BL.block (ss:=[2]) HBy.out (by decide))).mono ?_;rintro e x3 ⟨rfl,hb⟩;clear c0 fc0 c1 fc1 c2 fc2 c3 fc3 c4 fc4;replace HW:=Lib.hid (HW.out.trans (hb.mono HW.out.size));go_wp2_with fail
   go_ret;exact⟨by simp[fitF,kidsOk],HW.out⟩
  ·have HX:=Lib.hid hk;clear hk hz;have HW:=Lib.hid (Below.refl w.heap.size w);go_enter Tryz.func64,Tryz.ntmps64;obtain⟨x1,kf,ef,ekf,hbf,hkf,HBf⟩:=newV w #[.int .i64 7,.bool b,.slice ao l c,.string nm,.slice ko kl kc] 29;replace HX:=Lib.hid (HX.out.below hbf.out);replace HW:=Lib.hid (HW.out.trans (hbf.out.mono HW.out.size));obtain⟨⟨c0,c1,c2,c3,c4⟩,fc0,fc1,fc2,fc3,fc4⟩:=cells5V HBf.out;obtain⟨x2,ky,ey,eky,hby,hky,HBy⟩:=newV x1 #[.int .i64 2] 36;replace HX:=Lib.hid (HX.out.below hby.out);replace HW:=Lib.hid (HW.out.trans (hby.out.mono HW.out.size));go_wp2_with fail;refine (are_p _ _ ks [2] (d - 1) S x2 HX.out (BL.block (ss:=[2]) HBy.out (by decide))).mono ?_;rintro e x3 ⟨rfl,hb⟩;clear c0 fc0 c1 fc1 c2 fc2 c3 fc3 c4 fc4;replace HW:=Lib.hid (HW.out.trans (hb.mono HW.out.size));go_wp2_with fail
   go_ret;exact⟨by simp[fitF,kidsOk],HW.out⟩
  ·have HX:=Lib.hid hk;clear hk hz;have HW:=Lib.hid (Below.refl w.heap.size w);go_enter Tryz.func64,Tryz.ntmps64;obtain⟨x1,kf,ef,ekf,hbf,hkf,HBf⟩:=newV w #[.int .i64 8,.bool b,.slice ao l c,.string nm,.slice ko kl kc] 29;replace HX:=Lib.hid (HX.out.below hbf.out);replace HW:=Lib.hid (HW.out.trans (hbf.out.mono HW.out.size));obtain⟨⟨c0,c1,c2,c3,c4⟩,fc0,fc1,fc2,fc3,fc4⟩:=cells5V HBf.out;go_wp2_with fail;refine (are_p _ _ ks [] (d - 1) S x1 HX.out (BL.nil _)).mono ?_;rintro e x2 ⟨rfl,hb⟩;clear c0 fc0 c1 fc1 c2 fc2 c3 fc3 c4 fc4;replace HW:=Lib.hid (HW.out.trans (hb.mono HW.out.size));go_wp2_with fail;go_ret;exact⟨by simp[fitF,kidsOk],HW.out⟩
  ·have HX:=Lib.hid hk;clear hk hz;have HW:=Lib.hid (Below.refl w.heap.size w);go_enter Tryz.func64,Tryz.ntmps64;obtain⟨x1,kf,ef,ekf,hbf,hkf,HBf⟩:=newV w #[.int .i64 9,.bool b,.slice ao l c,.string nm,.slice ko kl kc] 29;replace HX:=Lib.hid (HX.out.below hbf.out);replace HW:=Lib.hid (HW.out.trans (hbf.out.mono HW.out.size));obtain⟨⟨c0,c1,c2,c3,c4⟩,fc0,fc1,fc2,fc3,fc4⟩:=cells5V HBf.out;go_wp2_with fail;refine (are_p _ _ ks [] (d - 1) S x1 HX.out (BL.nil _)).mono ?_;rintro e x2 ⟨rfl,hb⟩;clear c0 fc0 c1 fc1 c2 fc2 c3 fc3 c4 fc4;replace HW:=Lib.hid (HW.out.trans (hb.mono HW.out.size));go_wp2_with fail;go_ret;exact⟨by simp[fitF,kidsOk],HW.out⟩
  ·have HX:=Lib.hid hk;clear hk hz;have HW:=Lib.hid (Below.refl w.heap.size w);go_enter Tryz.func64,Tryz.ntmps64;obtain⟨x1,kf,ef,ekf,hbf,hkf,HBf⟩:=newV w #[.int .i64 10,.bool b,.slice ao l c,.string nm,.slice ko kl kc] 29;replace HX:=Lib.hid (HX.out.below hbf.out);replace HW:=Lib.hid (HW.out.trans (hbf.out.mono HW.out.size));obtain⟨⟨c0,c1,c2,c3,c4⟩,fc0,fc1,fc2,fc3,fc4⟩:=cells5V HBf.out;obtain⟨x2,ky,ey,eky,hby,hky,HBy⟩:=newV x1 #[.int .i64 0,.int .i64 2] 36;replace HX:=Lib.hid (HX.out.below hby.out);replace HW:=Lib.hid (HW.out.trans (hby.out.mono HW.out.size));go_wp2_with fail;refine (are_p _ _ ks [0,2] (d - 1) S x2 HX.out (BL.block (ss:=[0,2]) HBy.out (by decide))).mono ?_;rintro e x3 ⟨rfl,hb⟩;clear c0 fc0 c1 fc1 c2 fc2 c3 fc3 c4 fc4;replace HW:=Lib.hid (HW.out.trans (hb.mono HW.out.size))
   go_wp2_with fail;go_ret;exact⟨by simp[fitF,kidsOk],HW.out⟩
  ·have HX:=Lib.hid hk;clear hk hz;have HW:=Lib.hid (Below.refl w.heap.size w);go_enter Tryz.func64,Tryz.ntmps64;obtain⟨x1,kf,ef,ekf,hbf,hkf,HBf⟩:=newV w #[.int .i64 11,.bool b,.slice ao l c,.string nm,.slice ko kl kc] 29;replace HX:=Lib.hid (HX.out.below hbf.out);replace HW:=Lib.hid (HW.out.trans (hbf.out.mono HW.out.size));obtain⟨⟨c0,c1,c2,c3,c4⟩,fc0,fc1,fc2,fc3,fc4⟩:=cells5V HBf.out;obtain⟨x2,ky,ey,eky,hby,hky,HBy⟩:=newV x1 #[.int .i64 2] 36;replace HX:=Lib.hid (HX.out.below hby.out);replace HW:=Lib.hid (HW.out.trans (hby.out.mono HW.out.size));go_wp2_with fail;refine (are_p _ _ ks [2] (d - 1) S x2 HX.out (BL.block (ss:=[2]) HBy.out (by decide))).mono ?_;rintro e x3 ⟨rfl,hb⟩;clear c0 fc0 c1 fc1 c2 fc2 c3 fc3 c4 fc4;replace HW:=Lib.hid (HW.out.trans (hb.mono HW.out.size))
   go_wp2_with fail;go_ret;exact⟨by simp[fitF,kidsOk],HW.out⟩
  ·have HX:=Lib.hid hk;clear hk hz;have HW:=Lib.hid (Below.refl w.heap.size w);go_enter Tryz.func64,Tryz.ntmps64;obtain⟨x1,kf,ef,ekf,hbf,hkf,HBf⟩:=newV w #[.int .i64 12,.bool b,.slice ao l c,.string nm,.slice ko kl kc] 29;replace HX:=Lib.hid (HX.out.below hbf.out);replace HW:=Lib.hid (HW.out.trans (hbf.out.mono HW.out.size));obtain⟨⟨c0,c1,c2,c3,c4⟩,fc0,fc1,fc2,fc3,fc4⟩:=cells5V HBf.out;go_wp2_with fail;refine (are_p _ _ ks [] (d - 1) S x1 HX.out (BL.nil _)).mono ?_;rintro e x2 ⟨rfl,hb⟩;clear c0 fc0 c1 fc1 c2 fc2 c3 fc3 c4 fc4;replace HW:=Lib.hid (HW.out.trans (hb.mono HW.out.size));go_wp2_with fail;go_ret;exact⟨by simp[fitF,kidsOk],HW.out⟩
  ·have HX:=Lib.hid hk;clear hk hz;have HW:=Lib.hid (Below.refl w.heap.size w);go_enter Tryz.func64,Tryz.ntmps64;obtain⟨x1,kf,ef,ekf,hbf,hkf,HBf⟩:=newV w #[.int .i64 13,.bool b,.slice ao l c,.string nm,.slice ko kl kc] 29;replace HX:=Lib.hid (HX.out.below hbf.out);replace HW:=Lib.hid (HW.out.trans (hbf.out.mono HW.out.size));obtain⟨⟨c0,c1,c2,c3,c4⟩,fc0,fc1,fc2,fc3,fc4⟩:=cells5V HBf.out;go_wp2_with fail;refine (are_p _ _ ks [] (d - 1) S x1 HX.out (BL.nil _)).mono ?_;rintro e x2 ⟨rfl,hb⟩;clear c0 fc0 c1 fc1 c2 fc2 c3 fc3 c4 fc4;replace HW:=Lib.hid (HW.out.trans (hb.mono HW.out.size));go_wp2_with fail;go_ret;exact⟨by simp[fitF,kidsOk],HW.out⟩
  ·have HX:=Lib.hid hk;clear hk hz;have HW:=Lib.hid (Below.refl w.heap.size w);go_enter Tryz.func64,Tryz.ntmps64;obtain⟨x1,kf,ef,ekf,hbf,hkf,HBf⟩:=newV w #[.int .i64 14,.bool b,.slice ao l c,.string nm,.slice ko kl kc] 29;replace HX:=Lib.hid (HX.out.below hbf.out);replace HW:=Lib.hid (HW.out.trans (hbf.out.mono HW.out.size));obtain⟨⟨c0,c1,c2,c3,c4⟩,fc0,fc1,fc2,fc3,fc4⟩:=cells5V HBf.out;go_wp2_with fail;refine (are_p _ _ ks [] (d - 1) S x1 HX.out (BL.nil _)).mono ?_;rintro e x2 ⟨rfl,hb⟩;clear c0 fc0 c1 fc1 c2 fc2 c3 fc3 c4 fc4;replace HW:=Lib.hid (HW.out.trans (hb.mono HW.out.size));go_wp2_with fail;go_ret;exact⟨by simp[fitF,kidsOk],HW.out⟩
  ·have HX:=Lib.hid hk;clear hk hz;have HW:=Lib.hid (Below.refl w.heap.size w);go_enter Tryz.func64,Tryz.ntmps64;obtain⟨x1,kf,ef,ekf,hbf,hkf,HBf⟩:=newV w #[.int .i64 15,.bool b,.slice ao l c,.string nm,.slice ko kl kc] 29;replace HX:=Lib.hid (HX.out.below hbf.out);replace HW:=Lib.hid (HW.out.trans (hbf.out.mono HW.out.size));obtain⟨⟨c0,c1,c2,c3,c4⟩,fc0,fc1,fc2,fc3,fc4⟩:=cells5V HBf.out;obtain⟨x2,ky,ey,eky,hby,hky,HBy⟩:=newV x1 #[.int .i64 0,.int .i64 0] 36;replace HX:=Lib.hid (HX.out.below hby.out);replace HW:=Lib.hid (HW.out.trans (hby.out.mono HW.out.size));go_wp2_with fail;refine (are_p _ _ ks [0,0] (d - 1) S x2 HX.out (BL.block (ss:=[0,0]) HBy.out (by decide))).mono ?_;rintro e x3 ⟨rfl,hb⟩;clear c0 fc0 c1 fc1 c2 fc2 c3 fc3 c4 fc4;replace HW:=Lib.hid (HW.out.trans (hb.mono HW.out.size))
   go_wp2_with fail;go_ret;exact⟨by simp[fitF,kidsOk],HW.out⟩
  ·have HX:=Lib.hid hk;clear hk hz;have HW:=Lib.hid (Below.refl w.heap.size w);go_enter Tryz.func64,Tryz.ntmps64;obtain⟨x1,kf,ef,ekf,hbf,hkf,HBf⟩:=newV w #[.int .i64 16,.bool b,.slice ao l c,.string nm,.slice ko kl kc] 29;replace HX:=Lib.hid (HX.out.below hbf.out);replace HW:=Lib.hid (HW.out.trans (hbf.out.mono HW.out.size));obtain⟨⟨c0,c1,c2,c3,c4⟩,fc0,fc1,fc2,fc3,fc4⟩:=cells5V HBf.out;obtain⟨x2,ky,ey,eky,hby,hky,HBy⟩:=newV x1 #[.int .i64 0,.int .i64 0] 36;replace HBf:=kBV hby.out HBf;replace HX:=Lib.hid (HX.out.below hby.out);replace HW:=Lib.hid (HW.out.trans (hby.out.mono HW.out.size));go_wp2_with fail;refine (are_p _ _ ks [0,0] (d - 1) S x2 HX.out (BL.block (ss:=[0,0]) HBy.out (by decide))).mono ?_;rintro e x3 ⟨rfl,hb⟩;clear c0 fc0 c1 fc1 c2 fc2 c3 fc3 c4 fc4;replace HBf:=kBV hb HBf
   replace HX:=Lib.hid (HX.out.below hb);replace HW:=Lib.hid (HW.out.trans (hb.mono HW.out.size));obtain⟨⟨c0,c1,c2,c3,c4⟩,fc0,fc1,fc2,fc3,fc4⟩:=cells5V HBf.out;by_cases hs:srts ks=[0,0]
   ·rw[decide_eq_true hs];go_wp2_with fail;go_ret;exact⟨by simp[fitF,kidsOk,hs],HW.out⟩
   rw[decide_eq_false hs];obtain⟨x4,kt,et,ekt,hbt,hkt,HBt⟩:=newV x3 #[.int .i64 2,.int .i64 2] 36;replace HX:=Lib.hid (HX.out.below hbt.out);replace HW:=Lib.hid (HW.out.trans (hbt.out.mono HW.out.size));go_wp2_with fail;refine (are_p _ _ ks [2,2] (d - 1) S x4 HX.out (BL.block (ss:=[2,2]) HBt.out (by decide))).mono ?_;rintro e x5 ⟨rfl,hb⟩;clear c0 fc0 c1 fc1 c2 fc2 c3 fc3 c4 fc4;replace HW:=Lib.hid (HW.out.trans (hb.mono HW.out.size));go_wp2_with fail;go_ret;exact⟨by simp[fitF,kidsOk,hs],HW.out⟩
  ·have HX:=Lib.hid hk;clear hk hz;have HW:=Lib.hid (Below.refl w.heap.size w);go_enter Tryz.func64,Tryz.ntmps64;obtain⟨x1,kf,ef,ekf,hbf,hkf,HBf⟩:=newV w #[.int .i64 17,.bool b,.slice ao l c,.string nm,.slice ko kl kc] 29;replace HX:=Lib.hid (HX.out.below hbf.out);replace HW:=Lib.hid (HW.out.trans (hbf.out.mono HW.out.size));obtain⟨⟨c0,c1,c2,c3,c4⟩,fc0,fc1,fc2,fc3,fc4⟩:=cells5V HBf.out;obtain⟨x2,ky,ey,eky,hby,hky,HBy⟩:=newV x1 #[.int .i64 1] 36;replace HX:=Lib.hid (HX.out.below hby.out);replace HW:=Lib.hid (HW.out.trans (hby.out.mono HW.out.size));go_wp2_with fail;refine (are_p _ _ ks [1] (d - 1) S x2 HX.out (BL.block (ss:=[1]) HBy.out (by decide))).mono ?_;rintro e x3 ⟨rfl,hb⟩;clear c0 fc0 c1 fc1 c2 fc2 c3 fc3 c4 fc4;replace HW:=Lib.hid (HW.out.trans (hb.mono HW.out.size))
   go_wp2_with fail;go_ret;exact⟨by simp[fitF,kidsOk],HW.out⟩
  ·have HX:=Lib.hid hk;clear hk hz;have HW:=Lib.hid (Below.refl w.heap.size w);go_enter Tryz.func64,Tryz.ntmps64;obtain⟨x1,kf,ef,ekf,hbf,hkf,HBf⟩:=newV w #[.int .i64 18,.bool b,.slice ao l c,.string nm,.slice ko kl kc] 29;replace HX:=Lib.hid (HX.out.below hbf.out);replace HW:=Lib.hid (HW.out.trans (hbf.out.mono HW.out.size));obtain⟨⟨c0,c1,c2,c3,c4⟩,fc0,fc1,fc2,fc3,fc4⟩:=cells5V HBf.out;go_wp2_with fail;refine (areAll_p _ 1 ks (d - 1) S x1 HX.out).mono ?_;rintro e x2 ⟨rfl,hb⟩;clear c0 fc0 c1 fc1 c2 fc2 c3 fc3 c4 fc4;replace HW:=Lib.hid (HW.out.trans (hb.mono HW.out.size));go_wp2_with fail;go_ret;exact⟨by simp[fitF,kidsOk],HW.out⟩
  ·have HX:=Lib.hid hk;clear hk hz;have HW:=Lib.hid (Below.refl w.heap.size w);go_enter Tryz.func64,Tryz.ntmps64;obtain⟨x1,kf,ef,ekf,hbf,hkf,HBf⟩:=newV w #[.int .i64 19,.bool b,.slice ao l c,.string nm,.slice ko kl kc] 29;replace HX:=Lib.hid (HX.out.below hbf.out);replace HW:=Lib.hid (HW.out.trans (hbf.out.mono HW.out.size));obtain⟨⟨c0,c1,c2,c3,c4⟩,fc0,fc1,fc2,fc3,fc4⟩:=cells5V HBf.out;go_wp2_with fail;refine (areAll_p _ 1 ks (d - 1) S x1 HX.out).mono ?_;rintro e x2 ⟨rfl,hb⟩;clear c0 fc0 c1 fc1 c2 fc2 c3 fc3 c4 fc4;replace HW:=Lib.hid (HW.out.trans (hb.mono HW.out.size));go_wp2_with fail;go_ret;exact⟨by simp[fitF,kidsOk],HW.out⟩
  have HX:=Lib.hid hk;clear hk hz;have HW:=Lib.hid (Below.refl w.heap.size w);go_enter Tryz.func64,Tryz.ntmps64;obtain⟨x1,kf,ef,ekf,hbf,hkf,HBf⟩:=newV w #[.int .i64 20,.bool b,.slice ao l c,.string nm,.slice ko kl kc] 29;replace HX:=Lib.hid (HX.out.below hbf.out);replace HW:=Lib.hid (HW.out.trans (hbf.out.mono HW.out.size));obtain⟨⟨c0,c1,c2,c3,c4⟩,fc0,fc1,fc2,fc3,fc4⟩:=cells5V HBf.out;obtain⟨x2,ky,ey,eky,hby,hky,HBy⟩:=newV x1 #[.int .i64 1,.int .i64 1] 36;replace HX:=Lib.hid (HX.out.below hby.out);replace HW:=Lib.hid (HW.out.trans (hby.out.mono HW.out.size));go_wp2_with fail;refine (are_p _ _ ks [1,1] (d - 1) S x2 HX.out (BL.block (ss:=[1,1]) HBy.out (by decide))).mono ?_;rintro e x3 ⟨rfl,hb⟩;clear c0 fc0 c1 fc1 c2 fc2 c3 fc3 c4 fc4;replace HW:=Lib.hid (HW.out.trans (hb.mono HW.out.size))
  go_wp2_with fail;go_ret;exact⟨by simp[fitF,kidsOk],HW.out⟩
 have n0:(o==0)=false:=beq_eq_false_iff_ne.2 (by omega);have n1:(o==1)=false:=beq_eq_false_iff_ne.2 (by omega);have n2:(o==2)=false:=beq_eq_false_iff_ne.2 (by omega);have n3:(o==3)=false:=beq_eq_false_iff_ne.2 (by omega);have n4:(o==4)=false:=beq_eq_false_iff_ne.2 (by omega);have n5:(o==5)=false:=beq_eq_false_iff_ne.2 (by omega);have n6:(o==6)=false:=beq_eq_false_iff_ne.2 (by omega);have n7:(o==7)=false:=beq_eq_false_iff_ne.2 (by omega);have n8:(o==8)=false:=beq_eq_false_iff_ne.2 (by omega);have n9:(o==9)=false:=beq_eq_false_iff_ne.2 (by omega);have n10:(o==10)=false:=beq_eq_false_iff_ne.2 (by omega);have n11:(o==11)=false:=beq_eq_false_iff_ne.2 (by omega);have n12:(o==12)=false:=beq_eq_false_iff_ne.2 (by omega);have n13:(o==13)=false:=beq_eq_false_iff_ne.2 (by omega)
 have n14:(o==14)=false:=beq_eq_false_iff_ne.2 (by omega);have n15:(o==15)=false:=beq_eq_false_iff_ne.2 (by omega);have n16:(o==16)=false:=beq_eq_false_iff_ne.2 (by omega);have n17:(o==17)=false:=beq_eq_false_iff_ne.2 (by omega);have n18:(o==18)=false:=beq_eq_false_iff_ne.2 (by omega);have n19:(o==19)=false:=beq_eq_false_iff_ne.2 (by omega);have n20:(o==20)=false:=beq_eq_false_iff_ne.2 (by omega);have hf:fitF o z (srts ks)=false:=by
  unfold fitF kidsOk;rw[if_neg (by omega),if_neg (by omega),if_neg (by omega),if_neg (by omega),if_neg (by omega),if_neg (by omega),if_neg (by omega),if_neg (by omega),if_neg (by omega)];rfl
 clear h;have HW:=Lib.hid ((Below.refl w.heap.size w).alloc (Nat.le_refl _) (.cells #[.int .i64 o,.bool b,.slice ao l c,.string nm,.slice ko kl kc] 29));clear hk hz;go_enter Tryz.func64,Tryz.ntmps64;go_wp2_with fail;go_ret;exact⟨by rw[hf];rfl,HW.out⟩
theorem canon_p (v:Value) (z:Int) (k:Nat) (w:World) (h:CI w v z k) :
  Calls Tryz.prog 65 #[v] w fun e w'=>e=.returned (.bool true)/\Below w.heap.size w w':=by
 obtain⟨va,rfl,h1,-⟩:=h;obtain⟨ao,cap,rfl,h2,h3,h4,h5⟩:=h1;by_cases h0:z=0
 ·subst h0;have e0:(dig L32 (Int.natAbs 0)).length=0:=by rw[Int.natAbs_zero,dig_zero];rfl
  rw[e0] at h2 ⊢;rw[show decide ((0:Int)<0)=false from rfl];have HW:=Lib.hid ((Below.refl w.heap.size w).alloc (Nat.le_refl _) (.cells #[.bool false,.slice ao 0 cap] 26));clear h5;go_enter Tryz.func65,Tryz.ntmps65;go_wp2_with fail;go_ret;exact⟨rfl,HW.out⟩
 have hp:0<(dig L32 z.natAbs).length:=dig_len_pos (by omega);have hl:=dig_last (B:=L32) (by decide) hp;obtain⟨a,rfl,hc⟩:=h5 ((dig L32 z.natAbs).length - 1) (by omega);clear h5;have hl2:nth (dig L32 z.natAbs) ((dig L32 z.natAbs).length - 1)≠0:=by unfold nth;simpa using hl
 clear hl;generalize nth (dig L32 z.natAbs) ((dig L32 z.natAbs).length - 1)=x at hc hl2;generalize (dig L32 z.natAbs).length=n at *;generalize decide (z<0)=sg at *;have hne:(x != 0)=true:=by rw[bne_iff_ne];omega
 have hn0:(((n:Nat):Int)==0)=false:=beq_eq_false_iff_ne.2 (by omega);have hcap:cap<=9223372036854775807:=h3;have hb:=(Below.refl w.heap.size w).alloc (Nat.le_refl _) (.cells #[.bool sg,.slice (some a) n cap] 26);have HW:=Lib.hid hb;rw[<-hb.cell (World.block_lt_of_cell? w _ hc)] at hc;clear hl2 hb h0;have hsub:((n:Nat):Int) - 1=((n - 1:Nat):Int):=by omega
 go_enter Tryz.func65,Tryz.ntmps65;go_wp2_with fail;go_ret;exact⟨rfl,HW.out⟩
theorem rts_take (ks:List F) (j:Nat) (h:j<ks.length):rts (ks.take (j+1))=(rts (ks.take j) && rt ks[j]):=by
 rw[List.take_succ_eq_append_getElem h,rts_all,List.all_append,rts_all];simp
theorem rts_false {ks:List F} {j:Nat} (h:j<ks.length) (hr:rt ks[j]=false):rts ks=false:=by
 rw[rts_all,List.all_eq_false];exact⟨_,List.getElem_mem h,by simp[hr]⟩
theorem right_p (d:Nat):∀ (v:Value) (t:F) (S:Nat->Prop) (w:World),FC w S d v t ->
  Calls Tryz.prog 17 #[v] w fun e w'=>e=.returned (.bool (rt t))/\Below w.heap.size w w':=by
 induction d with
 | zero=>intro v t S w h;obtain⟨_,_,_,_,_,_,_,_,_,h0,_⟩:=h.open;omega
 | succ d ih =>
  intro v t S w h;obtain⟨b,ao,l,c,ko,kl,kc,rfl,⟨hr,hz,hkl,hkc,hkm⟩,-,hk⟩:=h.open;obtain⟨o,z,nm,ks⟩:=t;simp only[F.op,F.num,F.name,F.kids] at hr hz hk hkl h ⊢;obtain⟨n,hn⟩:∃ n,n=ks.length:=⟨_,rfl⟩;rw[<-hn] at hkl;subst hkl;have HN:=Lib.hid hn;clear hn hr;have HX:=Lib.hid hk;have HZ:=Lib.hid hz;have HF0:=Lib.hid h;have IH:=Lib.hid ih;clear hk hz h ih;have HW:=Lib.hid (Below.refl w.heap.size w);have hkm':kc<=9223372036854775807:=hkm;go_enter Tryz.func17,Tryz.ntmps17;obtain⟨x1,kf,ef,ekf,hbf,hkf,HBf⟩:=newV w #[.int .i64 o,.bool b,.slice ao l c,.string nm,.slice ko kl kc] 29;replace HX:=Lib.hid (HX.out.below hbf.out);replace HZ:=Lib.hid (HZ.out.below hbf.out);replace HF0:=Lib.hid (HF0.out.below hbf.out);replace HW:=Lib.hid (HW.out.trans (hbf.out.mono HW.out.size))
  obtain⟨⟨c0,c1,c2,c3,c4⟩,fc0,fc1,fc2,fc3,fc4⟩:=cells5V HBf.out;go_wp2_with fail;refine (fits_p _ (.node o z nm ks) (d+1) S x1 HF0.out).mono ?_;rintro e x2 ⟨rfl,hb⟩;clear c0 fc0 c1 fc1 c2 fc2 c3 fc3 c4 fc4;replace HBf:=kBV hb HBf;replace HX:=Lib.hid (HX.out.below hb);replace HZ:=Lib.hid (HZ.out.below hb);replace HW:=Lib.hid (HW.out.trans (hb.mono HW.out.size));simp only[F.op,F.num,F.kids];have hrt:rt (.node o z nm ks)=(fitF o z (srts ks) && rts ks):=by rw[rt]
  generalize fitF o z (srts ks)=p at hrt ⊢;obtain⟨⟨c0,c1,c2,c3,c4⟩,fc0,fc1,fc2,fc3,fc4⟩:=cells5V HBf.out;cases p with
  | false =>
   go_wp2_with fail;go_ret;exact⟨by rw[hrt];rfl,HW.out⟩
  | true =>
   go_wp2_with fail;refine (canon_p _ z 600 x2 HZ.out).mono ?_;rintro e x3 ⟨rfl,hb⟩;clear c0 fc0 c1 fc1 c2 fc2 c3 fc3 c4 fc4;replace HBf:=kBV hb HBf;replace HX:=Lib.hid (HX.out.below hb);replace HW:=Lib.hid (HW.out.trans (hb.mono HW.out.size));obtain⟨⟨c0,c1,c2,c3,c4⟩,fc0,fc1,fc2,fc3,fc4⟩:=cells5V HBf.out;go_wp2_with fail;clear c0 fc0 c1 fc1 c2 fc2 c3 fc3 c4 fc4;go_loopw [17] (fun i wr=>∃ j:Nat,i=.int .i64 (j:Nat)/\j<=kl/\Hid (rts (ks.take j)=true)/\Hid (Below x3.heap.size x3 wr)) (fun i _=>kl - (intOf i).toNat)
   case atStart=>exact⟨0,rfl,Nat.zero_le _,Lib.hid rfl,Lib.hid (Below.refl _ _)⟩
   case round =>
    obtain⟨j,rfl,hj,HT,HB⟩:=hrel;replace HX:=Lib.hid (HX.out.below HB.out);replace HW:=Lib.hid (HW.out.trans (HB.out.mono HW.out.size));by_cases hlt:j<kl
    ·have hz:j<ks.length:=by rw[<-HN.out];exact hlt
     obtain⟨a,bb,qo,ql,qc,po,pl,pc,rfl,⟨c0,c1,c2,c3,c4⟩,hf⟩:=HX.out.cells j hz;have HFC:=Lib.hid hf;clear hf;obtain⟨x,hxx⟩:∃ x,x=ks[j].op:=⟨_,rfl⟩;obtain⟨ym,hnm⟩:∃ x,x=ks[j].name:=⟨_,rfl⟩;rw[<-hxx] at c0 HFC;rw[<-hnm] at c3 HFC;clear hxx hnm;obtain⟨x4,k8,e8,ek8,hb8,hk8,HB8⟩:=newV wr #[.int .i64 x,.bool bb,.slice qo ql qc,.string ym,.slice po pl pc] 29;replace HW:=Lib.hid (HW.out.trans (hb8.out.mono HW.out.size));replace HB:=Lib.hid (HB.out.trans (hb8.out.mono HB.out.size));replace HFC:=Lib.hid (HFC.out.below hb8.out);obtain⟨⟨g0,g1,g2,g3,g4⟩,fg0,fg1,fg2,fg3,fg4⟩:=cells5V HB8.out;go_wp2_with fail;refine (IH.out _ ks[j] S x4 HFC.out).mono ?_;rintro e x5 ⟨rfl,hb⟩;clear g0 fg0 g1 fg1 g2 fg2 g3 fg3 g4 fg4;replace HW:=Lib.hid (HW.out.trans (hb.mono HW.out.size))
     replace HB:=Lib.hid (HB.out.trans (hb.mono HB.out.size));clear hb HFC;have HT1:=Lib.hid (rts_take ks j hz);have HT2:=Lib.hid (rts_false hz);rw[HT.out] at HT1;generalize rt ks[j]=p at HT1 HT2 ⊢;cases p with
     | true =>
      go_wp2_with fail;go_roundw
      case rel=>exact⟨j+1,by go_num,hlt,HT1,HB⟩
      case measure=>simp[intOf];omega
     | false =>
      go_wp2_with fail;go_ret;exact⟨by rw[hrt,HT2.out (by trivial)];rfl,HW.out⟩
    go_wp2_with fail;go_ret;have e:=HT.out;rw[show j=kl by omega,HN.out,List.take_length] at e;exact⟨by rw[hrt,e];rfl,HW.out⟩
end Go.Proofs.YtoncclhbdkjhmaaGreatDoor
namespace Go.Proofs.YtoncclhbdkjhmaaGreatDoor
open Go.RowKit Go.Shelf
set_option maxRecDepth 100000
set_option linter.unusedVariables false
set_option linter.unusedSimpArgs false
attribute [local go_sem] Oper.semAt_some
theorem infoBind:(Tryz.prog.info? 44).map (fun i=>(i.zero,i.size,i.bytes))=some (some (.agg #[.string ⟨#[]⟩,.int .i64 0,.bool false,.slice none 0 0,.bool false,.slice none 0 0]),6,88):=by kernel_rfl
structure BU where
 nm:ByteArray
 u:VU
def bC (b:BU):List Value:=.string b.nm::vC b.u
def bV (b:BU):Value:=.agg #[.string b.nm,.int .i64 b.u.k,.bool (decide (b.u.n.z<0)),.slice b.u.n.o b.u.n.l b.u.n.c,.bool b.u.b,.slice b.u.lo b.u.ll b.u.lc]
def bE:El BU where
 e:=44
 t:=32
 n:=6
 b:=88
 z:=.agg #[.string ⟨#[]⟩,.int .i64 0,.bool false,.slice none 0 0,.bool false,.slice none 0 0]
 f:=bC
 R w b:=VR w b.u
 ok e':=26≠e'
 pos:=by decide
 by_:=by decide
 zs:=rfl
 z32:=by intro u hu z;simp only[Value.cells,List.mem_cons,List.not_mem_nil,or_false] at hu;rcases hu with rfl | rfl | rfl | rfl | rfl | rfl<;>(intro h;cases h)
 ht:=Tryz.underlying32
 info:=infoBind
 len _:=rfl
 one n:=by
  intro u hu;simp only[bC,vC,List.mem_cons,List.not_mem_nil,or_false] at hu;rcases hu with rfl | rfl | rfl | rfl | rfl | rfl<;>rfl
 n32 n:=by
  intro u hu z;simp only[bC,vC,List.mem_cons,List.not_mem_nil,or_false] at hu;rcases hu with rfl | rfl | rfl | rfl | rfl | rfl<;>(intro h;cases h)
 fr ok f h:=VR.fr h ok f
 own:=by decide
def envOf (us:List BU):List (ByteArray × V):=us.map fun b=>(b.nm,b.u.x)
def EL (w:World) (v:Value) (env:List (ByteArray × V)):Prop:=∃ us,bE.At w v us/\envOf us=env
theorem EL.below {w w':World} {v:Value} {env:List (ByteArray × V)} (h:EL w v env) (hb:Below w.heap.size w w'):EL w' v env:=by
 obtain⟨us,h1,h2⟩:=h;exact⟨us,h1.below hb,h2⟩
theorem bAt_cells {w:World} {v:Value} {us:List BU} (h:bE.At w v us):∃ ko kc,v=.slice ko us.length kc/\us.length<=kc/\kc<=maxLen/\∀ i (hi:i<us.length),∃ a,ko=some a /\
  w.cell? (a.add (i*6))=some (.string us[i].nm)/\w.cell? ⟨(a.add (i*6)).block,(a.add (i*6)).off+1,none⟩=some (.int .i64 us[i].u.k)/\w.cell? ⟨(a.add (i*6)).block,(a.add (i*6)).off+2,none⟩=some (.bool (decide (us[i].u.n.z<0))) /\
  w.cell? ⟨(a.add (i*6)).block,(a.add (i*6)).off+3,none⟩=some (.slice us[i].u.n.o us[i].u.n.l us[i].u.n.c)/\w.cell? ⟨(a.add (i*6)).block,(a.add (i*6)).off+4,none⟩=some (.bool us[i].u.b)/\w.cell? ⟨(a.add (i*6)).block,(a.add (i*6)).off+5,none⟩=some (.slice us[i].u.lo us[i].u.ll us[i].u.lc)/\VR w us[i].u:=by
 obtain⟨ko,kc,rfl,⟨h1,h2,h3⟩,h4⟩:=h;refine⟨ko,kc,rfl,h1,h2,fun i hi=>?_⟩;obtain⟨a,ha,-,h5,h6⟩:=h4 i hi;have g:∀ j q,(bC us[i])[j]?=some q->w.cell? ((a.add (i*6)).add j)=some q:=fun j q hj=>by rw[add_addV];exact h5 j q hj
 exact⟨a,ha,g 0 _ rfl,g 1 _ rfl,g 2 _ rfl,g 3 _ rfl,g 4 _ rfl,g 5 _ rfl,h6⟩
abbrev YI:=Nat × BU
def yI (x:YI):Array Value:=#[.int .i64 (x.1:Nat),bV x.2]
theorem drop_rev {α:Type} (l:List α) (k:Nat) (h:k<l.length):(l.drop k).reverse=(l.drop (k+1)).reverse++[l[k]]:=by
 rw[List.drop_eq_getElem_cons h,List.reverse_cons]
theorem back_stops (F:Fence) (hd:F.depth=none) (hF:∀ f,F.fn f) (hro:F.round=none) (n Bt:Nat) (ve:Value) (us:List BU) (w:World) (hB:w.heap[Bt]?=some (.cells #[ve] 154 (0,0))) (hu:bE.At w ve us) :
  SeqStopsK F n Tryz.prog 222 #[.pointer (some ⟨Bt,0,none⟩)] yI (Below w.heap.size) (fun xs=>xs.map (·.2)=us.reverse) (fun pre=>∃ k,pre.map (·.2)=(us.drop k).reverse/\k<=us.length) us.length w:=by
 intro l J Jx W hW hJ hJx hY h0;obtain⟨ko,kc,rfl,hk1,hk2,hk3⟩:=bAt_cells hu;have hkc:kc<=9223372036854775807:=hk2;have hB2:W.heap[Bt]?=some (.cells #[.slice ko us.length kc] 154 (0,0)):=(hW.block _ (lt_of_block hB)).trans hB;have HB:=Lib.hid hB;have HU:=Lib.hid hu;have HW:=Lib.hid hW;have HY:=Lib.hid hY;have c0:=cell_at (v:=.slice ko us.length kc) hB2 0 rfl;obtain⟨N,hN⟩:∃ N,N=us.length:=⟨_,rfl⟩;have HN:=Lib.hid hN;rw[<-hN] at c0 hk1 HB HU HY ⊢;have J0:=Lib.hid h0;clear hW hJ hJx hY h0 hu hB hB2 hk3 hk2 hN;refine callsIn_of_wp Tryz.func222 rfl (hF _) ?_ hro;simp only[Tryz.ntmps222,List.size_toArray,lsc,lsn,Nat.reduceAdd,Nat.reduceSub,Array.replicate_succ,Array.replicate_zero,List.push_toArray,List.append_toArray,List.nil_append,List.cons_append];gi_wp2_with fail
 gi_loopw [3] (fun p wr=>∃ (j:Nat) (pre:List YI),p=.int .i64 ((j:Int) - 1)/\j<=N/\Hid (pre.map (·.2)=(us.drop j).reverse)/\Hid (pre.length+j=N)/\Hid (J pre wr)/\Hid (Below w.heap.size w wr)) (fun p _=>(intOf p+1).toNat)
 case atStart=>exact⟨N,[],rfl,Nat.le_refl _,Lib.hid (by rw[HN.out,List.drop_length];rfl),Lib.hid (by simp),J0,HW⟩
 case round =>
  obtain⟨wl,hwl⟩:∃ q,q=wr:=⟨_,rfl⟩;subst hwl;clear c0;obtain⟨j,pre,rfl,hj,HP,HL,HJ,HBW⟩:=hrel;have hBl:wl.heap[Bt]?=some (.cells #[.slice ko N kc] 154 (0,0)):=(HBW.out.block _ (lt_of_block HB.out)).trans HB.out;have c0:=cell_at (v:=.slice ko N kc) hBl 0 rfl;clear hBl;cases j with
  | zero =>
   rw[show ((0:Nat):Int) - 1 = -1 by decide];gi_wp2_with fail;go_end0;exact⟨⟨_,rfl⟩,.inl ⟨pre,by rw[HP.out,List.drop_zero],HJ.out⟩⟩
  | succ k =>
   rw[show ((k+1:Nat):Int) - 1=((k:Nat):Int) by omega];have hkn:k<us.length:=by have:=HN.out;omega
   obtain⟨ko',kc',e,-,-,hcs⟩:=bAt_cells (HU.out.below HBW.out);injection e with e1 e2 e3;subst e1;obtain⟨a,rfl,d0,d1,d2,d3,d4,d5,-⟩:=hcs k hkn;obtain⟨y,hyy⟩:∃ y,y=us[k]:=⟨_,rfl⟩;rw[<-hyy] at d0 d1 d2 d3 d4 d5;have HYK:=Lib.hid hyy;have hlen1:pre.length<N:=by have:=HL.out;omega
   obtain⟨fn,tmps,assign,body,hy,hR⟩:=HY.out pre (k,y) wl HJ.out hlen1;simp only[yI,bV] at hy;clear hcs e2 e3 hyy hlen1;gi_wp2_with fail;refine hR.mono ?_;clear hR hy c0 d0 d1 d2 d3 d4 d5;rintro e W2 (⟨rfl,hJ2,hk2⟩ | ⟨rfl,hx2⟩)
   ·have HJ2:=Lib.hid hJ2;replace HBW:=Lib.hid (HBW.out.trans hk2);clear hJ2 hk2;gi_wp2_with fail;go_roundw
    case rel=>exact⟨k,pre++[(k,y)],rfl,by omega,Lib.hid (by rw[drop_rev us k hkn,List.map_append,HP.out,HYK.out];rfl),Lib.hid (by have:=HL.out;simp only[lsa,lsc,lsn];omega),HJ2,HBW⟩
    case measure=>simp[intOf]
   have HX2:=Lib.hid hx2;clear hx2;gi_wp2_with fail;(try simp only[Exit.inBlock,Exit.then]);refine bodyPost_ret (results_none rfl _ _ _) rfl ?_;exact⟨⟨_,rfl⟩,.inr ⟨_,⟨k,by rw[drop_rev us k hkn,List.map_append,HP.out,HYK.out];rfl,by omega⟩,HX2.out⟩⟩
theorem back_p (ko:Option Addr) (n kc:Nat) (w:World):Calls Tryz.prog 205 #[.slice ko n kc] w fun e w'=>e=.returned (.func (.func 222) #[] #[.pointer (some ⟨w.heap.size,0,none⟩)])/\w'=w.alloc (.cells #[.slice ko n kc] 154):=by
 go_enter Tryz.func205,Tryz.ntmps205;go_wp2_with fail;go_ret;exact⟨rfl,rfl⟩
attribute [local go_sem] Oper.semAt_some
theorem bs_no {a b:ByteArray} (h:a≠b):(a.toList==b.toList)=false:=beq_eq_false_iff_ne.2 (fun e=>h (by
 rw[ByteArray.toList_eq,ByteArray.toList_eq] at e
 exact ByteArray.ext (Array.toList_inj.1 e)))
theorem bs_yes {a b:ByteArray} (h:a=b):(a.toList==b.toList)=true:=by subst h;exact beq_self_eq_true _
theorem zip_two (T:Array Value) (k l:Nat) (v u:Value):(#[k,l].zip #[v,u]).foldl (fun t (x:Nat × Value)=>t.setIfInBounds x.1 x.2) T=(T.setIfInBounds k v).setIfInBounds l u:=by simp
theorem set5_same {w:World} {g:Nat} {T:TypeId} {a0 a1 a2 a3 a4:Value} (h:w.heap[g]?=some (.cells #[a0,a1,a2,a3,a4] T (0,0))) (v0 v1 v2 v3 v4:Value) :
  (((((w.setCell ⟨g,0,none⟩ v0).setCell ⟨g,1,none⟩ v1).setCell ⟨g,2,none⟩ v2).setCell ⟨g,3,none⟩ v3).setCell ⟨g,4,none⟩ v4).heap[g]?=some (.cells #[v0,v1,v2,v3,v4] T (0,0)):=by
 have h0:(w.setCell ⟨g,0,none⟩ v0).heap[g]?=some (.cells #[v0,a1,a2,a3,a4] T (0,0)):=heap_setCell_same _ g 0 _ T v0 h;have h1:((w.setCell ⟨g,0,none⟩ v0).setCell ⟨g,1,none⟩ v1).heap[g]?=some (.cells #[v0,v1,a2,a3,a4] T (0,0)):=heap_setCell_same _ g 1 _ T v1 h0;have h2:(((w.setCell ⟨g,0,none⟩ v0).setCell ⟨g,1,none⟩ v1).setCell ⟨g,2,none⟩ v2).heap[g]?=some (.cells #[v0,v1,v2,a3,a4] T (0,0)):=heap_setCell_same _ g 2 _ T v2 h1;have h3:((((w.setCell ⟨g,0,none⟩ v0).setCell ⟨g,1,none⟩ v1).setCell ⟨g,2,none⟩ v2).setCell ⟨g,3,none⟩ v3).heap[g]?=some (.cells #[v0,v1,v2,v3,a4] T (0,0)):=heap_setCell_same _ g 3 _ T v3 h2;exact heap_setCell_same _ g 4 _ T v4 h3
def lkV (x:V) (b:Int):V:=if sortOf x=b then x else .I 0
theorem VR.sort {w:World} {u:VU} (h:VR w u):u.k=sortOf u.x:=by
 unfold VR at h
 cases hx:u.x<;>rw[hx] at h<;>exact h.1
theorem fold_none {nm:ByteArray}:∀ (l:List (ByteArray × V)) (a:V),(∀ p ∈ l,p.1≠nm)->l.foldl (fun a p=>if p.1=nm then p.2 else a) a=a
 | [],_,_=>rfl
 | q::l,a,h=>by rw[List.foldl_cons,if_neg (h q (by simp))];exact fold_none l a (fun p hp=>h p (by simp[hp]))
theorem rho_none {env:List (ByteArray × V)} {nm:ByteArray} (h:∀ p ∈ env,p.1≠nm):rho env nm=.I 0:=fold_none env _ h
theorem rho_hit {env:List (ByteArray × V)} {nm:ByteArray} {k:Nat} (hk:k<env.length) (h1:env[k].1=nm) (h2:∀ p ∈ env.drop (k+1),p.1≠nm):rho env nm=env[k].2:=by
 have key:rho (env.take (k+1)++env.drop (k+1)) nm=rho (env.take (k+1)) nm:=by
  unfold rho;rw[List.foldl_append];exact fold_none _ _ h2
 rw[List.take_append_drop] at key;rw[key,rho_take env nm k hk,if_pos h1]
def LkI (w4:World) (nm:ByteArray) (pre:List YI) (W:World):Prop:=Below w4.heap.size w4 W/\∀ x ∈ pre,x.2.nm≠nm
theorem LkI.own (w4:World) (nm:ByteArray):OwnFrom w4.heap.size (LkI w4 nm):=by
 rintro pre W W' row ⟨h1,h2⟩ hg hr;exact⟨⟨hg.os.trans h1.os,hg.tape.trans h1.tape,hg.output.trans h1.output,Nat.le_trans h1.size hg.size,fun k hk=>(hg.block k (by have:=h1.size;omega) (fun e=>by have:=(hr k e.symm).1;omega)).trans (h1.block k hk)⟩,h2⟩
def LkX (w w4:World) (kr:Nat) (nm:ByteArray) (b:Int) (c:Code) (pre:List YI) (W:World):Prop:=
 ∃ pre' x,pre=pre'++[x]/\(∀ y ∈ pre',y.2.nm≠nm)/\x.2.nm=nm/\Below w.heap.size w W/\w4.heap.size<=W.heap.size /\
  ((c=.ret/\x.2.u.k=b/\W.heap[kr]?=some (.cells #[.int .i64 x.2.u.k,.bool (decide (x.2.u.n.z<0)),.slice x.2.u.n.o x.2.u.n.l x.2.u.n.c,.bool x.2.u.b,.slice x.2.u.lo x.2.u.ll x.2.u.lc] 41 (0,0))) \/
   (c=.exit 0/\x.2.u.k≠b/\W.heap[kr]?=some (.cells #[.int .i64 0,.bool false,.slice none 0 0,.bool false,.slice none 0 0] 41 (0,0))))
theorem LkX.own (w w4:World) (kr:Nat) (nm:ByteArray) (b:Int) (c:Code) (hw:w.heap.size<=w4.heap.size) (hkr:kr<w4.heap.size):OwnFrom w4.heap.size (LkX w w4 kr nm b c):=by
 rintro pre W W' row ⟨pre',x,h1,h2,h3,h4,h6,h5⟩ hg hr;have hkb:W'.heap[kr]?=W.heap[kr]?:=hg.block kr (by omega) (fun e=>by have:=(hr kr e.symm).1;omega);refine⟨pre',x,h1,h2,h3,⟨hg.os.trans h4.os,hg.tape.trans h4.tape,hg.output.trans h4.output,Nat.le_trans h4.size hg.size,fun k hk=>(hg.block k (by have:=h4.size;omega) (fun e=>by have:=(hr k e.symm).1;omega)).trans (h4.block k hk)⟩,Nat.le_trans h6 hg.size,?_⟩;rw[hkb];exact h5
theorem put_belowL {n₀:Nat} {W:World} {l:Nat} {o o':Obj} (hn:n₀<=l) (h:W.heap[l]?=some o):Below n₀ W (W.putObj l o'):=
 (Below.refl n₀ W).grown (grownBy_putObj' W l o') (by have:=lt_of_block h;omega) (fun k e=>by cases e;exact hn)
theorem ext_below {w W W':World} {g:Nat} (h:Below w.heap.size w W) (hg:W.grownBy W' (some g)) (hk:w.heap.size<=g):Below w.heap.size w W':=
 ⟨hg.os.trans h.os,hg.tape.trans h.tape,hg.output.trans h.output,Nat.le_trans h.size hg.size,fun k hk2=>(hg.block k (by have:=h.size;omega) (fun e=>by injection e with e;omega)).trans (h.block k hk2)⟩
theorem lookup_p (ve:Value) (env:List (ByteArray × V)) (nm:ByteArray) (b:Int) (w:World) (h:EL w ve env) :
  Calls Tryz.prog 191 #[ve,.string nm,.int .i64 b] w fun e w'=>∃ v,e=.returned v/\VC w' v (lkV (rho env nm) b)/\Below w.heap.size w w':=by
 obtain⟨us,hu,rfl⟩:=h;have hu0:=hu;obtain⟨ko,kc,rfl,-,-,-⟩:=bAt_cells hu0;obtain⟨N,hN⟩:∃ N,N=us.length:=⟨_,rfl⟩;rw[<-hN];rw[<-hN] at hu;have HU:=Lib.hid hu;have HU0:=Lib.hid hu;clear hN hu hu0;have HW:=Lib.hid (Below.refl w.heap.size w);obtain⟨x1,kn,en,ekn,hbn,hkn,HBn⟩:=newV w #[.string nm] 9;replace HU:=Lib.hid (El.At.below HU.out hbn.out);replace HW:=Lib.hid (HW.out.trans (hbn.out.mono HW.out.size));have hkn:Hid (w.heap.size<=kn):=Lib.hid (by rw[<-ekn];exact Nat.le_refl _);obtain⟨x2,kb,eb,ekb,hbb,hkb,HBb⟩:=newV x1 #[.int .i64 b] 36;replace HBn:=kBV hbb.out HBn;replace HU:=Lib.hid (El.At.below HU.out hbb.out);replace HW:=Lib.hid (HW.out.trans (hbb.out.mono HW.out.size))
 obtain⟨x3,kr,er,ekr,hbr,hkr,HBr⟩:=newV x2 #[.int .i64 0,.bool false,.slice none 0 0,.bool false,.slice none 0 0] 41;replace HBn:=kBV hbr.out HBn;replace HBb:=kBV hbr.out HBb;replace HU:=Lib.hid (El.At.below HU.out hbr.out);replace HW:=Lib.hid (HW.out.trans (hbr.out.mono HW.out.size));have HRK:Hid (w.heap.size<=kr):=Lib.hid (by rw[<-ekr];exact Nat.le_trans (hbn.out.size) (hbb.out.size));obtain⟨x4,kt,et,ekt,hbt,hkt,HBt⟩:=newV x3 #[.slice ko N kc] 154;replace HBn:=kBV hbt.out HBn;replace HBb:=kBV hbt.out HBb;replace HBr:=kBV hbt.out HBr;replace HU:=Lib.hid (El.At.below HU.out hbt.out);replace HW:=Lib.hid (HW.out.trans (hbt.out.mono HW.out.size));have HSZ:Hid (kr<x4.heap.size/\kn<x4.heap.size/\kb<x4.heap.size):=Lib.hid ⟨lt_of_block HBr.out,lt_of_block HBn.out,lt_of_block HBb.out⟩
 refine callsIn_wide.1 (callsIn_of_wp_marks (F:=Fence.wide) (n:=9) Tryz.func191 rfl trivial ?_ rfl);simp only[Tryz.ntmps191,List.size_toArray,lsc,lsn,Nat.reduceAdd,Nat.reduceSub,Array.replicate_succ,Array.replicate_zero,List.push_toArray,List.append_toArray,List.nil_append,List.cons_append];refine wpIn_wide.2 ?_;go_wp2_with (first | (refine (back_p ko N kc _).mono ?_;rintro e w' ⟨rfl,rfl⟩;rw[et,ekt]) | fail);refine (wpIn_wide (n:=9)).1 ?_;refine wpIn_rangeFunc_ownH rfl (by decide) (gf:=222) (lb:=#[.pointer (some ⟨kt,0,none⟩)]) rfl trivial (enters_of Tryz.func222 (by kernel_rfl) rfl) (back_stops Fence.wide rfl (fun _=>trivial) rfl 8 kt _ us x4 HBt.out HU.out) (fun h k=>h.trans k) (fun W l o o' hl h hc _=>put_belowL hl h) (Below.refl _ _) (fun _=>rfl)
  (LkI x4 nm) (LkX w x4 kr nm b) (LkI.own _ _) (fun c=>LkX.own _ _ _ _ _ _ HW.out.size HSZ.out.1) ⟨Below.refl _ _,fun x h=>by cases h⟩
  (fun y a' W=>∃ kp,W.heap[kp]?=some (.cells #[.string y.2.nm,.int .i64 y.2.u.k,.bool (decide (y.2.u.n.z<0)),.slice y.2.u.n.o y.2.u.n.l y.2.u.n.c,.bool y.2.u.b,.slice y.2.u.lo y.2.u.ll y.2.u.lc] 44 (0,0))/\a'=⟨#[.slice ko N kc,.string nm,.int .i64 b,undef,.pointer (some ⟨kn,0,none⟩),.pointer (some ⟨kb,0,none⟩),.pointer (some ⟨kr,0,none⟩),undef,.pointer (some ⟨kp,0,none⟩),.slice ko N kc,.func (.func 222) #[] #[.pointer (some ⟨kt,0,none⟩)],.int .i64 (y.1:Nat),bV y.2,undef,undef,undef,undef,undef,undef,undef,undef,undef,undef,undef,undef],[]⟩) ?hax ?assign ?body ?done ?stop
 case hax =>
  rintro y a' _ W W' row ⟨kp,h1,h2⟩ hg hr;exact⟨kp,(hg.block kp (lt_of_block h1) (fun e=>by obtain⟨-,o,ho,hc⟩:=hr kp e.symm;rw[h1] at ho;injection ho with ho;subst ho;cases hc)).trans h1,h2⟩
 case assign =>
  rintro l pre y W K hI hK;have HK0:=Lib.hid hK;have HI0:=Lib.hid hI;clear hK hI;rw[show yI y=#[.int .i64 (y.1:Nat),bV y.2] from rfl,zip_two];simp only[bV,List.setIfInBounds_toArray,List.set_cons_succ,List.set_cons_zero];gi_wp2_with fail;refine HK0.out _ _ ((KeepsOthers.alloc _ _).from _) (((Below.refl _ _).alloc (Nat.le_refl _) _).mono HI0.out.1.size) ((LkI.own _ _).alloc _ HI0.out) ⟨W.heap.size,made_at W _ _ rfl,?_⟩;rfl
 case body =>
  rintro l pre y a' W hl - ⟨hI,hpre⟩ ⟨kp,hB,rfl⟩ hlen;obtain⟨i,y⟩:=y;simp only[bV];simp only at hB;have HI:=Lib.hid hI;have HPRE:=Lib.hid hpre;have HBp:=Lib.hid hB;have HBn2:=kBV hI HBn;have HBb2:=kBV hI HBb;have HBr2:=kBV hI HBr;clear hI hpre hB hlen;have c0:=cell_at (v:=.string y.nm) HBp.out 0 rfl;have fc0:=froz_at HBp.out 0;have c1:=cell_at (v:=.int .i64 y.u.k) HBp.out 1 rfl;have fc1:=froz_at HBp.out 1;have c2:=cell_at (v:=.bool (decide (y.u.n.z<0))) HBp.out 2 rfl;have fc2:=froz_at HBp.out 2;have c3:=cell_at (v:=.slice y.u.n.o y.u.n.l y.u.n.c) HBp.out 3 rfl;have fc3:=froz_at HBp.out 3;have c4:=cell_at (v:=.bool y.u.b) HBp.out 4 rfl;have fc4:=froz_at HBp.out 4;have c5:=cell_at (v:=.slice y.u.lo y.u.ll y.u.lc) HBp.out 5 rfl;have fc5:=froz_at HBp.out 5
  have d0:=cell_at (v:=.string nm) HBn2.out 0 rfl;have e0:=cell_at (v:=.int .i64 b) HBb2.out 0 rfl;by_cases hnm:y.nm=nm
  ·have hne:(y.nm.toList==nm.toList)=true:=bs_yes hnm;have HNM:=Lib.hid hnm;clear hnm;by_cases hkb:y.u.k=b
   ·have hkk:(y.u.k==b)=true:=by rw[hkb];exact beq_self_eq_true _
    have HKB:=Lib.hid hkb;clear hkb;have f0:=froz_at HBr2.out 0;have r0:=cell_at (v:=.int .i64 0) HBr2.out 0 rfl;have f1:=froz_at HBr2.out 1;have r1:=cell_at (v:=.bool false) HBr2.out 1 rfl;have f2:=froz_at HBr2.out 2;have r2:=cell_at (v:=.slice none 0 0) HBr2.out 2 rfl;have f3:=froz_at HBr2.out 3;have r3:=cell_at (v:=.bool false) HBr2.out 3 rfl;have f4:=froz_at HBr2.out 4;have r4:=cell_at (v:=.slice none 0 0) HBr2.out 4 rfl;gi_wp2_with fail;refine⟨KeepsFrom.of_grownBy (row:=some kr) (grown5V _ _ _ _ _) (fun j e=>by injection e with e;have:=HSZ.out.1;omega),pre,(i,y),rfl,HPRE.out,HNM.out,ext_below (HW.out.trans (HI.out.mono HW.out.size)) (grown5V _ _ _ _ _) HRK.out,Nat.le_trans HI.out.size (grown5V (k:=kr) _ _ _ _ _).size,.inl ⟨rfl,HKB.out,set5_same HBr2.out _ _ _ _ _⟩⟩
   have hkk:(y.u.k==b)=false:=by rw[beq_eq_false_iff_ne];exact hkb
   have HKB:=Lib.hid hkb;clear hkb;gi_wp2_with fail;exact⟨KeepsFrom.refl _ _,pre,(i,y),rfl,HPRE.out,HNM.out,HW.out.trans (HI.out.mono HW.out.size),HI.out.size,.inr ⟨rfl,HKB.out,HBr2.out⟩⟩
  have hne:(y.nm.toList==nm.toList)=false:=bs_no hnm;have HNM:=Lib.hid hnm;clear hnm;gi_wp2_with fail;refine⟨KeepsFrom.refl _ _,Below.refl _ _,HI.out,fun x hx=>?_⟩;rcases List.mem_append.1 hx with hx | hx
  ·exact HPRE.out x hx
  rw[List.mem_singleton] at hx;subst hx;exact HNM.out
 case done =>
  rintro D xs W hD hS ⟨hI,hx⟩ hDW;have hno:rho (envOf us) nm=.I 0:=rho_none (fun p hp=>by
   obtain⟨q,hq,rfl⟩:=List.mem_map.1 hp;have:q ∈ us.reverse:=by simpa using hq
   rw[<-hS] at this;obtain⟨x,hx1,rfl⟩:=List.mem_map.1 this;exact hx x hx1)
  have HNO:=Lib.hid hno;have HI:=Lib.hid hI;have HDW:=Lib.hid hDW;have HD:=Lib.hid hD;have HBr2:=kBV hI HBr;clear hno hI hDW hD hx hS;have f0:=froz_at HBr2.out 0;have r0:=cell_at (v:=.int .i64 0) HBr2.out 0 rfl;have f1:=froz_at HBr2.out 1;have r1:=cell_at (v:=.bool false) HBr2.out 1 rfl;have f2:=froz_at HBr2.out 2;have r2:=cell_at (v:=.slice none 0 0) HBr2.out 2 rfl;have f3:=froz_at HBr2.out 3;have r3:=cell_at (v:=.bool false) HBr2.out 3 rfl;have f4:=froz_at HBr2.out 4;have r4:=cell_at (v:=.slice none 0 0) HBr2.out 4 rfl;go_wp2_with fail;have hg:W.grownBy (((((W.setCell ⟨kr,0,none⟩ (.int .i64 0)).setCell ⟨kr,1,none⟩ (.bool false)).setCell ⟨kr,2,none⟩ (.slice none 0 0)).setCell ⟨kr,3,none⟩ (.bool false)).setCell ⟨kr,4,none⟩ (.slice none 0 0)) (some kr):=grown5V _ _ _ _ _
  have hs:=set5_same HBr2.out (.int .i64 0) (.bool false) (.slice none 0 0) (.bool false) (.slice none 0 0);obtain⟨W5,hW5⟩:∃ q,q=((((W.setCell ⟨kr,0,none⟩ (.int .i64 0)).setCell ⟨kr,1,none⟩ (.bool false)).setCell ⟨kr,2,none⟩ (.slice none 0 0)).setCell ⟨kr,3,none⟩ (.bool false)).setCell ⟨kr,4,none⟩ (.slice none 0 0):=⟨_,rfl⟩;rw[<-hW5] at hg hs ⊢;have hD5:=(hg.block D (lt_of_block HDW.out) (fun e=>by injection e with e;have:=HSZ.out.1;have:=HD.out;omega)).trans HDW.out;refine⟨by simp,.inl ⟨_,_,rfl,run_takeDeferred hD5,?_⟩⟩;have hp:Below w.heap.size w (W5.putObj D (.deferred none)):=(ext_below (HW.out.trans (HI.out.mono HW.out.size)) hg HRK.out).trans (put_belowL (Nat.le_trans HW.out.size HD.out) hD5)
  have hs6:(W5.putObj D (.deferred none)).heap[kr]?=some (.cells #[.int .i64 0,.bool false,.slice none 0 0,.bool false,.slice none 0 0] 41 (0,0)):=by
   rw[World.putObj_heap_other (by have:=HSZ.out.1;have:=HD.out;omega)];exact hs
  obtain⟨⟨q0,q1,q2,q3,q4⟩,-⟩:=cells5V hs6;exact⟨.agg #[.int .i64 0,.bool false,.slice none 0 0,.bool false,.slice none 0 0],by simp[results,Tryz.results191,go_sem,q0,q1,q2,q3,q4],_,rfl,by rw[show lkV (rho (envOf us) nm) b=V.I 0 from by unfold lkV;rw[HNO.out];split<;>rfl];exact⟨v0,rfl,rfl,vr0 _⟩,(by first | exact hp | (rw[<-ekn];exact hp))⟩
 case stop =>
  rintro D c pre W hD ⟨m,hm,hmn⟩ ⟨pre',x,rfl,h2,h3,h4,h6,h5⟩ hDW;obtain⟨k,hk,hxk,hlk⟩:∃ k,∃ (hk:k<us.length),x.2=us[k]/\∀ p ∈ us.drop (k+1),p.nm≠nm:=by
   rw[List.map_append] at hm;have hml:m<us.length:=by
    have:=congrArg List.length hm;simp at this;omega
   rw[drop_rev us m hml] at hm;have hsplit:=List.append_inj' hm rfl;refine⟨m,hml,by simpa using hsplit.2,fun p hp=>?_⟩;have hp2:p ∈ (us.drop (m+1)).reverse:=by simpa using hp
   rw[<-hsplit.1] at hp2;obtain⟨q,hq1,rfl⟩:=List.mem_map.1 hp2;exact h2 q hq1
  have hrho:rho (envOf us) nm=x.2.u.x:=by
   rw[rho_hit (k:=k) (by unfold envOf;simpa using hk) (by unfold envOf;simp only[List.getElem_map];rw[<-hxk];exact h3) (fun p hp=>by
    unfold envOf at hp;rw[<-List.map_drop] at hp;obtain⟨q,hq,rfl⟩:=List.mem_map.1 hp;exact hlk q hq)]
   unfold envOf;simp only[List.getElem_map];rw[<-hxk]
  obtain⟨_,_,_,_,_,hcs⟩:=bAt_cells HU0.out;obtain⟨_,_,_,_,_,_,_,_,hvr⟩:=hcs k hk;rw[<-hxk] at hvr;have hsrt:=hvr.sort;have HVR:=Lib.hid hvr;have HNO:=Lib.hid hrho;have HI:=Lib.hid h4;have HDW:=Lib.hid hDW;have HD:=Lib.hid hD;clear hvr hrho h4 hDW hD h6 hcs hxk hlk hm hmn h2;rcases h5 with ⟨rfl,hkb,hbr⟩ | ⟨rfl,hkb,hbr⟩
  ·refine (wpIn_wide (n:=9)).2 ?_;go_wp2_with fail;have hD5:=HDW.out;refine⟨by simp,.inl ⟨_,_,rfl,run_takeDeferred hD5,?_⟩⟩;have hp:Below w.heap.size w (W.putObj D (.deferred none)):=HI.out.trans (put_belowL (Nat.le_trans HW.out.size HD.out) hD5);have hs6:(W.putObj D (.deferred none)).heap[kr]?=_:=(World.putObj_heap_other (by have:=HSZ.out.1;have:=HD.out;omega)).trans hbr;obtain⟨⟨q0,q1,q2,q3,q4⟩,-⟩:=cells5V hs6;refine⟨vV x.2.u,by simp[results,Tryz.results191,go_sem,q0,q1,q2,q3,q4,vV],_,rfl,⟨x.2.u,rfl,?_,?_⟩,(by first | exact hp | (rw[<-ekn];exact hp))⟩
   ·rw[HNO.out];unfold lkV;rw[if_pos (by rw[<-hsrt];exact hkb)]
   exact HVR.out.below hp
  refine (wpIn_wide (n:=9)).2 ?_;have HBr2:=Lib.hid hbr;have hnb:sortOf x.2.u.x≠b:=by rw[<-hsrt];exact hkb
  have HNB:=Lib.hid hnb;clear hbr hkb hsrt hnb h3;have f0:=froz_at HBr2.out 0;have r0:=cell_at (v:=.int .i64 0) HBr2.out 0 rfl;have f1:=froz_at HBr2.out 1;have r1:=cell_at (v:=.bool false) HBr2.out 1 rfl;have f2:=froz_at HBr2.out 2;have r2:=cell_at (v:=.slice none 0 0) HBr2.out 2 rfl;have f3:=froz_at HBr2.out 3;have r3:=cell_at (v:=.bool false) HBr2.out 3 rfl;have f4:=froz_at HBr2.out 4;have r4:=cell_at (v:=.slice none 0 0) HBr2.out 4 rfl;go_wp2_with fail;have hg:W.grownBy (((((W.setCell ⟨kr,0,none⟩ (.int .i64 0)).setCell ⟨kr,1,none⟩ (.bool false)).setCell ⟨kr,2,none⟩ (.slice none 0 0)).setCell ⟨kr,3,none⟩ (.bool false)).setCell ⟨kr,4,none⟩ (.slice none 0 0)) (some kr):=grown5V _ _ _ _ _
  have hs:=set5_same HBr2.out (.int .i64 0) (.bool false) (.slice none 0 0) (.bool false) (.slice none 0 0);obtain⟨W5,hW5⟩:∃ q,q=((((W.setCell ⟨kr,0,none⟩ (.int .i64 0)).setCell ⟨kr,1,none⟩ (.bool false)).setCell ⟨kr,2,none⟩ (.slice none 0 0)).setCell ⟨kr,3,none⟩ (.bool false)).setCell ⟨kr,4,none⟩ (.slice none 0 0):=⟨_,rfl⟩;rw[<-hW5] at hg hs ⊢;have hD5:=(hg.block D (lt_of_block HDW.out) (fun e=>by injection e with e;have:=HSZ.out.1;have:=HD.out;omega)).trans HDW.out;refine⟨by simp,.inl ⟨_,_,rfl,run_takeDeferred hD5,?_⟩⟩;have hp:Below w.heap.size w (W5.putObj D (.deferred none)):=(ext_below (HI.out) hg HRK.out).trans (put_belowL (Nat.le_trans HW.out.size HD.out) hD5)
  have hs6:(W5.putObj D (.deferred none)).heap[kr]?=some (.cells #[.int .i64 0,.bool false,.slice none 0 0,.bool false,.slice none 0 0] 41 (0,0)):=by
   rw[World.putObj_heap_other (by have:=HSZ.out.1;have:=HD.out;omega)];exact hs
  obtain⟨⟨q0,q1,q2,q3,q4⟩,-⟩:=cells5V hs6;exact⟨.agg #[.int .i64 0,.bool false,.slice none 0 0,.bool false,.slice none 0 0],by simp[results,Tryz.results191,go_sem,q0,q1,q2,q3,q4],_,rfl,by rw[show lkV (rho (envOf us) nm) b=V.I 0 from by unfold lkV;rw[HNO.out,if_neg HNB.out]];exact⟨v0,rfl,rfl,vr0 _⟩,(by first | exact hp | (rw[<-ekn];exact hp))⟩
end Go.Proofs.YtoncclhbdkjhmaaGreatDoor
namespace Go.Proofs.YtoncclhbdkjhmaaGreatDoor
open Go.RowKit
set_option maxRecDepth 100000
set_option linter.unusedVariables false
set_option linter.unusedSimpArgs false
theorem fieldV0 (k:Int) (b:Bool) (o:Option Addr) (l c:Nat) (d:Bool) (p:Option Addr) (m q:Nat) (w:World) :
  (Instr.field 41 (.agg #[.int .i64 k,.bool b,.slice o l c,.bool d,.slice p m q]) 0).run Tryz.prog w=.ok (.int .i64 k) w:=by
 unfold Instr.field;simp[go_sem,asAgg]
theorem fieldV1 (k:Int) (b:Bool) (o:Option Addr) (l c:Nat) (d:Bool) (p:Option Addr) (m q:Nat) (w:World) :
  (Instr.field 41 (.agg #[.int .i64 k,.bool b,.slice o l c,.bool d,.slice p m q]) 1).run Tryz.prog w=.ok (.agg #[.bool b,.slice o l c]) w:=by
 unfold Instr.field;simp[go_sem,asAgg]
theorem fieldV2 (k:Int) (b:Bool) (o:Option Addr) (l c:Nat) (d:Bool) (p:Option Addr) (m q:Nat) (w:World) :
  (Instr.field 41 (.agg #[.int .i64 k,.bool b,.slice o l c,.bool d,.slice p m q]) 2).run Tryz.prog w=.ok (.bool d) w:=by
 unfold Instr.field;simp[go_sem,asAgg]
theorem fieldV3 (k:Int) (b:Bool) (o:Option Addr) (l c:Nat) (d:Bool) (p:Option Addr) (m q:Nat) (w:World) :
  (Instr.field 41 (.agg #[.int .i64 k,.bool b,.slice o l c,.bool d,.slice p m q]) 3).run Tryz.prog w=.ok (.slice p m q) w:=by
 unfold Instr.field;simp[go_sem,asAgg]
theorem CI.tight {w:World} {v:Value} {z:Int} {k:Nat} (h:CI w v z k) (hz:z.natAbs<L32 ^ 600):CI w v z 600:=by
 obtain⟨va,h1,h2,_⟩:=h;exact⟨va,h1,h2,hz⟩
theorem EL.shape {w:World} {v:Value} {env:List (ByteArray × V)} (h:EL w v env):∃ eo en ec,v=.slice eo en ec:=by
 obtain⟨us,⟨ko,kc,rfl,-⟩,-⟩:=h;exact⟨_,_,_,rfl⟩
theorem NL.nil (w:World):NL w (.slice none 0 0) []:=⟨[],El.At.nil w,rfl⟩
theorem VC.lk2 {w:World} {v:Value} {x:V} (h:VC w v (lkV x 2)):∃ k b o l c d p m q,v=.agg #[.int .i64 k,.bool b,.slice o l c,.bool d,.slice p m q]/\NL w (.slice p m q) (asL x):=by
 cases x with
 | I z=>obtain⟨o,l,c,rfl,-⟩:=VC.int (z:=0) h;exact⟨_,_,_,_,_,_,_,_,_,rfl,NL.nil w⟩
 | B b=>obtain⟨o,l,c,rfl,-⟩:=VC.int (z:=0) h;exact⟨_,_,_,_,_,_,_,_,_,rfl,NL.nil w⟩
 | L l=>obtain⟨o,l',c,rfl,hn⟩:=VC.list (zs:=l) h;exact⟨_,_,_,_,_,_,_,_,_,rfl,hn⟩
theorem rt_node {o z:Int} {nm:ByteArray} {ks:List F} (h:rt (.node o z nm ks)=true):fitF o z (srts ks)=true/\∀ f ∈ ks,rt f=true:=by
 rw[rt,Bool.and_eq_true,rts_all,List.all_eq_true] at h;exact h
theorem srts_nil {ks:List F} (h:srts ks=[]):ks=[]:=by
 unfold srts at h;simpa using h
theorem srts_one {ks:List F} {s:Int} (h:srts ks=[s]):∃ p,ks=[p]/\srt p.op=s:=by
 unfold srts at h;match ks,h with
 | [p],h=>exact⟨p,rfl,by simpa using h⟩
 | [],h=>simp at h
 | _::_::_,h=>simp at h
theorem srts_two {ks:List F} {s r:Int} (h:srts ks=[s,r]):∃ p q,ks=[p,q]/\srt p.op=s/\srt q.op=r:=by
 unfold srts at h;match ks,h with
 | [p,q],h=>exact⟨p,q,rfl,by simpa using h⟩
 | [],h=>simp at h
 | [_],h=>simp at h
 | _::_::_::_,h=>simp at h
theorem fit_range {o z:Int} {ss:List Int} (h:fitF o z ss=true):0<=o/\o<=20:=by
 rcases ops21 o with h1 | h1
 ·omega
 exfalso;unfold fitF kidsOk at h;rw[if_neg (by omega),if_neg (by omega),if_neg (by omega),if_neg (by omega),if_neg (by omega),if_neg (by omega),if_neg (by omega),if_neg (by omega),if_neg (by omega)] at h;simp at h
def At5 (w:World) (p:Addr) (o:Int) (b:Bool) (ao:Option Addr) (l c:Nat) (nm:ByteArray) (ko:Option Addr) (kl kc:Nat):Prop:=
 w.cell? p=some (.int .i64 o)/\w.cell? ⟨p.block,p.off+1,none⟩=some (.bool b)/\w.cell? ⟨p.block,p.off+2,none⟩=some (.slice ao l c)/\w.cell? ⟨p.block,p.off+3,none⟩=some (.string nm)/\w.cell? ⟨p.block,p.off+4,none⟩=some (.slice ko kl kc)
theorem At5.below {w w':World} {p:Addr} {o:Int} {b:Bool} {ao:Option Addr} {l c:Nat} {nm:ByteArray} {ko:Option Addr} {kl kc:Nat} (h:At5 w p o b ao l c nm ko kl kc) (hb:Below w.heap.size w w'):At5 w' p o b ao l c nm ko kl kc:=by
 obtain⟨h0,h1,h2,h3,h4⟩:=h;have key:∀ q v,w.cell? q=some v->w'.cell? q=some v:=fun q v h=>by rw[hb.cell (World.block_lt_of_cell? w _ h)];exact h
 exact⟨key _ _ h0,key _ _ h1,key _ _ h2,key _ _ h3,key _ _ h4⟩
theorem FL.first {w:World} {S:Nat->Prop} {d:Nat} {ko:Option Addr} {n kc:Nat} {p:F} {l:List F} (h:FL w S d (.slice ko n kc) (p::l)):∃ (a:Addr) (b:Bool) (o:Option Addr) (l c:Nat) (po:Option Addr) (pl pc:Nat),ko=some a /\
  (w.cell? a=some (.int .i64 p.op)/\w.cell? ⟨a.block,a.off+1,none⟩=some (.bool b)/\w.cell? ⟨a.block,a.off+2,none⟩=some (.slice o l c) /\
   w.cell? ⟨a.block,a.off+3,none⟩=some (.string p.name)/\w.cell? ⟨a.block,a.off+4,none⟩=some (.slice po pl pc)) /\
  FC w S d (.agg #[.int .i64 p.op,.bool b,.slice o l c,.string p.name,.slice po pl pc]) p:=by
 have:=h.cells 0 (by simp)
 simpa [Addr.add] using this
theorem FL.second {w:World} {S:Nat->Prop} {d:Nat} {ko:Option Addr} {n kc:Nat} {p q:F} {l:List F} (h:FL w S d (.slice ko n kc) (p::q::l)):∃ (a:Addr) (b:Bool) (o:Option Addr) (l c:Nat) (po:Option Addr) (pl pc:Nat),ko=some a /\
  (w.cell? ⟨a.block,a.off+5,none⟩=some (.int .i64 q.op)/\w.cell? ⟨a.block,a.off+5+1,none⟩=some (.bool b)/\w.cell? ⟨a.block,a.off+5+2,none⟩=some (.slice o l c) /\
   w.cell? ⟨a.block,a.off+5+3,none⟩=some (.string q.name)/\w.cell? ⟨a.block,a.off+5+4,none⟩=some (.slice po pl pc)) /\
  FC w S d (.agg #[.int .i64 q.op,.bool b,.slice o l c,.string q.name,.slice po pl pc]) q:=by
 have:=h.cells 1 (by simp)
 simpa [Addr.add] using this
attribute [local go_sem] fieldV0 fieldV1 fieldV2 fieldV3
end Go.Proofs.YtoncclhbdkjhmaaGreatDoor
