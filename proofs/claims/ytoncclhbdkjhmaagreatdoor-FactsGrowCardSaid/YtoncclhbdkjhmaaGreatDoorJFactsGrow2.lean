/-
 Joined texts: R7,VlA,VlB,VlC,VlD,VlE,VlF,VlG,VlH,LgM,LgA,LgBa,LgB,LgC,LgD,LgE,LgF,LgG,LgH,LgI,LgJ.
-/
import Derived.OwnWalk
import Derived.Laws.OwnMore
import Derived.Deep.AppendLies
import Derived.Deep.DrawnRows
import Derived.BigQuiet
import Derived.Deep.DeepCutAuto
import Derived.Lib.UnsafeStr
import Derived.Lib.Builder
import Derived.Lib.AppendStr
import Derived.RangeFuncNested
import Derived.RangeFuncBound
import Derived.RangeFuncCalls
import Derived.RangeFuncLeaves
import Derived.OrdersIn
import Derived.Shelf.Abstract
import Derived.Shelf.RegionOpen
import Derived.WalkKit
import Derived.OwnWalkIn
import Derived.TacticsInMore
import Derived.LoopNIn
import Derived.LoopIn
import Derived.Test.YtoncclhbdkjhmaaGreatDoorJFactsGrow1
set_option maxHeartbeats 32000000
open Array renaming toList_setIfInBounds→lK,replicate→nh
open Bool renaming and_eq_true→dA,or_eq_true→fS
open Go renaming lt_of_block→ae,World→af,Value→ak,heap_setCell_same→aA,Calls→aV,TypeId→aZ,maxLen→bn,heap_alloc_new→bz,Addr→cu,cell_of_row→cT,Oper→fk,frozen_of_row→je,Program→lB,wpList→mq,info_parts→rm
open Go.Builtin renaming append_→gE,zeroCells→gG
open Go.Instr renaming field→iY
open Go.Lib renaming hid→aa,byteCells→cH,byteCells_length→mu
open Go.Proofs.Tryz renaming prog→aj,ntmps64→bY,func64→cv,underlying99→jW
open Go.Region renaming wanted→iV,ready→nL
open Go.Result renaming andThen_ok→jP
open Go.RowKit renaming Below→aB,intOf→eT
open Go.RowKit.Below renaming refl→ax
open Go.World.grownBy renaming refl→aE
open Go.World.ownsRow renaming kept→iU,cellAt→uP
open List renaming not_mem_nil→aK,cons_append→aM,mem_cons→aP,take_succ_eq_append_getElem→aT,mem_singleton→aX,replicate→bI,getElem_mem→bS,set_cons_zero→bW,take_length→cz,map_append→dF,drop_eq_getElem_cons→eV,getElem_map→fg,range→fm,all_eq_true→fu,length_replicate→fX,flatMap_cons→gr,take_append_drop→k_,map_toArray→mA,reverse_cons→oU,mem_range→pZ,mem_or_eq_of_mem_set→yT
open Nat renaming le_refl→ag,zero_le→ah,le_trans→ai,not_lt_zero→an,add_mul→cO,mul_le_mul_right→de,zero_add→gh,mul_le_mul→gj,mod_lt→ig
open Option renaming getD_some→jX
namespace Go.Proofs.YtoncclhbdkjhmaaGreatDoor
open Go.RowKit
set_option maxRecDepth 100000
namespace R7
structure AB (g:Nat) (w w':af):Prop where
 os:w'.os=w.os
 tape:w'.tape=w.tape
 output:w'.output=w.output
 size:w.heap.size<=w'.heap.size
 block:∀ k,k<w.heap.size->k≠g->w'.heap[k]?=w.heap[k]?
abbrev Fact:=(Nat->ak)->ak->af->Prop
def mask (L:List Nat) (x:Nat->ak):Nat->ak:=fun j=>if L.contains j then x j else undef
theorem au {L:List Nat} {x:Nat->ak} {j:Nat} (h:L.contains j=true):mask L x j=x j:=by
 unfold mask;rw[if_pos h]
def pA (x:Nat->ak) (k:Nat) (v:ak):Nat->ak:=fun j=>if j=k then v else x j
theorem nP (x:Nat->ak) (k:Nat) (v:ak):pA x k v k=v:=if_pos rfl
theorem nQ (x:Nat->ak) {k j:Nat} (v:ak) (h:j≠k):pA x k v j=x j:=if_neg h
theorem xL {L:List Nat} {x:Nat->ak} {k:Nat} (v:ak) (h:L.contains k=false):mask L (pA x k v)=mask L x:=by
 funext j
 unfold mask
 by_cases hj:L.contains j=true
 ·rw[if_pos hj,if_pos hj,nQ];intro e;subst e;rw[h] at hj;cases hj
 rw[if_neg hj,if_neg hj]
def eN (ops:List fk) (j:Nat):Option Tmp:=(ops[j]?).bind (·.dst)
def dep (D:List (List Nat)) (k:Nat):List Nat:=D.getD k []
def ok (ops:List fk) (D:List (List Nat)) (m size:Nat):Bool:=
 decide (m<=ops.length) && (fm ops.length).all fun k =>
  match ops[k]? with
  | none=>false
  | some o =>
   (o.after.all fun e=>!Region.binds .any e || decide (e.on<k)) &&
   ((dep D k).all fun j=>(o.after.any fun e=>Region.binds .any e && (e.on==j || (dep D e.on).contains j)) && ((dep D j).all fun i=>(dep D k).contains i) && decide (j<k)) &&
   (decide (k<m) || (fm m).all fun j=>(dep D k).contains j) &&
   (match o.dst with | none=>true | some d=>decide (d<size) && (fm k).all fun j=>eN ops j != some d)
def zI (ops:List fk) (D:List (List Nat)) (al:List Nat) (st:List (Nat × Nat)) (nq:Nat):Bool:=
 (fm ops.length).all fun k=>match st.lookup k with
  | none=>true
  | some i=>(if i<1000 then (dep D k).contains i && al.contains i else decide (i - 1000<nq)) && (fm ops.length).all fun j=>j==k || st.lookup j != some i
def pre (ops:List fk) (D:List (List Nat)) (k t:Nat):Bool:=
 (fm ops.length).all fun j=>eN ops j != some t || j==k || (dep D j).contains k
def fill:List fk->(Nat->ak)->Nat->Array ak->Array ak
 | [],_,_,t=>t
 | o::l,x,k,t=>fill l x (k+1) (match o.dst with | some d=>t.setIfInBounds d (x k) | none=>t)
theorem fill_eq:∀ (l:List fk) (x:Nat->ak) (k:Nat) (t T:Array ak),T.size=t.size ->
  (∀ j d,eN l j=some d->T[d]?=some (x (k+j)))->(∀ s,(∀ j,eN l j≠some s)->T[s]?=t[s]?)->fill l x k t=T
 | [],x,k,t,T,hs,_,hp=>by
  refine Array.ext_getElem? (fun i=>?_);rw[hp i (fun j=>by simp[eN])]
  rfl
 | o::l,x,k,t,T,hs,hd,hp=>by
  have hd':∀ j d,eN l j=some d->T[d]?=some (x (k+1+j)):=fun j d h=>by
   rw[hd (j+1) d (by simpa [eN] using h),Nat.add_right_comm,Nat.add_assoc]
  unfold fill
  cases ho:o.dst with
  | none =>
   refine fill_eq l x (k+1) t T hs hd' (fun s h=>hp s (fun j=>?_))
   cases j with
   | zero=>simp[eN,ho]
   | succ j=>simpa [eN] using h j
  | some d =>
   have h0:T[d]?=some (x k):=hd 0 d (by simp[eN,ho]);have hlt:d<t.size:=by rw[<-hs];exact (Array.getElem?_eq_some_iff.1 h0).1
   refine fill_eq l x (k+1) _ T (by simpa using hs) hd' (fun s h=>?_)
   by_cases e:d=s
   ·subst e;rw[h0]
    simp[hlt]
   rw[Array.getElem?_setIfInBounds_ne e];refine hp s (fun j=>?_)
   cases j with
   | zero=>simp[eN,ho,e]
   | succ j=>simpa [eN] using h j
def Na:Exit->Act->af->Prop:=fun _ _ _=>False
def fact (F:List Fact) (j:Nat):Fact:=(F.reverse[j]?).getD fun _ _ _=>True
section
variable (P:lB) (ops:List fk) (D:List (List Nat)) (al:List Nat) (st:List (Nat × Nat)) (og:Nat->Nat) (nq:Nat) (t0:Array ak) (ds:List Deferred) (w0:af)
def own (k:Nat):Option Nat:=st.lookup k
def tv (x:Nat->ak) (i:Nat):ak:=if i<1000 then x i else .pointer (some ⟨og (i - 1000),0,none⟩)
structure At (F:Nat->Fact) (k:Nat) (T:Array ak) (x:Nat->ak) (w:af):Prop where
 be:∀ B,B<=w0.heap.size->(∀ q,q<nq->B<=og q)->aB B w0 w
 bl:∀ b,b<w0.heap.size->(∀ q,q<nq->og q≠b)->w.heap[b]?=w0.heap[b]?
 od:∀ q,q<nq->(∀ k',own st k'=some (1000+q)->k'=k\/(dep D k').contains k=true)->w.heap[og q]?=w0.heap[og q]?
 tm:∀ j d,(dep D k).contains j=true->eN ops j=some d->T[d]?=some (x j)
 fa:∀ j,(dep D k).contains j=true->F j (mask (dep D j) x) (x j) w
 pre:∀ t,R7.pre ops D k t=true->T[t]?=t0[t]?
structure Next (V:Fact) (k:Nat) (x:Nat->ak) (w:af) (v:ak) (w':af):Prop where
 is:V x v w'
 bw:own st k=none->aB w.heap.size w w'
 pv:∀ i,own st k=some i->∃ g,tv og x i=.pointer (some ⟨g,0,none⟩)/\AB g w w'
 al:al.contains k=true->∃ g,v=.pointer (some ⟨g,0,none⟩)/\w.heap.size<=g/\g<w'.heap.size
def Cw (F:Nat->Fact) (k:Nat) (o:fk) (V:Fact):Prop:=
 ∀ (T:Array ak) (x:Nat->ak) (w:af),At ops D st og nq t0 w0 F k T x w ->
  ∀ K:Act->af->Prop,Hid (∀ v w',Next al st og V k x w v w'->K ((⟨T,ds⟩:Act).put o.dst v) w') ->
   if iV o (yielded ops.toArray T)=true then o.wp P ⟨T,ds⟩ w K Na else K ((⟨T,ds⟩:Act).put o.dst undef) w
def tV (k:Nat) (V:Fact):Prop:=(∀ x v w w',V x v w->aB w.heap.size w w'->V x v w')/\(st ≠ []->∀ x v w w' g,V x v w->(∀ i,own st k=some i->tv og x i ≠ .pointer (some ⟨g,0,none⟩))->(∃ q,q<nq/\g=og q)->AB g w w'->V x v w')
def Left (F:Nat->Fact) (m:Nat) (x:Nat->ak) (w:af):Prop:=
 ((∀ B,B<=w0.heap.size->(∀ q,q<nq->B<=og q)->aB B w0 w)/\(∀ b,b<w0.heap.size->(∀ q,q<nq->og q≠b)->w.heap[b]?=w0.heap[b]?) )/\(∀ j,j<m->F j (mask (dep D j) x) (x j) w) /\
 (∀ i,al.contains i=true->i<m->∃ g,x i=.pointer (some ⟨g,0,none⟩)/\w0.heap.size<=g/\g<w.heap.size) /\
 (∀ i j,al.contains i=true->al.contains j=true->i<m->j<m->i≠j->x i≠x j)
def aF (m:Nat) (G:(Nat->ak)->af->Prop):List fk->Nat->List Fact->Prop
 | [],k,F=>k=m/\∀ x w,Left D al og nq w0 (fact F) m x w->G x w
 | o::rest,k,F=>(k=m/\∀ x w,Left D al og nq w0 (fact F) m x w->G x w) \/
  ∃ V,tV st og nq k V/\Cw P ops D al st og nq t0 ds w0 (fact F) k o V/\aF m G rest (k+1) (V::F)
variable {P ops D al st og nq t0 ds w0}
theorem aF.done {m:Nat} {G:(Nat->ak)->af->Prop} {l:List fk} {F:List Fact} (h:∀ x w,Left D al og nq w0 (fact F) m x w->G x w):aF P ops D al st og nq t0 ds w0 m G l m F:=by
 cases l with
 | nil=>exact⟨rfl,h⟩
 | cons o l=>exact Or.inl ⟨rfl,h⟩
theorem aF.step {m k:Nat} {G:(Nat->ak)->af->Prop} {o:fk} {l:List fk} {F:List Fact} (V:Fact) (hs:tV st og nq k V) (hr:Cw P ops D al st og nq t0 ds w0 (fact F) k o V)
  (h:aF P ops D al st og nq t0 ds w0 m G l (k+1) (V::F)):aF P ops D al st og nq t0 ds w0 m G (o::l) k F:=Or.inr ⟨V,hs,hr,h⟩
def plain (al:List Nat) (st:List (Nat × Nat)) (k:Nat):Bool:=!al.contains k && (own st k).isNone
theorem Next.plain {V:Fact} {k:Nat} {x:Nat->ak} {w:af} {v:ak} {w':af} (hp:plain al st k=true) (h:V x v w') (hb:aB w.heap.size w w'):Next al st og V k x w v w':=by
 unfold R7.plain at hp;simp only[dA,Bool.not_eq_true',Option.isNone_iff_eq_none] at hp;exact⟨h,fun _=>hb,fun i hi=>(by rw[hp.2] at hi;cases hi),fun e=>(by rw[hp.1] at e;cases e)⟩
theorem aF.dL {m k:Nat} {G:(Nat->ak)->af->Prop} {o:fk} {l:List fk} {F:List Fact} (f:(Nat->ak)->ak) (hp:plain al st k=true)
  (hr:∀ (T:Array ak) (x:Nat->ak) (w:af),At ops D st og nq t0 w0 (fact F) k T x w->iV o (yielded ops.toArray T)=true/\(execOp (Act.eval ⟨T,ds⟩) o).run P w=.ok (.value (f x)) w)
  (h:aF P ops D al st og nq t0 ds w0 m G l (k+1) ((fun x v _=>v=f x)::F)):aF P ops D al st og nq t0 ds w0 m G (o::l) k F:=by
 refine aF.step (fun x v _=>v=f x) ⟨fun _ _ _ _ e _=>e,fun _ _ _ _ _ _ e _ _ _=>e⟩ (fun T x w hA K hK=>?_) h;obtain⟨hw,he⟩:=hr T x w hA;rw[if_pos hw];unfold Oper.wp;rw[he];exact hK.out _ _ (Next.plain hp rfl (ax _ _))
theorem aF.skip {m k:Nat} {G:(Nat->ak)->af->Prop} {o:fk} {l:List fk} {F:List Fact} (hp:plain al st k=true)
  (hr:∀ (T:Array ak) (x:Nat->ak) (w:af),At ops D st og nq t0 w0 (fact F) k T x w->iV o (yielded ops.toArray T)=false)
  (h:aF P ops D al st og nq t0 ds w0 m G l (k+1) ((fun _ v _=>v=undef)::F)):aF P ops D al st og nq t0 ds w0 m G (o::l) k F:=by
 refine aF.step (fun _ v _=>v=undef) ⟨fun _ _ _ _ e _=>e,fun _ _ _ _ _ _ e _ _ _=>e⟩ (fun T x w hA K hK=>?_) h;rw[if_neg (by rw[hr T x w hA];exact Bool.noConfusion)];exact hK.out _ _ (Next.plain hp rfl (ax _ _))
theorem aF.call {m k:Nat} {G:(Nat->ak)->af->Prop} {o:fk} {l:List fk} {F:List Fact} (V:Fact) (hs:∀ x v w w',V x v w->aB w.heap.size w w'->V x v w') (KZ:∀ x v w w' g,V x v w->(∃ q,q<nq/\g=og q)->AB g w w'->V x v w') (hp:plain al st k=true)
  (hr:∀ (T:Array ak) (x:Nat->ak) (w:af),At ops D st og nq t0 w0 (fact F) k T x w->iV o (yielded ops.toArray T)=true /\
   ∀ K:Act->af->Prop,Hid (∀ v w',V x v w'->aB w.heap.size w w'->K ((⟨T,ds⟩:Act).put o.dst v) w')->o.wp P ⟨T,ds⟩ w K Na)
  (h:aF P ops D al st og nq t0 ds w0 m G l (k+1) (V::F)):aF P ops D al st og nq t0 ds w0 m G (o::l) k F:=by
 refine aF.step V ⟨hs,fun _ x v w w' g h _ hq hp=>KZ x v w w' g h hq hp⟩ (fun T x w hA K hK=>?_) h;obtain⟨hw,he⟩:=hr T x w hA;rw[if_pos hw];exact he K fun v w' hv hb=>hK.out v w' (Next.plain hp hv hb)
theorem PV {st:List (Nat × Nat)} {i k:Nat} (h:(st.all fun p=>p.2 != i || p.1==k)=true):∀ k',own st k'=some i->k'=k:=by
 intro k' hk;unfold own at hk;rw[fu] at h
 have:∀ (l:List (Nat × Nat)),(∀ p ∈ l,(p.2 != i || p.1==k)=true)->l.lookup k'=some i->k'=k:=by
  intro l
  induction l with
  | nil=>intro _ h;cases h
  | cons p l ih =>
   intro hp hl;obtain⟨a,b⟩:=p;rw[List.lookup_cons] at hl
   split at hl
   ·rename_i he
    injection hl with hl;have h1:=hp (a,b) (List.mem_cons_self ..);simp only[fS,bne_iff_ne,ne_eq,beq_iff_eq] at h1;rw[beq_iff_eq] at he;rcases h1 with h1 | h1
    ·exact absurd hl h1
    exact he.trans h1
   exact ih (fun p hp'=>hp p (List.mem_cons_of_mem _ hp')) hl
 exact this st h hk
theorem Bi {V:Fact} {F:List Fact} {j:Nat} (h:j<F.length):fact (V::F) j=fact F j:=by
 unfold fact;rw[oU,List.getElem?_append_left (by simpa using h)]
theorem EA {V:Fact} {F:List Fact}:fact (V::F) F.length=V:=by
 unfold fact;rw[oU,List.getElem?_append_right (by simp)]
 simp
theorem At.congr {F F':Nat->Fact} {k:Nat} {T:Array ak} {x:Nat->ak} {w:af} (h:At ops D st og nq t0 w0 F k T x w) (e:∀ j,(dep D k).contains j=true->F j=F' j):At ops D st og nq t0 w0 F' k T x w:=
 ⟨h.be,h.bl,h.od,h.tm,fun j hj=>by rw[<-e j hj];exact h.fa j hj,h.pre⟩
theorem aF.all {m:Nat} {G:(Nat->ak)->af->Prop} (hlt:∀ k j,k<m->(dep D k).contains j=true->j<k):∀ (l:List fk) (k:Nat) (F:List Fact),F.length=k->k<=m->(∀ j,l[j]?=ops[k+j]?) ->
  aF P ops D al st og nq t0 ds w0 m G l k F->∃ H:Nat->Fact,(∀ j,j<k->H j=fact F j) /\
   (∀ j,k<=j->j<m->tV st og nq j (H j)/\∃ o,ops[j]?=some o/\Cw P ops D al st og nq t0 ds w0 H j o (H j))/\∀ x w,Left D al og nq w0 H m x w->G x w:=by
 intro l
 induction l with
 | nil=>intro k F hF hk hl h;exact⟨fact F,fun _ _=>rfl,fun j h1 h2=>by have:=h.1;omega,h.2⟩
 | cons o l ih =>
  intro k F hF hk hl h;rcases h with ⟨rfl,h⟩ | ⟨V,hs,hr,h⟩
  ·exact⟨fact F,fun _ _=>rfl,fun j h1 h2=>by omega,h⟩
  by_cases hkm:k<m
  ·obtain⟨H,h1,h2,h3⟩:=ih (k+1) (V::F) (by simp[hF]) hkm (fun j=>by have:=hl (j+1);simp at this;rw[this,Nat.add_right_comm,Nat.add_assoc]) h;refine⟨H,fun j hj=>by rw[h1 j (by omega),Bi (by omega)],fun j hj zV=>?_,h3⟩;rcases Nat.lt_or_ge k j with P9 | P9
   ·exact h2 j P9 zV
   obtain rfl:j=k:=by omega
   have hH:H j=V:=by rw[h1 j (by omega),<-hF,EA]
   refine⟨by rw[hH];exact hs,o,by have:=hl 0;simpa using this.symm,?_⟩;rw[hH];intro T x w hA;exact hr T x w (hA.congr (fun i hi=>by have:=hlt j i hkm hi;rw[h1 i (by omega),Bi (by omega)]))
  obtain rfl:k=m:=by omega
  have Fs:∀ (l:List fk) (k':Nat) (F:List Fact),k<k'->¬ aF P ops D al st og nq t0 ds w0 k G l k' F:=by
   intro l
   induction l with
   | nil=>intro k' F hk' h;have:=h.1;omega
   | cons o l ih=>intro k' F hk' h;rcases h with ⟨e,_⟩ | ⟨_,_,_,h⟩;(omega);exact ih _ _ (by omega) h
  exact absurd h (Fs _ _ _ (by omega))
theorem Oper.Kh {o:fk} {a:Act} {w:af} {K:Act->af->Prop} {Q:Exit->Act->af->Prop} (h:o.wp P a w K Na):o.wp P a w K Q:=by
 unfold Oper.wp at *;generalize (execOp a.eval o).run P w=r at *
 cases r with
 | ok n w' =>
  cases n<;>simp only[Oper.upon] at h ⊢ <;>
   first
    | exact h
    | exact Calls.mono h (fun e w'' he=>by
      cases e with
      | returned v=>exact he
      | panicked c=>exact False.elim he
      | outgrown=>obtain⟨_,_,hh⟩:=he;exact False.elim hh)
 | halt x w'=>cases x<;>simp only[Oper.upon] at h ⊢<;>exact False.elim h
structure Inv (H:Nat->Fact) (m:Nat) (listed:Array Bool) (a:Act) (w:af) (x:Nat->ak):Prop where
 tm:∀ j d,listed.getD j false=true->eN ops j=some d->a.tmps[d]?=some (x j)
 pre:∀ t,(∀ j,listed.getD j false=true->eN ops j≠some t)->a.tmps[t]?=t0[t]?
 sz:a.tmps.size=t0.size
 df:a.defers=ds
 be:∀ B,B<=w0.heap.size->(∀ q,q<nq->B<=og q)->aB B w0 w
 bl:∀ b,b<w0.heap.size->(∀ q,q<nq->og q≠b)->w.heap[b]?=w0.heap[b]?
 od:∀ q,q<nq->(∀ k',listed.getD k' false=true->own st k'≠some (1000+q))->w.heap[og q]?=w0.heap[og q]?
 sw:w0.heap.size<=w.heap.size
 ls:listed.size=ops.length
 dn:∀ j,listed.getD j false=true->∀ i,(dep D j).contains i=true->listed.getD i false=true
 lt:∀ j,listed.getD j false=true->j<m
 fa:∀ j,listed.getD j false=true->H j (mask (dep D j) x) (x j) w
 pt:∀ i,al.contains i=true->listed.getD i false=true->∃ g,x i=.pointer (some ⟨g,0,none⟩)/\w0.heap.size<=g/\g<w.heap.size
 ne:∀ i j,al.contains i=true->al.contains j=true->listed.getD i false=true->listed.getD j false=true->i≠j->x i≠x j
section
variable {m size:Nat} (hok:ok ops D m size=true)
include hok
theorem vS:m<=ops.length:=by
 unfold ok at hok;simp only[dA,decide_eq_true_eq] at hok;exact hok.1
theorem rI {k:Nat} {o:fk} (ho:ops[k]?=some o) :
  (∀ e ∈ o.after,Region.binds .any e=true->e.on<k) /\
  (∀ j,(dep D k).contains j=true->(∃ e ∈ o.after,Region.binds .any e=true/\(e.on=j\/(dep D e.on).contains j=true))/\(∀ i,(dep D j).contains i=true->(dep D k).contains i=true)/\j<k) /\
  (k<m\/∀ j,j<m->(dep D k).contains j=true) /\
  (∀ d,o.dst=some d->d<size/\∀ j,j<k->eN ops j≠some d):=by
 unfold ok at hok;simp only[dA,decide_eq_true_eq,fu,pZ] at hok;have h:=hok.2 k (List.getElem?_eq_some_iff.1 ho).1;rw[ho] at h;simp only[dA,fS,Bool.not_eq_true',decide_eq_true_eq,fu,pZ,Array.all_eq_true_iff_forall_mem] at h;obtain⟨⟨⟨h1,h2⟩,h3⟩,h4⟩:=h;refine⟨fun e he hb=>(h1 e he).resolve_left (by rw[hb];exact Bool.noConfusion),fun j hj=>?_,h3,fun d hd=>?_⟩
 ·obtain⟨⟨h5,h6⟩,h7⟩:=h2 j (by simpa using hj);obtain⟨e,he,hb⟩:=Array.any_eq_true'.1 h5;simp only[dA,fS,beq_iff_eq] at hb;exact⟨⟨e,he,hb.1,hb.2⟩,fun i hi=>h6 i (by simpa using hi),h7⟩
 rw[hd] at h4;simp only[dA,decide_eq_true_eq,fu,pZ,bne_iff_ne,ne_eq] at h4;exact h4
theorem M8 {k j:Nat} (h:(dep D k).contains j=true) (hk:k<ops.length):j<k:=((rI hok (List.getElem?_eq_getElem hk)).2.1 j h).2.2
end
theorem A7 (h:zI ops D al st nq=true) {k:Nat} (hk:k<ops.length):∀ i,own st k=some i->(i<1000->(dep D k).contains i=true/\al.contains i=true)/\(¬ i<1000->i - 1000<nq)/\∀ j,j<ops.length->j≠k->own st j≠some i:=by
 intro i hi;unfold zI at h;rw[fu] at h;have h1:=h k (List.mem_range.2 hk);unfold own at hi;rw[hi] at h1;simp only[dA,fu,pZ,fS,beq_iff_eq,bne_iff_ne,ne_eq] at h1;refine⟨fun h2=>?_,fun h2=>?_,fun j hj B9=>(h1.2 j hj).resolve_left B9⟩
 ·have h3:=h1.1;rw[if_pos h2] at h3
  simpa using h3
 have h3:=h1.1;rw[if_neg h2] at h3
 simpa using h3
theorem AP {L:List Nat} {x:Nat->ak} {i:Nat} (h:i<1000->L.contains i=true):tv og (mask L x) i=tv og x i:=by
 unfold tv
 split
 ·rename_i hi;exact au (h hi)
 rfl
theorem gR {l:Array Bool} {i j:Nat} (h:i<l.size):(l.setIfInBounds i true).getD j false=(decide (j=i) || l.getD j false):=by
 by_cases e:i=j
 ·subst e;simp[h]
 rw[getD_set_ne false e]
 simp[show ¬ j=i from fun x=>e x.symm]
theorem rQ {l:List Bool} {i:Nat} (h:l[i]?=some false):(l.set i true).count false+1=l.count false:=by
 obtain⟨hi,hv⟩:=List.getElem?_eq_some_iff.1 h;rw[List.count_set hi,hv];have:0<l.count false:=List.count_pos_iff.2 (hv ▸ bS hi)
 simp
 omega
section
variable {m:Nat} {Q:Exit->Act->af->Prop} {H:Nat->Fact}
theorem Inv.step (hok:ok ops D m t0.size=true) (xZ:zI ops D al st nq=true) (yj:∀ k i,own st k=some i->¬ i<1000) (fO:∀ q,q<nq->og q<w0.heap.size) (Fp:∀ q q',q<nq->q'<nq->q≠q'->og q≠og q') (hst:∀ j,j<m->tV st og nq j (H j)) {listed:Array Bool} {a:Act} {w:af} {x:Nat->ak} (I:Inv (ops:=ops) (D:=D) (al:=al) (st:=st) (og:=og) (nq:=nq) (t0:=t0) (ds:=ds) (w0:=w0) H m listed a w x)
  {k:Nat} {o:fk} (ho:ops[k]?=some o) (hkm:k<m) (hun:listed.getD k false=false) (aC:∀ j,(dep D k).contains j=true->listed.getD j false=true) {v:ak} {w':af}
  (hN:Next al st og (H k) k (mask (dep D k) x) w v w'):Inv (ops:=ops) (D:=D) (al:=al) (st:=st) (og:=og) (nq:=nq) (t0:=t0) (ds:=ds) (w0:=w0) H m (listed.setIfInBounds k true) (a.put o.dst v) w' (pA x k v):=by
 have kU:k<ops.length:=(List.getElem?_eq_some_iff.1 ho).1;have hks:k<listed.size:=by rw[I.ls];exact kU
 obtain⟨c1,c2,c3,c4⟩:=rI hok ho;have MC:eN ops k=o.dst:=by simp[eN,ho]
 have hsp:=A7 xZ kU
 -- where operation k stores
 have NG:∀ i,own st k=some i->∃ g,tv og x i=.pointer (some ⟨g,0,none⟩)/\AB g w w'/\((i<1000/\w0.heap.size<=g)\/(¬ i<1000/\i - 1000<nq/\g=og (i - 1000))):=by
  intro i lY;obtain⟨g,hg,hp⟩:=hN.pv i lY;obtain⟨h1,h2,h3⟩:=hsp i lY;rw[AP (fun h=>(h1 h).1)] at hg;refine⟨g,hg,hp,?_⟩
  by_cases hi:i<1000
  ·obtain⟨g',e,h4,h5⟩:=I.pt i (h1 hi).2 (aC i (h1 hi).1);unfold tv at hg;rw[if_pos hi] at hg;rw[hg] at e;injection e with e;injection e with e;injection e with e;subst e;exact Or.inl ⟨hi,h4⟩
  unfold tv at hg;rw[if_neg hi] at hg;injection hg with e;injection e with e;injection e with e;exact Or.inr ⟨hi,h2 hi,e.symm⟩
 have nH:w.heap.size<=w'.heap.size:=by
  cases lY:own st k with
  | none=>exact (hN.bw lY).size
  | some i=>obtain⟨g,hg,hp,_⟩:=NG i lY;exact hp.size
 have iB:∀ B,B<=w0.heap.size->(∀ q,q<nq->B<=og q)->aB B w0 w':=fun B hB hq=>by
  refine (I.be B hB hq).trans ?_
  cases lY:own st k with
  | none=>exact (hN.bw lY).mono (by have:=I.sw;omega)
  | some i =>
   obtain⟨g,hg,hp,hc⟩:=NG i lY;refine⟨hp.os,hp.tape,hp.output,nH,fun q hqB=>hp.block q (by have:=I.sw;omega) ?_⟩;rcases hc with ⟨_,hc⟩ | ⟨_,h1,hc⟩
   ·omega
   have:=hq _ h1;omega
 have cS:∀ b,b<w0.heap.size->(∀ q,q<nq->og q≠b)->w'.heap[b]?=w0.heap[b]?:=fun b hb hq=>by
  rw[<-I.bl b hb hq]
  cases lY:own st k with
  | none=>exact (hN.bw lY).block b (by have:=I.sw;omega)
  | some i =>
   obtain⟨g,hg,hp,hc⟩:=NG i lY;refine hp.block b (by have:=I.sw;omega) ?_;rcases hc with ⟨_,hc⟩ | ⟨_,h1,hc⟩
   ·omega
   rw[hc];exact fun e=>hq _ h1 e.symm
 have hne:∀ j,listed.getD j false=true->j≠k:=fun j hj e=>by subst e;rw[hun] at hj;cases hj
 have zR:∀ j,(listed.setIfInBounds k true).getD j false=true->j=k\/listed.getD j false=true:=fun j hj=>by
  rw[gR hks] at hj;simpa using hj
 have hput:(a.put o.dst v).tmps=match o.dst with | some d=>a.tmps.setIfInBounds d v | none=>a.tmps:=by cases o.dst<;>rfl
 have NA:(dep D k).contains k=false:=by
  cases h:(dep D k).contains k with
  | false=>rfl
  | true=>have:=(c2 k h).2.2;omega
 -- two operations write two slots
 have hds:∀ j d,eN ops j=some d->o.dst=some d->j=k:=fun j d h1 h2=>by
  rcases Nat.lt_trichotomy j k with h | h | h
  ·exact absurd h1 ((c4 d h2).2 j h)
  ·exact h
  cases hoj:ops[j]? with
  | none=>simp[eN,hoj] at h1
  | some oj=>exact absurd (MC.trans h2) (((rI hok hoj).2.2.2 d (by simpa [eN,hoj] using h1)).2 k h)
 refine⟨fun j d hj hd=>?_,fun t ht=>?_,?_,?_,iB,cS,fun q hq hl=>?_,ai I.sw nH,by simpa using I.ls,fun j hj i hi=>?_,fun j hj=>?_,fun j hj=>?_,fun i hi hl=>?_,fun i j hi hj La Xu hij=>?_⟩
 ·rw[hput];rcases zR j hj with rfl | hj'
  ·rw[MC] at hd;rw[hd,nP];have:=(c4 d hd).1;rw[<-I.sz] at this
   simp[this]
  rw[nQ _ _ (hne j hj')]
  cases Fp:o.dst with
  | none=>exact I.tm j d hj' hd
  | some e =>
   by_cases hde:e=d
   ·subst hde;exact absurd (hds j e hd Fp) (hne j hj')
   simp only[];rw[Array.getElem?_setIfInBounds_ne hde];exact I.tm j d hj' hd
 ·rw[hput];have h1:a.tmps[t]?=t0[t]?:=I.pre t fun j hj=>ht j (by rw[gR hks];simp only[hj,Bool.or_true])
  cases Fp:o.dst with
  | none=>exact h1
  | some e =>
   have:=ht k (by rw[gR hks];simp);rw[MC,Fp] at this;simp only[];rw[Array.getElem?_setIfInBounds_ne (fun h=>this (by rw[h]))];exact h1
 ·rw[hput,<-I.sz];cases o.dst<;>simp
 ·rw[<-I.df];cases o.dst<;>rfl
 ·rw[<-I.od q hq fun k' hk'=>hl k' (by rw[gR hks];simp only[hk',Bool.or_true])];have hlt:=fO q hq
  cases lY:own st k with
  | none=>exact (hN.bw lY).block _ (by have:=I.sw;omega)
  | some i =>
   obtain⟨g,hg,hp,hc⟩:=NG i lY;refine hp.block _ (by have:=I.sw;omega) ?_;rcases hc with ⟨_,hc⟩ | ⟨hi,h1,hc⟩
   ·omega
   rw[hc];refine Fp q _ hq h1 (fun e=>hl k (by rw[gR hks];simp) ?_);rw[lY,e];congr 1;omega
 ·rw[gR hks];rcases zR j hj with rfl | hj'
  ·simp only[aC i hi,Bool.or_true]
  simp only[I.dn j hj' i hi,Bool.or_true]
 ·rcases zR j hj with rfl | hj'
  ·exact hkm
  exact I.lt j hj'
 ·rcases zR j hj with rfl | hj'
  ·rw[xL _ NA,nP];exact hN.is
  rw[nQ _ _ (hne j hj'),xL]
  ·cases lY:own st k with
   | none=>exact (hst j (I.lt j hj')).1 _ _ _ _ (I.fa j hj') (hN.bw lY)
   | some i =>
    obtain⟨g,hg,hp,hc⟩:=NG i lY;obtain⟨h1,h2,h3⟩:=hsp i lY;refine (hst j (I.lt j hj')).2 (fun e=>by subst e;cases lY) _ _ _ _ g (I.fa j hj') (fun i' hi'=>?_) (by rcases hc with ⟨hx,_⟩ | ⟨_,hx,hy⟩;exact absurd hx (yj k i lY);exact⟨_,hx,hy⟩) hp;have jq:j<ops.length:=by have:=I.lt j hj';have:=vS hok;omega
    obtain⟨h4,h5,h6⟩:=A7 xZ jq i' hi';have Ry:i'≠i:=fun e=>by subst e;exact h3 j jq (hne j hj') hi'
    rw[AP (fun h=>(h4 h).1)]
    by_cases xd:i'<1000
    ·obtain⟨g',e',q1,q2⟩:=I.pt i' (h4 xd).2 (I.dn j hj' i' (h4 xd).1);have ht:tv og x i'=x i':=if_pos xd;rw[ht];rcases hc with ⟨oV,hc⟩ | ⟨oV,hq2,hc⟩
     ·have Xe:tv og x i=x i:=if_pos oV;rw[Xe] at hg;exact fun e=>I.ne i' i (h4 xd).2 (h1 oV).2 (I.dn j hj' i' (h4 xd).1) (aC i (h1 oV).1) Ry (e.trans hg.symm)
     intro e;rw[e'] at e;injection e with e;injection e with e;injection e with e;have:=fO _ hq2;omega
    have ht:tv og x i'=.pointer (some ⟨og (i' - 1000),0,none⟩):=if_neg xd;rw[ht];intro e;injection e with e;injection e with e;injection e with e;have hl':=fO _ (h5 xd);rcases hc with ⟨oV,hc⟩ | ⟨oV,hq2,hc⟩
    ·omega
    exact Fp _ _ (h5 xd) hq2 (by omega) (e.trans hc)
  cases h:(dep D j).contains k with
  | false=>rfl
  | true=>have:=I.dn j hj' k h;rw[hun] at this;cases this
 ·rcases zR i hl with rfl | hl'
  ·obtain⟨g,h1,h2,h3⟩:=hN.al hi;exact⟨g,by rw[nP];exact h1,by have:=I.sw;omega,h3⟩
  obtain⟨g,h1,h2,h3⟩:=I.pt i hi hl';exact⟨g,by rw[nQ _ _ (hne i hl')];exact h1,h2,by omega⟩
 rcases zR i La with rfl | Ig<;>rcases zR j Xu with rfl | Ie
 ·exact absurd rfl hij
 ·obtain⟨g,h1,h2,h3⟩:=hN.al hi;obtain⟨g',MG,RZ,UF⟩:=I.pt j hj Ie;rw[nP,nQ _ _ (hne j Ie),h1,MG];intro e;injection e with e;injection e with e;injection e with e;omega
 ·obtain⟨g,h1,h2,h3⟩:=hN.al hj;obtain⟨g',MG,RZ,UF⟩:=I.pt i hi Ig;rw[nP,nQ _ _ (hne i Ig),h1,MG];intro e;injection e with e;injection e with e;injection e with e;omega
 rw[nQ _ _ (hne i Ig),nQ _ _ (hne j Ie)];exact I.ne i j hi hj Ig Ie hij
def Rest (P:lB) (ops:List fk) (Q:Exit->Act->af->Prop) (t0:Array ak) (ds:List Deferred) (m:Nat) (x:Nat->ak) (w:af):Prop:=
 wpAny P .any ops.toArray Q (ops.length - m) (bI m true++bI (ops.length - m) false).toArray ⟨fill (ops.take m) x 0 t0,ds⟩ w
theorem tO {m j:Nat} (h:j<m):eN (ops.take m) j=eN ops j:=by
 unfold eN;rw[List.getElem?_take_of_lt h]
theorem uL {m j:Nat} (h:m<=j):eN (ops.take m) j=none:=by
 unfold eN;rw[List.getElem?_eq_none (by simp;omega)];rfl
theorem finish (hml:m<=ops.length) {listed:Array Bool} {a:Act} {w:af} {x:Nat->ak}
  (I:Inv (ops:=ops) (D:=D) (al:=al) (st:=st) (og:=og) (nq:=nq) (t0:=t0) (ds:=ds) (w0:=w0) H m listed a w x) (hall:∀ j,j<m->listed.getD j false=true)
  (hG:∀ x w,Left D al og nq w0 H m x w->Rest P ops Q t0 ds m x w):wpAny P .any ops.toArray Q (listed.toList.count false) listed a w:=by
 have h:=hG x w ⟨⟨I.be,I.bl⟩,fun j hj=>I.fa j (hall j hj),fun i hi Ik=>I.pt i hi (hall i Ik),fun i j hi hj Ik zV hij=>I.ne i j hi hj (hall i Ik) (hall j zV) hij⟩
 have hl:listed=(bI m true++bI (ops.length - m) false).toArray:=by
  apply Array.ext
  ·rw[I.ls];simp;omega
  intro i h1 h2;rw[I.ls] at h1
  by_cases hi:i<m
  ·have:=hall i hi;rw[Array.getD_eq_getD_getElem?,Array.getElem?_eq_getElem (by rw[I.ls];exact h1)] at this;simp only[jX] at this;rw[this]
   simp[List.getElem_append_left,hi]
  have h3:listed.getD i false=false:=by
   cases h:listed.getD i false with
   | false=>rfl
   | true=>exact absurd (I.lt i h) hi
  rw[Array.getD_eq_getD_getElem?,Array.getElem?_eq_getElem (by rw[I.ls];exact h1)] at h3;simp only[jX] at h3;rw[h3]
  simp[List.getElem_append,hi]
 have ha:a=⟨fill (ops.take m) x 0 t0,ds⟩:=by
  have e:fill (ops.take m) x 0 t0=a.tmps:=by
   refine fill_eq _ x 0 t0 a.tmps I.sz (fun j d hd=>?_) (fun t ht=>?_)
   ·rcases Nat.lt_or_ge j m with hj | hj
    ·rw[tO hj] at hd;rw[gh];exact I.tm j d (hall j hj) hd
    rw[uL hj] at hd;cases hd
   refine I.pre t fun j hj=>?_
   have:=ht j
   rwa [tO (I.lt j hj)] at this
  rw[e,<-I.df]
 have hc:listed.toList.count false=ops.length - m:=by rw[hl];simp[List.count_replicate]
 rw[hc,hl,ha];exact h
theorem main (hok:ok ops D m t0.size=true) (xZ:zI ops D al st nq=true) (yj:∀ k i,own st k=some i->¬ i<1000) (fO:∀ q,q<nq->og q<w0.heap.size) (Fp:∀ q q',q<nq->q'<nq->q≠q'->og q≠og q') (hst:∀ j,j<m->tV st og nq j (H j)) (hrun:∀ j,j<m->∃ o,ops[j]?=some o/\Cw P ops D al st og nq t0 ds w0 H j o (H j))
  (hG:∀ x w,Left D al og nq w0 H m x w->Rest P ops Q t0 ds m x w) :
  ∀ (fuel:Nat) (listed:Array Bool) (a:Act) (w:af) (x:Nat->ak),listed.toList.count false=fuel->Inv (ops:=ops) (D:=D) (al:=al) (st:=st) (og:=og) (nq:=nq) (t0:=t0) (ds:=ds) (w0:=w0) H m listed a w x->wpAny P .any ops.toArray Q fuel listed a w:=by
 have hml:=vS hok;intro fuel
 induction fuel with
 | zero =>
  intro listed a w x hc I;rw[<-hc];refine finish hml I (fun j hj=>?_) hG;rw[Array.getD_eq_getD_getElem?,Array.getElem?_eq_getElem (by rw[I.ls];omega)];simp only[jX];have h0:=List.count_eq_zero.1 hc
  cases h:listed[j]'(by rw[I.ls];omega) with
  | true=>rfl
  | false=>exact absurd (by rw[<-h];simp) h0
 | succ fuel ih =>
  intro listed a w x hc I
  by_cases hall:∀ j,j<m->listed.getD j false=true
  ·rw[<-hc];exact finish hml I hall hG
  -- what may come up is one of the first m
  have K0:∀ i,i ∈ nL .any ops.toArray listed->listed.getD i false=false/\∃ o,ops[i]?=some o/\(∀ j,(dep D i).contains j=true->listed.getD j false=true)/\i<m:=by
   intro i hi;obtain⟨h1,o,ho,h2⟩:=mem_ready.1 hi;have lY:ops[i]?=some o:=by simpa using ho
   have hlt:i<ops.length:=(List.getElem?_eq_some_iff.1 lY).1;obtain⟨c1,c2,c3,c4⟩:=rI hok lY
   have hd:∀ j,(dep D i).contains j=true->listed.getD j false=true:=fun j hj=>by
    obtain⟨⟨e,he,hb,h3⟩,_⟩:=c2 j hj;rcases h3 with rfl | h3
    ·exact h2 e he hb
    exact I.dn _ (h2 e he hb) j h3
   refine⟨?_,o,lY,hd,c3.resolve_right fun h=>hall fun j hj=>hd j (h j hj)⟩;rw[Array.getD_eq_getD_getElem?,Array.getElem?_eq_getElem (by rw[I.ls];exact hlt)] at h1 ⊢;exact h1
  refine⟨fun hr=>?_,fun i hi=>?_⟩
  ·-- the least that has not come up may come up
   exfalso
   have hex:∃ j,listed.getD j false=false/\j<m:=by
    refine Classical.byContradiction fun h=>hall fun j hj=>?_
    cases h2:listed.getD j false with
    | true=>rfl
    | false=>exact absurd ⟨j,h2,hj⟩ h
   have hmin:∃ j,(listed.getD j false=false/\j<m)/\∀ i,i<j->listed.getD i false=true:=by
    obtain⟨j,h1,h2⟩:=hex
    induction j using Nat.strongRecOn with
    | ind j ihj =>
     by_cases uH:∃ i,i<j/\listed.getD i false=false
     ·obtain⟨i,h3,h4⟩:=uH;exact ihj i h3 h4 (by omega)
     refine⟨j,⟨h1,h2⟩,fun i hi=>?_⟩
     cases h5:listed.getD i false with
     | true=>rfl
     | false=>exact absurd ⟨i,hi,h5⟩ uH
   obtain⟨j,⟨h1,h2⟩,h3⟩:=hmin;have Ug:ops[j]?=some (ops[j]'(by omega)):=List.getElem?_eq_getElem (by omega)
   have:j ∈ nL .any ops.toArray listed:=mem_ready.2 ⟨by
    rw[Array.getD_eq_getD_getElem?,Array.getElem?_eq_getElem (by rw[I.ls];omega)] at h1 ⊢
    exact h1,_,by rw[kM];exact Ug,fun e he hb=>h3 _ ((rI hok Ug).1 e he hb)⟩
   rw[hr] at this;cases this
  obtain⟨hun,o,ho,hd,Ik⟩:=K0 i hi;obtain⟨o',lY,hR⟩:=hrun i Ik;obtain rfl:o=o':=by rw[ho] at lY;exact Option.some.inj lY
  have oL:i<ops.length:=(List.getElem?_eq_some_iff.1 ho).1
  have hA:At ops D st og nq t0 w0 H i a.tmps (mask (dep D i) x) w:=by
   obtain⟨c1,c2,c3,c4⟩:=rI hok ho;refine⟨I.be,I.bl,fun q hq hk'=>I.od q hq fun k' hlk Rl=>?_,fun j d hj hd'=>?_,fun j hj=>?_,fun t ht=>I.pre t fun j hj Bg=>?_⟩
   ·rcases hk' k' Rl with e | e
    ·subst e;rw[hun] at hlk;cases hlk
    have:=I.dn k' hlk i e;rw[hun] at this;cases this
   ·rw[au hj];exact I.tm j d (hd j hj) hd'
   ·have e:mask (dep D j) (mask (dep D i) x)=mask (dep D j) x:=by
     funext q
     unfold mask
     by_cases hq:(dep D j).contains q=true
     ·rw[if_pos hq,if_pos hq,if_pos ((c2 j hj).2.1 q hq)]
     rw[if_neg hq,if_neg hq]
    rw[e,au hj];exact I.fa j (hd j hj)
   have jq:j<ops.length:=by have:=I.lt j hj;omega
   unfold R7.pre at ht;rw[fu] at ht;have h1:=ht j (List.mem_range.2 jq);simp only[fS,bne_iff_ne,ne_eq,beq_iff_eq] at h1;rcases h1 with (h1 | h1) | h1
   ·exact h1 Bg
   ·subst h1;rw[hun] at hj;cases hj
   have:=I.dn j hj i h1;rw[hun] at this;cases this
  have xX:=hR a.tmps (mask (dep D i) x) w hA (fun a' w'=>∃ v,a'=(a.put o.dst v)/\Next al st og (H i) i (mask (dep D i) x) w v w') (fun v w' hN=>⟨v,by rw[<-I.df],hN⟩);have Rx:i<listed.size:=by rw[I.ls];exact oL
  have Lg:(listed.setIfInBounds i true).toList.count false=fuel:=by
   have h1:listed.toList[i]?=some false:=by
    rw[Array.getD_eq_getD_getElem?,Array.getElem?_eq_getElem (by rw[I.ls];exact oL)] at hun;rw[List.getElem?_eq_getElem (by simpa using Rx)]
    simpa using hun
   have:=rQ h1;rw[hc] at this;rw[lK]
   omega
  have cC:∀ a' w',(∃ v,a'=(a.put o.dst v)/\Next al st og (H i) i (mask (dep D i) x) w v w')->wpAny P .any ops.toArray Q fuel (listed.setIfInBounds i true) a' w':=by
   rintro a' w' ⟨v,rfl,hN⟩;exact ih _ _ _ _ Lg (I.step hok xZ yj fO Fp hst ho Ik hun hd hN)
  unfold wpOp;rw[show ops.toArray[i]?=some o by simpa using ho];simp only[];have XJ:(⟨a.tmps,ds⟩:Act)=a:=by rw[<-I.df]
  rw[XJ] at xX
  split
  ·rename_i hw
   rw[if_pos hw] at xX;exact Or.inl (Oper.Kh (Go.Oper.wp_mono cC xX))
  rename_i hw
  rw[if_neg hw] at xX;exact cC _ _ xX
theorem GJ {st:List (Nat × Nat)} (h:(st.all fun p=>decide (1000<=p.2))=true):∀ k i,own st k=some i->¬ i<1000:=by
 intro k i hi;unfold own at hi
 induction st with
 | nil=>cases hi
 | cons p l ih =>
  obtain⟨a,b⟩:=p;rw[List.all_cons,dA,decide_eq_true_eq] at h;rw[List.lookup_cons] at hi
  split at hi
  ·injection hi with hi;subst hi;have:=h.1;omega
  exact ih h.2 hi
theorem region {id:Nat} {w:af} (hm:P.follows .mixedOrders=true) (D:List (List Nat)) (al:List Nat) (st:List (Nat × Nat)) (og:Nat->Nat) (nq:Nat) (m:Nat) (hok:ok ops D m t0.size=true) (xZ:zI ops D al st nq=true) (yj:(st.all fun p=>decide (1000<=p.2))=true) (fO:∀ q,q<nq->og q<w.heap.size) (Fp:∀ q q',q<nq->q'<nq->q≠q'->og q≠og q')
  (h:aF P ops D al st og nq t0 ds w.drew m (Rest P ops Q t0 ds m) ops 0 []):(Code.region id ops.toArray true).wp P Q ⟨t0,ds⟩ w:=by
 refine wp_region_any hm ?_;have hml:=vS hok;obtain⟨H,_,h2,h3⟩:=aF.all (fun k j hk hj=>M8 hok hj (by omega)) ops 0 [] rfl (ah _) (fun j=>by rw[gh]) h;have hc:(nh ops.toArray.size false).toList.count false=ops.toArray.size:=by simp
 refine main (w0:=w.drew) hok xZ (GJ yj) fO Fp (fun j hj=>(h2 j (ah _) hj).1) (fun j hj=>(h2 j (ah _) hj).2) h3 _ _ _ _ (fun _=>undef) hc ?_
 have hno:∀ j,(nh ops.toArray.size false).getD j false=true->False:=fun j hj=>by
  rw[Array.getD_eq_getD_getElem?] at hj
  by_cases h:j<ops.length<;>simp[h] at hj
 exact⟨fun j _ hj=>(hno j hj).elim,fun _ _=>rfl,rfl,rfl,fun B _ _=>ax _ _,fun _ _ _=>rfl,fun _ _ _=>rfl,ag _,by simp,fun j hj=>(hno j hj).elim,fun j hj=>(hno j hj).elim,fun j hj=>(hno j hj).elim,fun j _ hj=>(hno j hj).elim,fun i j _ _ hj=>(hno i hj).elim⟩
theorem lW {x:Nat->ak} {w:af} (h:Q .normal ⟨fill ops x 0 t0,ds⟩ w):Rest P ops Q t0 ds ops.length x w:=by
 unfold Rest;rw[Nat.sub_self,cz];refine⟨?_,h⟩;simp only[List.replicate_zero,List.append_nil];refine List.eq_nil_iff_forall_not_mem.2 (fun i hi=>?_);obtain⟨h1,o,ho,_⟩:=mem_ready.1 hi;have hlt:i<ops.length:=by have:=(Array.getElem?_eq_some_iff.1 ho).1;simpa using this
 simp[Array.getD_eq_getD_getElem?,hlt] at h1
end
end
def vm (n m:Nat):Array Bool:=(bI m true++bI (n - m) false).toArray
def qq (ops:List fk) (m:Nat):Bool:=(fm ops.length).all fun i=>decide (i<m) || nL .any ops.toArray (vm ops.length i)==[i]
theorem G_ {n m:Nat} (h:m<n):(vm n m).setIfInBounds m true=vm n (m+1):=by
 unfold vm
 apply Array.ext'
 rw[lK]
 show (bI m true++bI (n - m) false).set m true=bI (m+1) true++bI (n - (m+1)) false
 rw[List.set_append_right _ _ (by simp)];simp only[fX,Nat.sub_self];obtain⟨r,hr⟩:∃ r,n - m=r+1:=⟨n - m - 1,by omega⟩
 rw[hr,show n - (m+1)=r by omega,List.replicate_succ,bW,List.replicate_succ',List.append_assoc]
 rfl
theorem zG (ops:List fk):nL .any ops.toArray (vm ops.length ops.length)=[]:=by
 refine List.eq_nil_iff_forall_not_mem.2 (fun i hi=>?_);obtain⟨h1,o,ho,_⟩:=mem_ready.1 hi;have hlt:i<ops.length:=by have:=(Array.getElem?_eq_some_iff.1 ho).1;simpa using this
 simp[vm,Array.getD_eq_getD_getElem?,hlt] at h1
theorem sW {P:lB} {ops:List fk} {Q:Exit->Act->af->Prop}:∀ (r m:Nat),m+r=ops.length->(∀ i,m<=i->i<ops.length->nL .any ops.toArray (vm ops.length i)=[i])->∀ a w,mq P ops.toArray Q (ops.drop m) a w->wpAny P .any ops.toArray Q r (vm ops.length m) a w
 | 0,m,hm,_,a,w,h=>by
  have e:m=ops.length:=by omega
  subst e;rw[List.drop_length] at h;exact⟨zG ops,h⟩
 | r+1,m,hm,hr,a,w,h=>by
  have hlt:m<ops.length:=by omega
  have h0:=hr m (ag _) hlt;refine⟨(fun hn=>by rw[h0] at hn;cases hn),fun i hi=>?_⟩;rw[h0,aX] at hi;subst hi;rw[eV hlt] at h;have ho:ops.toArray[i]?=some ops[i]:=by simp[hlt]
  have ih:=sW (P:=P) (Q:=Q) r (i+1) (by omega) (fun j hj hj'=>hr j (by omega) hj');unfold wpOp;rw[ho,G_ hlt];simp only[mq] at h ⊢
  split
  ·rename_i hw
   rw[if_pos hw] at h;rcases h with h | h
   ·exact .inl (Go.Oper.wp_mono (fun a' w' h'=>ih a' w' h') h)
   exact .inr h
  rename_i hw
  rw[if_neg hw] at h;exact ih _ _ h
theorem ji {P:lB} {ops:List fk} {Q:Exit->Act->af->Prop} {t0:Array ak} {ds:List Deferred} {m:Nat} {x:Nat->ak} {w:af} (hm:m<=ops.length) (hi:qq ops m=true)
  (h:mq P ops.toArray Q (ops.drop m) ⟨fill (ops.take m) x 0 t0,ds⟩ w):Rest P ops Q t0 ds m x w:=by
 unfold Rest;refine sW (ops.length - m) m (by omega) (fun i h1 h2=>?_) _ _ h;unfold qq at hi;have:=List.all_eq_true.1 hi i (List.mem_range.2 h2);simp only[fS,decide_eq_true_eq,beq_iff_eq] at this;exact this.resolve_left (by omega)
section
variable {P:lB} {ops:List fk} {D:List (List Nat)} {al:List Nat} {st:List (Nat × Nat)} {og:Nat → Nat} {nq:Nat} {t0:Array ak} {ds:List Deferred} {w0:af}
theorem mi {L:List Nat} {x:Nat → ak} {j:Nat} (h:L.contains j=true):mask L x j=x j:=au h
theorem cd {m k:Nat} {G:(Nat → ak) → af → Prop} {o:fk} {l:List fk} {F:List Fact} (f:(Nat → ak) → ak) (hr:∀ (T:Array ak) (x:Nat → ak) (w:af),At ops D st og nq t0 w0 (fact F) k T x w → (execOp (Act.eval ⟨T,ds⟩) o).run P w=.ok (.value (f x)) w)
    (h:aF P ops D al st og nq t0 ds w0 m G l (k+1) ((fun x v _=>v=f x)::F)) (hp:plain al st k=true:=by rfl) (hw:∀ T:Array ak,iV o (yielded ops.toArray T)=true:=by (intro T;rfl)):aF P ops D al st og nq t0 ds w0 m G (o::l) k F:=aF.dL f hp (fun T x w hA=>⟨hw T,hr T x w hA⟩) h
theorem At.tq {F:Nat → Fact} {k:Nat} {T:Array ak} {x:Nat → ak} {w:af} (h:At ops D st og nq t0 w0 F k T x w) (j d:Nat) (h1:(dep D k).contains j=true:=by rfl) (h2:eN ops j=some d:=by rfl):T[d]?=some (x j):=h.tm j d h1 h2
theorem At.fq {F:Nat → Fact} {k:Nat} {T:Array ak} {x:Nat → ak} {w:af} (h:At ops D st og nq t0 w0 F k T x w) (j:Nat) (h1:(dep D k).contains j=true:=by rfl):F j (mask (dep D j) x) (x j) w:=h.fa j h1
theorem At.pq {F:Nat → Fact} {k:Nat} {T:Array ak} {x:Nat → ak} {w:af} (h:At ops D st og nq t0 w0 F k T x w) (t:Nat) (h1:R7.pre ops D k t=true:=by kernel_rfl):T[t]?=t0[t]?:=h.pre t h1
theorem b0_ {cur new:af} (h:∀ B,B ≤ cur.drew.heap.size → (∀ q,q<0 → B ≤ og q) → aB B cur.drew new):aB cur.heap.size cur new:=(fun k:aB cur.heap.size cur.drew new=>⟨k.os,k.tape,k.output,k.size,k.block⟩) (h cur.heap.size (ag _) (fun _ h=>absurd h (an _)))
theorem r0 {id:Nat} {w:af} {Q:Exit → Act → af → Prop} (D:List (List Nat)) (m:Nat) (h:aF P ops D [] [] (fun _=>0) 0 t0 ds w.drew m (Rest P ops Q t0 ds m) ops 0 []) (hm:P.follows .mixedOrders=true:=by kernel_rfl) (hok:ok ops D m t0.size=true:=by kernel_rfl) (xZ:zI ops D [] [] 0=true:=by kernel_rfl):(Code.region id ops.toArray true).wp P Q ⟨t0,ds⟩ w:=
  region hm D [] [] (fun _=>0) 0 m hok xZ rfl (fun q h=>absurd h (an _)) (fun q q' h=>absurd h (an _)) h
end
end R7
set_option linter.unusedVariables false
set_option linter.unusedSimpArgs false
theorem bX (a:cu) (i:Nat):(a.add i).block=a.block:=by unfold Addr.add;split<;>rfl
theorem iR (g o i:Nat):(⟨g,o,none⟩:cu).add i=⟨g,o+i,none⟩:=by simp[Addr.add]
theorem yO (a:cu) (i j:Nat):(a.add i).add j=a.add (i+j):=wT a i j
def lA (l:List ak):Prop:=∀ u ∈ l,∀ z,u ≠ .int .u32 z
theorem jV {w w':af} (h:aB w.heap.size w w') (row:Option Nat):w.grownBy w' row:=⟨h.os,h.tape,h.output,h.size,fun k hk _=>h.block k hk⟩
theorem lA.app {a b:List ak} (h:lA a) (k:lA b):lA (a++b):=fun u hu=>by
 rcases List.mem_append.1 hu with hu | hu
 ·exact h u hu
 exact k u hu
theorem lA.take {a:List ak} (h:lA a) (n:Nat):lA (a.take n):=fun u hu=>h u (List.mem_of_mem_take hu)
theorem lA.drop {a:List ak} (h:lA a) (n:Nat):lA (a.drop n):=fun u hu=>h u (List.mem_of_mem_drop hu)
theorem lA.AK {c:Array ak} (h:lA c.toList) (n:Nat):lA (gG c n).toList:=by
 intro u hu;unfold gG at hu;rw[Array.mem_toList_iff,Array.mem_map] at hu;obtain⟨i,hi,rfl⟩:=hu;rw[Array.mem_range] at hi
 have h0:0<c.size:=by
  rcases Nat.eq_zero_or_pos c.size with h0 | h0
  ·rw[h0] at hi;omega
  exact h0
 have hl:=ig i h0;rw[getElem!_pos c _ hl];exact h _ (Array.mem_toList_iff.2 (Array.getElem_mem hl))
theorem lA.flat {α:Type} {f:α->List ak} {l:List α} (h:∀ a,lA (f a)):lA (l.flatMap f):=fun u hu=>by
 obtain⟨a,_,ha⟩:=List.mem_flatMap.1 hu;exact h a u ha
structure Fr (e:aZ) (w w':af):Prop where
 block:∀ (g:Nat) (c:Array ak) (T:aZ),w.heap[g]?=some (.cells c T (0,0))->T≠e->w'.heap[g]?=some (.cells c T (0,0))
 num:∀ (a:cu) (z:Int),w.cell? a=some (.int .u32 z)->w'.cell? a=some (.int .u32 z)
theorem Fr.refl (e:aZ) (w:af):Fr e w w:=⟨fun _ _ _ h _=>h,fun _ _ h=>h⟩
theorem Fr.aH {e:aZ} {w w':af} (h:aB w.heap.size w w'):Fr e w w':=
 ⟨fun g c T hg _=>by rw[h.block g (ae hg)];exact hg,fun a z hc=>by rw[h.cell (World.block_lt_of_cell? w a hc)];exact hc⟩
theorem qz {w:af} {g:Nat} {c:Array ak} {T:aZ} {fz:Nat × Nat} (h:w.heap[g]?=some (.cells c T fz)) (h32:lA c.toList) {a:cu} (ha:a.block=g) (z:Int):w.cell? a≠some (.int .u32 z):=by
 intro hc;unfold World.cell? at hc;rw[ha,h] at hc;simp only at hc
 split at hc
 ·cases hc
 exact h32 _ (Array.mem_toList_iff.2 (Array.mem_of_getElem? hc)) z rfl
theorem Fr.aI {e:aZ} {w w':af} {r:Option Nat} (hg:w.grownBy w' r) (hr:∀ g,r=some g->∃ c,w.heap[g]?=some (.cells c e (0,0))/\lA c.toList):Fr e w w':=
 ⟨fun g x T hx hT=>by
  rw[hg.block g (ae hx) (fun h=>by
   obtain⟨c,hc,-⟩:=hr g h.symm
   rw[hx] at hc;injection hc with hc;injection hc with _ hc;exact hT hc)];exact hx,
  fun a z hc=>by
  refine hg.cell hc (fun h=>?_);obtain⟨c,rN,h32⟩:=hr _ h.symm
  exact qz rN h32 rfl z hc⟩
theorem Sl.fr {e:aZ} {w w':af} {v:ak} {xs:List Nat} (h:Sl w .u32 v xs) (k:Fr e w w'):Sl w' .u32 v xs:=by
 obtain⟨ao,cap,e1,h1,h2,h3,h4⟩:=h;refine⟨ao,cap,e1,h1,h2,h3,fun i hi=>?_⟩;obtain⟨a,ha,hc⟩:=h4 i hi;exact⟨a,ha,k.num _ _ hc⟩
theorem CI.fr {e:aZ} {w w':af} {v:ak} {z:Int} {k:Nat} (h:CI w v z k) (f:Fr e w w'):CI w' v z k:=by
 obtain⟨va,h1,h2,h3⟩:=h;exact⟨va,h1,h2.fr f,h3⟩
theorem CI.mono {w:af} {v:ak} {z:Int} {k k':Nat} (h:CI w v z k) (hk:k<=k'):CI w v z k':=by
 obtain⟨va,h1,h2,h3⟩:=h;exact⟨va,h1,h2,dZ h3 hk⟩
structure El (α:Type) where
 e:aZ
 t:aZ
 n:Nat
 b:Nat
 z:ak
 f:α->List ak
 R:af->α->Prop
 ok:aZ->Prop
 pos:0<n
 CP:b<=1000
 zs:z.cells.size=n
 z32:lA z.cells.toList
 ht:Tryz.prog.underlying t=some (.slice e)
 info:(Tryz.prog.info? e).map (fun i=>(i.zero,i.size,i.bytes))=some (some z,n,b)
 len:∀ a,(f a).length=n
 one:∀ a,∀ u ∈ f a,u.oneCell'=true
 n32:∀ a,lA (f a)
 fr:∀ {e':aZ} {w w':af} {a:α},ok e'->Fr e' w w'->R w a->R w' a
 own:ok e
section
variable {α:Type} (E:El α)
theorem El.below {w w':af} {a:α} (h:E.R w a) (hb:aB w.heap.size w w'):E.R w' a:=E.fr E.own (Fr.aH hb) h
theorem kT {α:Type} {n:Nat} (f:α->List ak) (hf:∀ a,(f a).length=n):∀ (l:List α) (i j:Nat) (hi:i<l.length),j<n->(l.flatMap f)[i*n+j]?=(f l[i])[j]?:=by
 intro l
 induction l with
 | nil=>intro i j hi;simp at hi
 | cons a l ih =>
  intro i j hi hj;rw[gr]
  cases i with
  | zero=>rw[Nat.zero_mul,gh,List.getElem?_append_left (by rw[hf];exact hj)];rfl
  | succ i =>
   rw[List.getElem?_append_right (by rw[hf,cO];omega),hf,show (i+1)*n+j - n=i*n+j by rw[cO];omega,List.getElem_cons_succ];exact ih i j (by simpa using hi) hj
theorem gI {α:Type} {n:Nat} (f:α->List ak) (hf:∀ a,(f a).length=n):∀ l:List α,(l.flatMap f).length=l.length*n:=by
 intro l
 induction l with
 | nil=>simp
 | cons a l ih=>rw[gr,dB,ih,hf,jo,cO];omega
structure El.Row (w:af) (B:Nat) (v:ak) (el:List α):Prop where
 own:w.ownsRow B E.e E.n v el.length (el.flatMap E.f)
 n32:∀ g,v.ownBlock=some g->∃ c,w.heap[g]?=some (.cells c E.e (0,0))/\lA c.toList
 rd:∀ a ∈ el,E.R w a
def El.At (w:af) (v:ak) (el:List α):Prop:=∃ ko kc,v=.slice ko el.length kc/\(el.length<=kc/\kc<=bn/\(ko=none->kc=0)) /\
 ∀ i (h:i<el.length),∃ a,ko=some a/\(∃ c,w.heap[a.block]?=some (.cells c E.e (0,0)))/\(∀ j u,(E.f el[i])[j]?=some u->w.cell? (a.add (i*E.n+j))=some u)/\E.R w el[i]
variable {E}
theorem El.Row.nil (w:af) (B:Nat):E.Row w B (.slice none 0 0) []:=⟨World.ownsRow_nil _ _ _ _,fun _ h=>(by cases h),fun q h=>(by cases h)⟩
theorem El.Row.form {w:af} {B:Nat} {v:ak} {el:List α} (h:E.Row w B v el):∃ ko kc,v=.slice ko el.length kc/\el.length<=kc/\kc<=bn/\(ko=none->kc=0):=by
 rcases h.own.2 with ⟨rfl,h1⟩ | ⟨g,cap,cur,rfl,_,_,h1,h2,_⟩
 ·rw[h1];exact⟨_,_,rfl,ag _,ah _,fun _=>rfl⟩
 exact⟨_,_,rfl,h1,h2,fun h=>by cases h⟩
theorem El.Row.ge {w:af} {B:Nat} {v:ak} {el:List α} (h:E.Row w B v el) {j:Nat} (hj:v.ownBlock=some j):B<=j/\j<w.heap.size:=World.ownsRow.lt h.own j hj
theorem El.Row.below {w w':af} {B:Nat} {v:ak} {el:List α} (h:E.Row w B v el) (hb:aB w.heap.size w w'):E.Row w' B v el:=by
 refine⟨?_,fun g hg=>?_,fun q hq=>E.below (h.rd q hq) hb⟩
 ·rcases hr:v.ownBlock with _ | j
  ·exact iU h.own (jV hb none) (.inl hr)
  exact iU h.own (jV hb none) (.inr (by rw[hr];intro e;cases e))
 obtain⟨c,hc,h32⟩:=h.n32 g hg;exact⟨c,by rw[hb.block g (ae hc)];exact hc,h32⟩
theorem El.Row.at {w:af} {B:Nat} {v:ak} {el:List α} (h:E.Row w B v el):E.At w v el:=by
 obtain⟨ko,kc,rfl,h1⟩:=h.form;refine⟨ko,kc,rfl,h1,fun i hi=>?_⟩;rcases h.own.2 with ⟨hv,h0⟩ | ⟨g,cap,cur,hv,_,hg,h2,h3,h4,h5⟩
 ·omega
 injection hv with e1 e2 e3;subst e1;subst e3;refine⟨_,rfl,⟨cur,hg⟩,fun j u hu=>?_,h.rd _ (bS hi)⟩;have hj:j<E.n:=by have:=(List.getElem?_eq_some_iff.1 hu).1;rwa [E.len] at this
 rw[iR,gh,uP h.own (i*E.n+j) (by
  calc i*E.n+j<i*E.n+E.n:=by omega
   _=(i+1)*E.n:=by rw[cO];omega
   _<=el.length*E.n:=de _ hi),kT E.f E.len el i j hi hj]
 exact hu
theorem El.At.nil (w:af):E.At w (.slice none 0 0) []:=(El.Row.nil w 0).at
theorem El.At.fr {e':aZ} {w w':af} {v:ak} {el:List α} (h:E.At w v el) (hok:E.ok e') (hne:E.e≠e') (f:Fr e' w w'):E.At w' v el:=by
 obtain⟨ko,kc,rfl,h1,h2⟩:=h;refine⟨ko,kc,rfl,h1,fun i hi=>?_⟩;obtain⟨a,ha,⟨c,hc⟩,h3,h4⟩:=h2 i hi;have nu:=f.block _ _ _ hc hne;refine⟨a,ha,⟨c,nu⟩,fun j u hu=>?_,E.fr hok f h4⟩;rw[World.cell?_of_block (w:=w) (by rw[bX,hc,nu])];exact h3 j u hu
theorem El.At.below {w w':af} {v:ak} {el:List α} (h:E.At w v el) (hb:aB w.heap.size w w'):E.At w' v el:=by
 obtain⟨ko,kc,rfl,h1,h2⟩:=h;refine⟨ko,kc,rfl,h1,fun i hi=>?_⟩;obtain⟨a,ha,⟨c,hc⟩,h3,h4⟩:=h2 i hi;have nu:=hb.block _ (ae hc);refine⟨a,ha,⟨c,by rw[nu];exact hc⟩,fun j u hu=>?_,E.below h4 hb⟩;rw[World.cell?_of_block (w:=w) (by rw[bX,nu])];exact h3 j u hu
theorem El.At.block {w:af} {g:Nat} {el:List α} (h:w.heap[g]?=some (.cells (el.flatMap E.f).toArray E.e (0,0))) (hl:el.length<=bn) (hR:∀ a ∈ el,E.R w a):E.At w (.slice (some ⟨g,0,none⟩) el.length el.length) el:=by
 refine⟨_,_,rfl,⟨ag _,hl,fun h=>by cases h⟩,fun i hi=>⟨_,rfl,⟨_,h⟩,fun j u hu=>?_,hR _ (bS hi)⟩⟩;have hj:j<E.n:=by have:=(List.getElem?_eq_some_iff.1 hu).1;rwa [E.len] at this
 rw[iR,gh,cT w g _ _ _ _ h,kM,kT E.f E.len el i j hi hj];exact hu
theorem El.At.news {w:af} {a:cu} {n kc:Nat} {el:List α} (h:E.At w (.slice (some a) n kc) el):∀ j u,(el.flatMap E.f)[j]?=some u->w.cell? (a.add j)=some u:=by
 intro j u hu;obtain⟨v_,we,e,h1,h4⟩:=h;injection e with e1 e2 e3;have jq:j<el.length*E.n:=by have:=(List.getElem?_eq_some_iff.1 hu).1;rwa [gI E.f E.len] at this
 have hp:=E.pos;have hi:j / E.n<el.length:=(Nat.div_lt_iff_lt_mul hp).2 jq;have hm:j % E.n<E.n:=ig _ hp;have hd:j / E.n*E.n+j % E.n=j:=by rw[Nat.mul_comm];exact Nat.div_add_mod j E.n
 obtain⟨b,hb,-,h5,-⟩:=h4 _ hi;rw[<-e1] at hb;injection hb with hb;subst hb;have:=h5 (j % E.n) u (by rw[<-kT E.f E.len el (j / E.n) (j % E.n) hi hm,hd];exact hu)
 rwa [hd] at this
theorem El.Row.run {w:af} {B:Nat} {v x:ak} {el ns:List α} (h:E.Row w B v el) (hx:E.At w x ns) (ty:aZ) (hlen:el.length+ns.length<=1000000) (hB:B<=w.heap.size) :
  ∃ v' w',(gE #[E.t,E.t] ty #[v,x]).run aj w=.ok v' w'/\E.Row w' B v' (el++ns)/\Fr E.e w w'/\aB B w w'/\w.grownBy w' v.ownBlock:=by
 obtain⟨i,hi,hz,iq,mP⟩:=rm E.info;have ht:=E.ht;have hzs:=E.zs;have hbyte:=E.CP;have hsz:=E.pos;rcases x with _ | _ | _ | _ | _ | _ | ⟨ao,m,c⟩ | _ | _ | _ | _ | _ | _ | _ | _ | _<;>first | (obtain⟨_,_,e,_⟩:=hx;cases e;done) | skip
 have hm:m=ns.length:=by obtain⟨_,_,e,_⟩:=hx;injection e
 have fin:∀ v' w',E.Row w' B v' (el++ns)->w.grownBy w' v.ownBlock->E.Row w' B v' (el++ns)/\Fr E.e w w'/\aB B w w'/\w.grownBy w' v.ownBlock:=fun v' w' h1 h2 =>
  ⟨h1,.aI h2 h.n32,⟨h2.os,h2.tape,h2.output,h2.size,fun k hk=>h2.block k (by omega) (fun e=>by have:=(h.ge e.symm).1;omega)⟩,h2⟩
 cases ao with
 | none =>
  have h0:ns=[]:=by
   cases ns with
   | nil=>rfl
   | cons a l=>obtain⟨_,_,e,_,h4⟩:=hx;injection e with e1 e2 e3;subst e1;obtain⟨_,hb,_⟩:=h4 0 (by simp);cases hb
  have hc:c=0:=by obtain⟨_,_,e,⟨_,_,h3⟩,_⟩:=hx;injection e with e1 e2 e3;subst e1;subst e3;exact h3 rfl
  subst h0;subst hc;subst hm;refine⟨v,w,run_append_owned_none w B E.t ty E.e i E.n ht hi v el.length _ h.own,?_⟩;rw[List.append_nil];exact⟨h,Fr.refl _ _,ax _ _,aE _ _⟩
 | some a =>
  subst hm;have hnews:=hx.news;have hl:=gI E.f E.len ns
  have h1:∀ u ∈ ns.flatMap E.f,u.oneCell'=true:=fun u hu=>by
   obtain⟨b,_,hb⟩:=List.mem_flatMap.1 hu;exact E.one b u hb
  have h32:lA (ns.flatMap E.f):=lA.flat E.n32
  have e_:(el.length+ns.length)*i.bytes<=140737488355328:=by
   rw[mP];exact ai (gj hlen hbyte) (by decide)
  have pE:el.length+ns.length<=bn:=by unfold bn;omega
  obtain⟨v',w',hr,h2,h3,h4⟩:=run_append_own (P:=aj) w B E.t ty E.e i E.z E.n E.b ht hi hz iq mP hzs hsz v el.length _ h.own a ns.length c _ hl hnews h1 pE (by rw[<-mP];exact e_) hB;refine⟨v',w',hr,fin v' w' ⟨?_,?_,?_⟩ h3⟩
  ·rw[dB,List.flatMap_append];exact h2
  ·rw[<-iq] at hl;have pD:(el.flatMap E.f).length=el.length*i.size:=by rw[iq];exact h.own.1
   intro g hg;rcases h.own.2 with ⟨rfl,h0⟩ | ⟨q,cap,cur,rfl,Fu,hgq,hnc,JB,hcs,htake⟩
   ·by_cases hm:ns.length=0
    ·have hnone:=h4.2 ⟨rfl,hm⟩;rw[hnone] at hg;cases hg
    have sD:=run_append_nil (P:=aj) w E.t ty E.e i E.z ht hi hz a ns.length c _ hl hnews (by omega) (by omega) (by have lN:=de i.bytes (Nat.le_add_left ns.length el.length);omega);rw[hr] at sD;injection sD with e1 e2;subst e1 e2;injection hg with hg;subst hg;exact⟨_,bz w.drew _,by simp only[Array.toList_append,List.toList_toArray];exact h32.app (lA.AK E.z32 _)⟩
   obtain⟨cc,rN,N_⟩:=h.n32 q rfl;rw[hgq] at rN;injection rN with rN;injection rN with rN;subst rN
   by_cases hroom:el.length+ns.length<=cap
   ·have hfit:el.length*i.size+(ns.flatMap E.f).length<=cur.size:=by rw[hl,hcs,<-iq,<-cO];exact de _ hroom
    have sD:=run_append_room (P:=aj) w E.t ty E.e i ht hi q el.length cap cur hgq a ns.length c _ hl hnews h1 hroom hfit;rw[hr] at sD;injection sD with e1 e2;subst e1 e2;injection hg with hg;subst hg;exact⟨_,setRow_heap w q cur _ E.e _ hgq,by simp only[List.toList_toArray];exact ((N_.take _).app h32).app (N_.drop _)⟩
   have sD:=run_append_grow (P:=aj) w E.t ty E.e i E.z ht hi hz ⟨q,0,none⟩ el.length cap _ pD (h.own.cells (g:=q) rfl) a ns.length c _ hl hnews (by omega) (by omega) (growslice_fits (by omega) e_);rw[hr] at sD;injection sD with e1 e2;subst e1 e2;injection hg with hg;subst hg;exact⟨_,bz w.drew _,by simp only[Array.toList_append,List.toList_toArray];exact ((lA.flat E.n32).app h32).app (lA.AK E.z32 _)⟩
  have f:Fr E.e w w':=.aI h3 h.n32;intro q hq;rcases List.mem_append.1 hq with hq | hq
  ·exact E.fr E.own f (h.rd q hq)
  obtain⟨k,hk,rfl⟩:=List.getElem_of_mem hq;obtain⟨_,_,_,_,h5⟩:=hx;obtain⟨_,_,_,_,h6⟩:=h5 k hk;exact E.fr E.own f h6
theorem El.Row.append {w:af} {B:Nat} {v x:ak} {el ns:List α} (h:E.Row w B v el) {ops:Array fk} {rest:List fk} {o:fk} {a:Act} {Q:Exit->Act->af->Prop} (hgd:o.guard=none) (s y:Operand)
  (ho:o.op=.call { callee:=.builtin .append,args:=#[s,y],argTypes:=#[E.t,E.t] }) (hs:a.eval s=v) (hx:a.eval y=x) (hxs:E.At w x ns) (hlen:el.length+ns.length<=1000000) (hB:B<=w.heap.size)
  (hK:∀ v' w',E.Row w' B v' (el++ns)->Fr E.e w w'->aB B w w'->w.grownBy w' v.ownBlock->mq aj ops Q rest (a.put o.dst v') w'):mq aj ops Q (o::rest) a w:=by
 refine wpList_plain hgd fun K hk=>?_
 obtain⟨v',w',hr,h1,h2,h3,h4⟩:=h.run hxs o.type hlen hB;unfold Oper.wp execOp;simp only[ho,resolve,invoke,builtin,Sem.run_bind,Sem.run_pure,jP,mA,List.map_cons,List.map_nil,hs,hx,hr];exact hk _ _ (hK v' w' h1 h2 h3 h4)
end
inductive V where
 | I (z:Int)
 | B (b:Bool)
 | L (l:List Int)
 deriving DecidableEq
def DI (z:Int):List Int:=if z=0 then [] else 0::(if Int.tdiv z 2=0 then [] else [Int.tdiv z 2])
def shorter (l:List Int):List (List Int):=(fm l.length).map fun i=>l.take i++l.drop (i+1)
def Gs (l:List Int):List (List Int):=(fm l.length).flatMap fun i=>(DI (l.getD i 0)).map fun m=>l.take i++[m]++l.drop (i+1)
def QU:V->List V
 | .I z=>(DI z).map .I
 | .B _=>[]
 | .L l=>(shorter l).map .L++(Gs l).map .L
structure NU where
 o:Option cu
 l:Nat
 c:Nat
 z:Int
def nC (n:NU):List ak:=[.bool (decide (n.z<0)),.slice n.o n.l n.c]
def nV (n:NU):ak:=.agg #[.bool (decide (n.z<0)),.slice n.o n.l n.c]
def NR (w:af) (n:NU):Prop:=CI w (nV n) n.z 600
theorem DY:(Tryz.prog.info? 26).map (fun i=>(i.zero,i.size,i.bytes))=some (some (.agg #[.bool false,.slice none 0 0]),2,32):=by kernel_rfl
theorem Hq:(Tryz.prog.info? 41).map (fun i=>(i.zero,i.size,i.bytes))=some (some (.agg #[.int .i64 0,.bool false,.slice none 0 0,.bool false,.slice none 0 0]),5,72):=by kernel_rfl
def nE:El NU where
 e:=26
 t:=39
 n:=2
 b:=32
 z:=.agg #[.bool false,.slice none 0 0]
 f:=nC
 R:=NR
 ok _:=True
 pos:=by decide
 CP:=by decide
 zs:=rfl
 z32:=by intro u hu z;simp only[Value.cells,aP,aK,or_false] at hu;rcases hu with rfl | rfl<;>(intro h;cases h)
 ht:=Tryz.underlying39
 info:=DY
 len _:=rfl
 one n:=by
  intro u hu;simp only[nC,aP,aK,or_false] at hu;rcases hu with rfl | rfl<;>rfl
 n32 n:=by
  intro u hu z;simp only[nC,aP,aK,or_false] at hu;rcases hu with rfl | rfl<;>(intro h;cases h)
 fr _ f h:=CI.fr h f
 own:=trivial
structure VU where
 k:Int
 n:NU
 b:Bool
 lo:Option cu
 ll:Nat
 lc:Nat
 x:V
def vC (u:VU):List ak:=[.int .i64 u.k,.bool (decide (u.n.z<0)),.slice u.n.o u.n.l u.n.c,.bool u.b,.slice u.lo u.ll u.lc]
def vV (u:VU):ak:=.agg #[.int .i64 u.k,.bool (decide (u.n.z<0)),.slice u.n.o u.n.l u.n.c,.bool u.b,.slice u.lo u.ll u.lc]
def n0:NU:=⟨none,0,0,0⟩
def NL (w:af) (v:ak) (zs:List Int):Prop:=∃ ns,nE.At w v ns/\ns.map (·.z)=zs
def VR (w:af) (u:VU):Prop:=
 match u.x with
 | .I z=>u.k=0/\u.n.z=z/\NR w u.n/\u.b=false/\u.lo=none/\u.ll=0/\u.lc=0
 | .B b=>u.k=1/\u.n=n0/\u.b=b/\u.lo=none/\u.ll=0/\u.lc=0
 | .L zs=>u.k=2/\u.n=n0/\u.b=false/\NL w (.slice u.lo u.ll u.lc) zs
theorem NL.fr {e':aZ} {w w':af} {v:ak} {zs:List Int} (h:NL w v zs) (hne:26≠e') (f:Fr e' w w'):NL w' v zs:=by
 obtain⟨ns,h1,h2⟩:=h;exact⟨ns,h1.fr trivial hne f,h2⟩
theorem NL.below {w w':af} {v:ak} {zs:List Int} (h:NL w v zs) (hb:aB w.heap.size w w'):NL w' v zs:=by
 obtain⟨ns,h1,h2⟩:=h;exact⟨ns,h1.below hb,h2⟩
theorem VR.fr {e':aZ} {w w':af} {u:VU} (h:VR w u) (hne:26≠e') (f:Fr e' w w'):VR w' u:=by
 unfold VR at h ⊢
 split at h
 ·obtain⟨h1,h2,h3,h4⟩:=h;exact⟨h1,h2,CI.fr h3 f,h4⟩
 ·exact h
 obtain⟨h1,h2,h3,h4⟩:=h;exact⟨h1,h2,h3,h4.fr hne f⟩
theorem VR.below {w w':af} {u:VU} (h:VR w u) (hb:aB w.heap.size w w'):VR w' u:=h.fr (e':=153) (by decide) (Fr.aH hb)
def vE:El VU where
 e:=41
 t:=30
 n:=5
 b:=72
 z:=.agg #[.int .i64 0,.bool false,.slice none 0 0,.bool false,.slice none 0 0]
 f:=vC
 R:=VR
 ok e':=26≠e'
 pos:=by decide
 CP:=by decide
 zs:=rfl
 z32:=by intro u hu z;simp only[Value.cells,aP,aK,or_false] at hu;rcases hu with rfl | rfl | rfl | rfl | rfl<;>(intro h;cases h)
 ht:=Tryz.underlying30
 info:=Hq
 len _:=rfl
 one n:=by
  intro u hu;simp only[vC,aP,aK,or_false] at hu;rcases hu with rfl | rfl | rfl | rfl | rfl<;>rfl
 n32 n:=by
  intro u hu z;simp only[vC,aP,aK,or_false] at hu;rcases hu with rfl | rfl | rfl | rfl | rfl<;>(intro h;cases h)
 fr ok f h:=VR.fr h ok f
 own:=by decide
def VC (w:af) (v:ak) (x:V):Prop:=∃ u:VU,v=vV u/\u.x=x/\VR w u
theorem VC.fr {e':aZ} {w w':af} {v:ak} {x:V} (h:VC w v x) (hne:26≠e') (f:Fr e' w w'):VC w' v x:=by
 obtain⟨u,h1,h2,h3⟩:=h;exact⟨u,h1,h2,h3.fr hne f⟩
theorem VC.int {w:af} {v:ak} {z:Int} (h:VC w v (.I z)):∃ o l c,v=.agg #[.int .i64 0,.bool (decide (z<0)),.slice o l c,.bool false,.slice none 0 0]/\CI w (.agg #[.bool (decide (z<0)),.slice o l c]) z 600:=by
 obtain⟨u,rfl,h1,h2⟩:=h;unfold VR at h2;rw[h1] at h2;obtain⟨h3,h4,h5,h6,h7,h8,h9⟩:=h2;refine⟨u.n.o,u.n.l,u.n.c,?_,?_⟩
 ·unfold vV;rw[h3,h4,h6,h7,h8,h9]
 unfold NR nV at h5;rw[h4] at h5;exact h5
theorem VC.bool {w:af} {v:ak} {b:Bool} (h:VC w v (.B b)):v=.agg #[.int .i64 1,.bool false,.slice none 0 0,.bool b,.slice none 0 0]:=by
 obtain⟨u,rfl,h1,h2⟩:=h;unfold VR at h2;rw[h1] at h2;obtain⟨h3,h4,h5,h7,h8,h9⟩:=h2;unfold vV;rw[h3,h4,h5,h7,h8,h9];rfl
theorem VC.list {w:af} {v:ak} {zs:List Int} (h:VC w v (.L zs)):∃ o l c,v=.agg #[.int .i64 2,.bool false,.slice none 0 0,.bool false,.slice o l c]/\NL w (.slice o l c) zs:=by
 obtain⟨u,rfl,h1,h2⟩:=h;unfold VR at h2;rw[h1] at h2;obtain⟨h3,h4,h5,h6⟩:=h2;refine⟨u.lo,u.ll,u.lc,?_,h6⟩;unfold vV;rw[h3,h4,h5];rfl
theorem VC.WL (w:af) (b:Bool):VC w (.agg #[.int .i64 1,.bool false,.slice none 0 0,.bool b,.slice none 0 0]) (.B b):=⟨⟨1,n0,b,none,0,0,.B b⟩,rfl,rfl,rfl,rfl,rfl,rfl,rfl,rfl⟩
theorem NL.form {w:af} {v:ak} {zs:List Int} (h:NL w v zs):∃ ko kc,v=.slice ko zs.length kc/\(zs.length<=kc/\kc<=bn)/\∀ i (hi:i<zs.length),∃ a o l c,ko=some a/\w.cell? (a.add (i*2))=some (.bool (decide (zs[i]<0)))/\w.cell? ⟨(a.add (i*2)).block,(a.add (i*2)).off+1,none⟩=some (.slice o l c)/\CI w (.agg #[.bool (decide (zs[i]<0)),.slice o l c]) zs[i] 600:=by
 obtain⟨ns,⟨ko,kc,rfl,⟨h1,h2,_⟩,h3⟩,rfl⟩:=h;refine⟨ko,kc,by simp,⟨by simpa using h1,h2⟩,fun i hi=>?_⟩;obtain⟨a,ha,-,h4,h5⟩:=h3 i (by simpa using hi);simp only[fg];exact⟨a,_,_,_,ha,h4 0 _ rfl,by have:=h4 1 _ rfl;rw[<-yO] at this;exact this,h5⟩
theorem lu {w:af} {k:Nat} (v0 v1:ak):w.grownBy ((w.setCell ⟨k,0,none⟩ v0).setCell ⟨k,1,none⟩ v1) (some k):=by
 refine aD ?_ _;refine aD ?_ _;exact aE _ _
theorem bJ {w:af} {k:Nat} (v0 v1 v2 v3 v4:ak):w.grownBy (((((w.setCell ⟨k,0,none⟩ v0).setCell ⟨k,1,none⟩ v1).setCell ⟨k,2,none⟩ v2).setCell ⟨k,3,none⟩ v3).setCell ⟨k,4,none⟩ v4) (some k):=by
 refine aD ?_ _;refine aD ?_ _;refine aD ?_ _;refine aD ?_ _;refine aD ?_ _;exact aE _ _
theorem iP {w w':af} {B g:Nat} (h:w.grownBy w' (some g)) (hB:B<=w.heap.size) (hg:B<=g):aB B w w':=
 ⟨h.os,h.tape,h.output,h.size,fun k hk=>h.block k (by omega) (fun e=>by injection e with e;omega)⟩
theorem Di {w0 w:af} {k:Nat} {c:Array ak} (hb:aB w0.heap.size w0 w) (hB:w.heap[k]?=some (.cells c 41 (0,0))) (h32:lA c.toList) (hk:w0.heap.size<=k) (v0 v1 v2 v3 v4:ak) :
  Fr 41 w (((((w.setCell ⟨k,0,none⟩ v0).setCell ⟨k,1,none⟩ v1).setCell ⟨k,2,none⟩ v2).setCell ⟨k,3,none⟩ v3).setCell ⟨k,4,none⟩ v4)/\aB w0.heap.size w0 (((((w.setCell ⟨k,0,none⟩ v0).setCell ⟨k,1,none⟩ v1).setCell ⟨k,2,none⟩ v2).setCell ⟨k,3,none⟩ v3).setCell ⟨k,4,none⟩ v4):=
 ⟨.aI (bJ v0 v1 v2 v3 v4) (fun g hg=>by injection hg with hg;subst hg;exact⟨_,hB,h32⟩),hb.trans ((iP (bJ v0 v1 v2 v3 v4) (Nat.le_of_lt (by have:=ae hB;omega)) hk).mono (ag _))⟩
theorem Jh {w0 w:af} {k:Nat} {c:Array ak} (hb:aB w0.heap.size w0 w) (hB:w.heap[k]?=some (.cells c 26 (0,0))) (h32:lA c.toList) (hk:w0.heap.size<=k) (v0 v1:ak) :
  Fr 26 w ((w.setCell ⟨k,0,none⟩ v0).setCell ⟨k,1,none⟩ v1)/\aB w0.heap.size w0 ((w.setCell ⟨k,0,none⟩ v0).setCell ⟨k,1,none⟩ v1):=
 ⟨.aI (lu v0 v1) (fun g hg=>by injection hg with hg;subst hg;exact⟨_,hB,h32⟩),hb.trans ((iP (lu v0 v1) (Nat.le_of_lt (by have:=ae hB;omega)) hk).mono (ag _))⟩
theorem rJ {b:Bool} {o:Option cu} {l c:Nat}:lA (#[Value.bool b,.slice o l c]:Array ak).toList:=by
 intro u hu z;simp only[aP,aK,or_false] at hu;rcases hu with rfl | rfl<;>(intro h;cases h)
theorem DB {k:Int} {b d:Bool} {o p:Option cu} {l c m q:Nat}:lA (#[Value.int .i64 k,.bool b,.slice o l c,.bool d,.slice p m q]:Array ak).toList:=by
 intro u hu z;simp only[aP,aK,or_false] at hu;rcases hu with rfl | rfl | rfl | rfl | rfl<;>(intro h;cases h)
theorem aW (w:af) (c:Array ak) (T:aZ):∃ w1 k,w.alloc (.cells c T)=w1/\w.heap.size=k/\Hid (aB w.heap.size w w1)/\Hid (w.heap.size<=k)/\Hid (w1.heap[k]?=some (.cells c T (0,0))):=
 ⟨_,_,rfl,rfl,aa ((ax _ _).alloc (ag _) _),aa (ag _),aa (bz w _)⟩
theorem bM {w w':af} {k:Nat} {o:Obj} (hb:aB w.heap.size w w') (h:Hid (w.heap[k]?=some o)):Hid (w'.heap[k]?=some o):=aa ((hb.block _ (ae h.out)).trans h.out)
theorem cV {w:af} {g:Nat} {T:aZ} {a b:ak} (h:w.heap[g]?=some (.cells #[a,b] T (0,0))) :
  w.cell? ⟨g,0,none⟩=some a/\w.cell? ⟨g,1,none⟩=some b/\w.frozen? ⟨g,0,none⟩=false/\w.frozen? ⟨g,1,none⟩=false:=
 ⟨aq h 0 rfl,aq h 1 rfl,aY h 0,aY h 1⟩
theorem ay {w:af} {g:Nat} {T:aZ} {a b c d e:ak} (h:w.heap[g]?=some (.cells #[a,b,c,d,e] T (0,0))) :
  (w.cell? ⟨g,0,none⟩=some a/\w.cell? ⟨g,1,none⟩=some b/\w.cell? ⟨g,2,none⟩=some c/\w.cell? ⟨g,3,none⟩=some d/\w.cell? ⟨g,4,none⟩=some e) /\
  w.frozen? ⟨g,0,none⟩=false/\w.frozen? ⟨g,1,none⟩=false/\w.frozen? ⟨g,2,none⟩=false/\w.frozen? ⟨g,3,none⟩=false/\w.frozen? ⟨g,4,none⟩=false:=
 ⟨⟨aq h 0 rfl,aq h 1 rfl,aq h 2 rfl,aq h 3 rfl,aq h 4 rfl⟩,aY h 0,aY h 1,aY h 2,aY h 3,aY h 4⟩
theorem Dt (b:Bool) (w:af) :
  aV aj 62 #[.bool b] w fun e w'=>∃ v,e=.returned v/\VC w' v (.B b)/\aB w.heap.size w w':=by
 go_enter Tryz.func62,Tryz.ntmps62;obtain⟨w2,k2,e2,ek2,e_,eR,AH⟩:=aW w #[.int .i64 0,.bool false,.slice none 0 0,.bool false,.slice none 0 0] 41;obtain⟨⟨c0,c1,c2,c3,c4⟩,f0,f1,f2,f3,f4⟩:=ay AH.out;go_wp2_with fail;obtain⟨r1,r2⟩:=Di e_.out AH.out DB eR.out (.int .i64 1) (.bool false) (.slice none 0 0) (.bool b) (.slice none 0 0);exact bodyPost_ret (v:=.agg #[.int .i64 1,.bool false,.slice none 0 0,.bool b,.slice none 0 0]) (by simp[results,Tryz.results62,go_sem,c0,c1,c2,c3,c4]) rfl ⟨_,rfl,VC.WL _ _,r2⟩
theorem nB (w:af):NR w n0:=⟨.slice none 0 0,rfl,by
 rw[show fJ bf n0.z.natAbs=[] from by simp[n0,fF]]
 exact⟨none,0,rfl,ag _,ah _,fun _=>rfl,fun i hi=>absurd hi (an _)⟩,dZ (k:=0) (k':=600) (by decide) (by decide)⟩
def v0:VU:=⟨0,n0,false,none,0,0,.I 0⟩
theorem Tr (w:af):VR w v0:=⟨rfl,rfl,nB w,rfl,rfl,rfl,rfl⟩
section
variable {α:Type} {E:El α}
theorem vj (E:El α) (a:α) (ha:E.f a=E.z.cells.toList) (n:Nat):(madeCells E.z.cells (n*E.n)).toList=(bI n a).flatMap E.f:=by
 apply List.ext_getElem?;intro j;have hp:=E.pos;have hl:=gI E.f E.len (bI n a);rw[fX] at hl;by_cases hj:j<n*E.n
 ·have hi:j / E.n<n:=(Nat.div_lt_iff_lt_mul hp).2 hj;have hm:j % E.n<E.n:=ig _ hp;have hd:j / E.n*E.n+j % E.n=j:=by rw[Nat.mul_comm];exact Nat.div_add_mod j E.n
  have h1:=kT E.f E.len (bI n a) (j / E.n) (j % E.n) (by simpa using hi) hm;rw[hd,List.getElem_replicate,ha] at h1;rw[h1];have Rp:j % E.z.cells.size<E.z.cells.size:=ig _ (by rw[E.zs];exact hp);rw[Array.getElem?_toList];simp only[madeCells,Array.getElem?_map,Array.getElem?_range,hj,if_true,Option.map_some];rw[getElem!_pos E.z.cells _ Rp];simp only[<-E.zs];simp
 rw[List.getElem?_eq_none (by simp[size_madeCells];omega),List.getElem?_eq_none (by rw[hl];omega)]
theorem kC (E:El α) (a0:α) (ha:E.f a0=E.z.cells.toList) (hR:∀ w,E.R w a0) (w:af) {ops:Array fk} {rest:List fk} {o:fk} {a:Act} {Q:Exit->Act->af->Prop}
  (hg:o.guard=none) (l c:Operand) (hop:o.op=Op.makeSlice E.t l c) (B:Nat) (kl kc:IntKind) (L C:Int) (n:Nat) (hl:a.eval l=.int kl L) (hc:a.eval c=.int kc C) (hL:L=(n:Int)) (hC:C=(n:Int)) (hn:n<=1000000) (hB:B<=w.heap.size)
  (hK:∀ w',E.Row w' B (.slice (some ⟨w.heap.size,0,none⟩) n n) (bI n a0)->aB w.heap.size w w'->mq aj ops Q rest (a.put o.dst (.slice (some ⟨w.heap.size,0,none⟩) n n)) w') :
  mq aj ops Q (o::rest) a w:=by
 obtain⟨i,hi,hz,iq,mP⟩:=rm E.info;have hby:=E.CP;refine wpList_make_full w hg l c E.t hop B E.e i E.z E.n E.ht hi hz iq kl kc L C n hl hc hL hC (by rw[mP];exact ai (gj hby hn) (by decide)) (by unfold bn;omega) hB ?_;intro w' h1 h2;have h3:=h1;rw[vj E a0 ha] at h3;refine hK w' ⟨?_,?_,?_⟩ ⟨h2.os,h2.tape,h2.output,h2.size,fun k hk=>h2.block k hk (by intro e;cases e)⟩
 ·rw[fX];exact h3
 ·intro g hg;rcases h1.2 with ⟨h,_⟩ | ⟨q,cap,cur,hv,_,hq,_,_,hcs,uk⟩
  ·cases h
  injection hv with e1 e2 e3;injection e1 with e1;subst e3;injection hg with hg;have Xj:q=g:=by rw[<-hg,e1]
  subst Xj;refine⟨cur,hq,?_⟩;rw[List.take_of_length_le (by rw[Array.length_toList,hcs];exact ag _),vj E a0 ha] at uk;rw[uk];exact lA.flat E.n32
 intro q hq;rw[List.eq_of_mem_replicate hq];exact hR w'
theorem mL {c:Array ak} (h:lA c.toList) (i:Nat) {v:ak} (hv:∀ z,v ≠ .int .u32 z):lA (c.setIfInBounds i v).toList:=by
 intro u hu;rw[lK] at hu;rcases yT hu with hu | rfl
 ·exact h u hu
 exact hv
theorem El.Row.put {w:af} {B g n kc:Nat} {el:List α} (h:E.Row w B (.slice (some ⟨g,0,none⟩) n kc) el) {w':af} (i:Nat) (a:α) (hg:w.grownBy w' (some g)) (hown:w'.ownsRow B E.e E.n (.slice (some ⟨g,0,none⟩) n kc) n ((el.set i a).flatMap E.f))
  (h32:∃ c,w'.heap[g]?=some (.cells c E.e (0,0))/\lA c.toList) (hn:n=el.length) (ha:E.R w a):E.Row w' B (.slice (some ⟨g,0,none⟩) n kc) (el.set i a)/\Fr E.e w w':=by
 have f:Fr E.e w w':=.aI hg (fun q hq=>by injection hq with hq;subst hq;exact h.n32 g rfl);refine⟨⟨by rw[List.length_set,<-hn];exact hown,fun q hq=>?_,fun q hq=>?_⟩,f⟩
 ·injection hq with hq;subst hq;exact h32
 rcases yT hq with hq | rfl
 ·exact E.fr E.own f (h.rd q hq)
 exact E.fr E.own f ha
end
theorem zw {α:Type} {L M:List α} {k:Nat} (h:L.take k=M.take k) (h1:k<L.length) (h2:k<M.length) (e:L[k]=M[k]):L.take (k+1)=M.take (k+1):=by
 rw[aT h1,aT h2,h,e]
def AA (w:af) (v:ak):Prop:=∃ xs,Sl w .u32 v xs/\fK bf xs
theorem AA.below {w w':af} {v:ak} (h:AA w v) (hb:aB w.heap.size w w'):AA w' v:=by obtain⟨xs,h1,h2⟩:=h;exact⟨xs,h1.below hb,h2⟩
def TV:V->Prop
 | .I z=>z.natAbs<bf ^ 4
 | .B _=>True
 | .L l=>l.length<=6/\∀ z ∈ l,z.natAbs<bf ^ 4
theorem CI.lt {w:af} {v:ak} {z:Int} {k:Nat} (h:CI w v z k):z.natAbs<bf ^ k:=by obtain⟨_,_,_,h3⟩:=h;exact h3
def sU:V->Int
 | .I _=>0
 | .B _=>1
 | .L _=>2
inductive F where
 | node (o z:Int) (nm:ByteArray) (ks:List F)
def F.op:F->Int | .node o _ _ _=>o
def F.num:F->Int | .node _ z _ _=>z
def F.name:F->ByteArray | .node _ _ nm _=>nm
def F.kids:F->List F | .node _ _ _ ks=>ks
def cU (o:Int):Int:=if 8<=o/\o<=11 then 2 else if 12<=o/\o<=20 then 1 else 0
def bK (o:Int) (ss:List Int):Bool:=
 if o=0\/o=1\/o=8\/o=9\/o=12\/o=13\/o=14 then decide (ss=[])
 else if o=3\/o=5 then decide (ss=[0])
 else if o=2\/o=4\/o=15 then decide (ss=[0,0])
 else if o=6\/o=7\/o=11 then decide (ss=[2])
 else if o=10 then decide (ss=[0,2])
 else if o=16 then decide (ss=[0,0]) || decide (ss=[2,2])
 else if o=17 then decide (ss=[1])
 else if o=18\/o=19 then ss.all (fun s=>decide (s=1))
 else if o=20 then decide (ss=[1,1])
 else false
def dw (o z:Int) (ss:List Int):Bool:=bK o ss && (decide (o≠5) || decide (1<=z))
def di (ks:List F):List Int:=ks.map fun f=>cU f.op
mutual
def rt:F->Bool
 | .node o z _ ks=>dw o z (di ks) && rts ks
def rts:List F->Bool
 | []=>true
 | f::l=>rt f && rts l
end
theorem jn:∀ l:List F,rts l=l.all rt
 | []=>rfl
 | f::l=>by rw[rts,List.all_cons,jn l]
mutual
def CG:F->Nat
 | .node _ _ _ ks=>1+kE ks
def kE:List F->Nat
 | []=>0
 | f::l=>CG f+kE l
end
theorem sO:∀ a b:List F,kE (a++b)=kE a+kE b
 | [],b=>by simp[kE]
 | f::a,b=>by rw[aM,kE,kE,sO a b];omega
theorem BN (ks:List F) (j:Nat) (h:j<ks.length):kE (ks.take (j+1))=kE (ks.take j)+CG ks[j]:=by
 rw[aT h,sO,kE,kE];omega
theorem vO (ks:List F) (j:Nat):kE (ks.take j)<=kE ks:=by
 have:=sO (ks.take j) (ks.drop j);rw[k_] at this;omega
def gJ:V->Int
 | .I z=>z
 | _=>0
def lz:V->Bool
 | .B b=>b
 | _=>false
def oZ:V->List Int
 | .L l=>l
 | _=>[]
def CQ (vs:List V):V:=vs.getD 0 (.I 0)
def MI (vs:List V):V:=vs.getD 1 (.I 0)
def GM (r:ByteArray->V) (o z:Int) (nm:ByteArray) (vs:List V):V:=
 if o=0 then .I z
 else if o=1 then .I (gJ (r nm))
 else if o=2 then .I (gJ (CQ vs)+gJ (MI vs))
 else if o=3 then .I (z*gJ (CQ vs))
 else if o=4 then .I (gJ (CQ vs)*gJ (MI vs))
 else if o=5 then .I (Int.fdiv (gJ (CQ vs)) z)
 else if o=6 then .I ((oZ (CQ vs)).length:Nat)
 else if o=7 then .I ((oZ (CQ vs)).headD 0)
 else if o=8 then .L (oZ (r nm))
 else if o=9 then .L []
 else if o=10 then .L (gJ (CQ vs)::oZ (MI vs))
 else if o=11 then .L (oZ (CQ vs)).tail
 else if o=12 then .B true
 else if o=13 then .B false
 else if o=14 then .B (lz (r nm))
 else if o=15 then .B (decide (gJ (CQ vs)<=gJ (MI vs)))
 else if o=16 then .B (decide (CQ vs=MI vs))
 else if o=17 then .B (!lz (CQ vs))
 else if o=18 then .B (vs.all lz)
 else if o=19 then .B (vs.any lz)
 else if o=20 then .B (lz (CQ vs)==lz (MI vs))
 else .I 0
mutual
def ev (r:ByteArray->V):F->V
 | .node o z nm ks=>GM r o z nm (EC r ks)
def EC (r:ByteArray->V):List F->List V
 | []=>[]
 | f::l=>ev r f::EC r l
end
theorem Dp (o:Int):(o=0\/o=1\/o=2\/o=3\/o=4\/o=5\/o=6\/o=7\/o=8\/o=9\/o=10\/o=11\/o=12\/o=13\/o=14\/o=15\/o=16\/o=17\/o=18\/o=19\/o=20)\/(o<0\/20<o):=by omega
theorem Dq (r:ByteArray->V) (o z:Int) (nm:ByteArray) (vs:List V):sU (GM r o z nm vs)=cU o:=by
 rcases Dp o with h | h
 ·rcases h with rfl | rfl | rfl | rfl | rfl | rfl | rfl | rfl | rfl | rfl | rfl | rfl | rfl | rfl | rfl | rfl | rfl | rfl | rfl | rfl | rfl<;>rfl
 unfold GM cU;rw[if_neg (by omega),if_neg (by omega),if_neg (by omega),if_neg (by omega),if_neg (by omega),if_neg (by omega),if_neg (by omega),if_neg (by omega),if_neg (by omega),if_neg (by omega),if_neg (by omega),if_neg (by omega),if_neg (by omega),if_neg (by omega),if_neg (by omega),if_neg (by omega),if_neg (by omega),if_neg (by omega),if_neg (by omega),if_neg (by omega),if_neg (by omega),if_neg (by omega),if_neg (by omega)];rfl
theorem wE (r:ByteArray->V):∀ f:F,sU (ev r f)=cU f.op
 | .node o z nm ks=>by rw[ev];exact Dq r o z nm _
theorem wF {r:ByteArray->V} {f:F} (h:cU f.op=0):ev r f=.I (gJ (ev r f)):=by
 have:=wE r f;rw[h] at this;cases he:ev r f with
 | I z=>rfl
 | B b=>rw[he] at this;cases this
 | L l=>rw[he] at this;cases this
theorem Iy {r:ByteArray->V} {f:F} (h:cU f.op=1):ev r f=.B (lz (ev r f)):=by
 have:=wE r f;rw[h] at this;cases he:ev r f with
 | I z=>rw[he] at this;cases this
 | B b=>rfl
 | L l=>rw[he] at this;cases this
theorem oM {r:ByteArray->V} {f:F} (h:cU f.op=2):ev r f=.L (oZ (ev r f)):=by
 have:=wE r f;rw[h] at this;cases he:ev r f with
 | I z=>rw[he] at this;cases this
 | B b=>rw[he] at this;cases this
 | L l=>rfl
def O5:V->Prop
 | .I z=>z.natAbs<bf ^ 600
 | .B _=>True
 | .L l=>l.length<=1000/\∀ z ∈ l,z.natAbs<bf ^ 600
mutual
def Sm (r:ByteArray->V):F->Prop
 | .node o z nm ks=>O5 (GM r o z nm (EC r ks))/\O4 r ks
def O4 (r:ByteArray->V):List F->Prop
 | []=>True
 | f::l=>Sm r f/\O4 r l
end
theorem O4.get {r:ByteArray->V}:∀ {l:List F},O4 r l->∀ f ∈ l,Sm r f
 | [],_,f,hf=>by cases hf
 | a::l,h,f,hf=>by
  rw[O4] at h;rcases List.mem_cons.1 hf with rfl | hf
  ·exact h.1
  exact h.2.get f hf
theorem Sm.val {r:ByteArray->V}:∀ {f:F},Sm r f->O5 (ev r f)
 | .node o z nm ks,h=>by rw[Sm] at h;rw[ev];exact h.1
theorem Sm.Mr {r:ByteArray->V} {o z:Int} {nm:ByteArray} {ks:List F} (h:Sm r (.node o z nm ks)):∀ f ∈ ks,Sm r f:=by
 rw[Sm] at h;exact h.2.get
def gM (env:List (ByteArray × V)) (nm:ByteArray):V:=env.foldl (fun a p=>if p.1=nm then p.2 else a) (.I 0)
theorem Gx (env:List (ByteArray × V)) (p:ByteArray × V) (nm:ByteArray):gM (env++[p]) nm=if p.1=nm then p.2 else gM env nm:=by
 unfold gM;rw[List.foldl_append];rfl
theorem Dg (env:List (ByteArray × V)) (nm:ByteArray) (j:Nat) (h:j<env.length):gM (env.take (j+1)) nm=if env[j].1=nm then env[j].2 else gM (env.take j) nm:=by
 rw[aT h,Gx]
def jF (w:af) (v v':ak):Prop:=∀ g,v'.ownBlock=some g->v.ownBlock=some g\/w.heap.size<=g
theorem lI {P:lB} {w w':af} {t ty e:aZ} {i:TypeInfo} {z:ak} (ht:P.underlying t=some (.slice e)) (hi:P.info? e=some i) (hz:i.zero=some z)
  {base n m c:Nat} {v v':ak} {xs news:List ak} (hown:w.ownsRow base e i.size v n xs) {a:cu} (hl:news.length=m*i.size) (hnews:∀ j u,news[j]?=some u->w.cell? (a.add j)=some u) (h1:∀ u ∈ news,u.oneCell'=true)
  (h63:n+m<=1000000000) (hbytes:(n+m)*i.bytes<=140737488355328) (hm:0<m) (hzs:z.cells.size=i.size) (hsz:0<i.size)
  (hr:(gE #[t,t] ty #[v,.slice (some a) m c]).run P w=.ok v' w'):jF w v v':=by
 have h0:=hown;rcases hown.2 with ⟨rfl,rfl⟩ | ⟨g,cap,cur,rfl,Fu,hg,hnc,JB,hcs,htake⟩
 ·have hx:xs=[]:=List.eq_nil_of_length_eq_zero (by simpa using hown.1);subst hx;obtain⟨v2,w2,sD,NK,_,_⟩:=run_append_own (P:=P) w w.heap.size t ty e i z i.size i.bytes ht hi hz rfl rfl hzs hsz (.slice none 0 0) 0 [] (World.ownsRow_nil w _ e i.size) a m c news hl hnews h1 (by unfold bn;omega) hbytes (ag _);rw[hr] at sD;injection sD with e1 e2;subst e1;exact fun g hg=>.inr (NK.lt g hg).1
 by_cases hroom:n+m<=cap
 ·have hfit:n*i.size+news.length<=cur.size:=by rw[hl,hcs,<-cO];exact de _ hroom
  rw[run_append_room (P:=P) w t ty e i ht hi g n cap cur hg a m c news hl hnews h1 hroom hfit] at hr;injection hr with e1 e2;subst e1;exact fun q hq=>.inl hq
 rw[run_append_grow (P:=P) w t ty e i z ht hi hz ⟨g,0,none⟩ n cap xs h0.1 (h0.cells (g:=g) rfl) a m c news hl hnews (by omega) (by omega) (growslice_fits (by omega) hbytes)] at hr;injection hr with e1 e2;subst e1;intro q hq;injection hq with hq;exact .inr (by rw[<-hq];exact ag _)
theorem p7 {P:lB} (w:af) {ops:Array fk} {rest:List fk} {o:fk} {a:Act} {Q:Exit->Act->af->Prop} (hgd:o.guard=none) (s x:Operand) (t:aZ)
  (ho:o.op=.call { callee:=.builtin .append,args:=#[s,x],argTypes:=#[t,t] })
  (e:aZ) (ht:P.underlying t=some (.slice e)) {z:ak} {size bytes:Nat} (hinfo:(P.info? e).map (fun i=>(i.zero,i.size,i.bytes))=some (some z,size,bytes)) (hzs:z.cells.size=size) (hsz:0<size) (hby:bytes<=1000)
  (base:Nat) (v:ak) (n:Nat) (xs:List ak) (hs:a.eval s=v) (hown:w.ownsRow base e size v n xs)
  (h:Nat) (T:aZ) (cs:List ak) (hcs:cs.length=size) (h1:∀ u ∈ cs,u.oneCell'=true) (hx:a.eval x=.slice (some ⟨h,0,none⟩) 1 1) (hc:w.heap[h]?=some (.cells cs.toArray T (0,0)))
  (hlen:n<=1000000) (hbase:base<=w.heap.size)
  (hK:∀ v' w',w'.ownsRow base e size v' (n+1) (xs++cs)->w.grownBy w' v.ownBlock->jF w v v'->mq P ops Q rest (a.put o.dst v') w'):mq P ops Q (o::rest) a w:=by
 obtain⟨i,hi,hz,iq,mP⟩:=rm hinfo;subst iq mP;have hnews:∀ j u,cs[j]?=some u->w.cell? ((⟨h,0,none⟩:cu).add j)=some u:=fun j u hj=>World.news_of_block hc j u (by simpa using hj)
 have e_:(n+1)*i.bytes<=140737488355328:=ai (gj (show n+1<=1000001 by omega) hby) (by decide);refine wpList_plain hgd fun K hk=>?_
 obtain⟨v',w',hr,h2,h3,h4⟩:=run_append_own (P:=P) w base t o.type e i z i.size i.bytes ht hi hz rfl rfl hzs hsz v n xs hown ⟨h,0,none⟩ 1 1 cs (by rw[hcs,Nat.one_mul]) hnews h1 (by unfold bn;omega) e_ hbase;have hf:=lI ht hi hz hown (c:=1) (m:=1) (by rw[hcs,Nat.one_mul]) hnews h1 (by omega) e_ (by decide) hzs hsz hr;unfold Oper.wp execOp;simp only[ho,resolve,invoke,builtin,Sem.run_bind,Sem.run_pure,jP,mA,List.map_cons,List.map_nil,hs,hx,hr];exact hk _ _ (hK v' w' h2 h3 hf)
theorem cM {w w':af} {p:cu} (h:w'.heap[p.block]?=w.heap[p.block]?):w'.cell? p=w.cell? p:=World.cell?_of_block h
def FN (n:Nat) (w:af) (ko:Option cu) (i:Nat) (cs:List ak):Prop:=∃ a,ko=some a/\∀ j v,cs[j]?=some v->w.cell? ((a.add (i*n)).add j)=some v
theorem FN.keep {n:Nat} {w w':af} {ko:Option cu} {i:Nat} {cs:List ak} (h:FN n w ko i cs) (hk:∀ a,ko=some a->w'.heap[a.block]?=w.heap[a.block]?):FN n w' ko i cs:=by
 obtain⟨a,rfl,h⟩:=h;refine⟨a,rfl,fun j v hv=>?_⟩;rw[cM (w:=w) (by rw[bX,bX];exact hk a rfl)];exact h j v hv
theorem FN.lt {n:Nat} {w:af} {ko:Option cu} {i:Nat} {c:ak} {cs:List ak} (h:FN n w ko i (c::cs)):∀ a,ko=some a->a.block<w.heap.size:=by
 obtain⟨a,rfl,h⟩:=h;rintro _ ⟨⟩;have:=cj (h 0 _ rfl)
 rwa [bX,bX] at this
theorem A0 {n:Nat} {w:af} {base:Nat} {e:aZ} {ko:Option cu} {m kc:Nat} {α:Type} (f:α->List ak) (hf:∀ a,(f a).length=n) {ys:List α} (hm:m=ys.length) (h:w.ownsRow base e n (.slice ko m kc) m (ys.flatMap f)) (i:Nat) (hi:i<ys.length):FN n w ko i (f ys[i]):=by
 have hfl:∀ (l:List α) (i j:Nat) (hi:i<l.length),j<n->(l.flatMap f)[i*n+j]?=(f l[i])[j]?:=by
  intro l;induction l with
  | nil=>intro i j hi;simp at hi
  | cons a l ih =>
   intro i j hi hj;rw[gr];cases i with
   | zero=>rw[Nat.zero_mul,gh,List.getElem?_append_left (by rw[hf];exact hj)];rfl
   | succ i =>
    rw[List.getElem?_append_right (by rw[hf,cO];omega),hf,show (i+1)*n+j - n=i*n+j by rw[cO];omega,List.getElem_cons_succ];exact ih i j (by simpa using hi) hj
 have hll:∀ l:List α,(l.flatMap f).length=l.length*n:=by
  intro l;induction l with
  | nil=>simp
  | cons a l ih=>rw[gr,dB,ih,hf,jo,cO];omega
 have h0:=h;rcases h.2 with ⟨hv,h1⟩ | ⟨g,cap,cur,hv,hb,hg,h1,h2,h3,h4⟩
 ·omega
 injection hv with e1 e2 e3;subst e1 e3;refine⟨_,rfl,fun j v hj=>?_⟩;have Rs:j<n:=by have:=(List.getElem?_eq_some_iff.1 hj).1;rwa [hf] at this
 rw[iR,iR,gh,uP h0 (i*n+j) (by
  rw[hm];calc i*n+j<i*n+n:=by omega
   _=(i+1)*n:=by rw[cO];omega
   _<=ys.length*n:=de _ hi),hfl ys i j hi Rs]
 exact hj
theorem uY {w:af} {base:Nat} {e:aZ} {size:Nat} {v:ak} {n:Nat} {xs:List ak} (h:w.ownsRow base e size v n xs):∃ ko kc,v=.slice ko n kc/\n<=kc:=by
 rcases h.2 with ⟨rfl,rfl⟩ | ⟨g,cap,cur,rfl,_,_,h1,_⟩
 ·exact⟨_,_,rfl,ag _⟩
 exact⟨_,_,rfl,h1⟩
def KN (w w':af):Prop:=∀ (a:cu) (z:Int),w.cell? a=some (.int .u32 z)->w'.cell? a=some (.int .u32 z)
theorem KN.aH {w w':af} (h:aB w.heap.size w w'):KN w w':=fun a z hc=>by rw[h.cell (World.block_lt_of_cell? w a hc)];exact hc
theorem KN.eK {e:aZ} {w w':af} (h:Fr e w w'):KN w w':=h.num
theorem KN.trans {a b c:af} (h:KN a b) (k:KN b c):KN a c:=fun p z hp=>k p z (h p z hp)
theorem Sl.kn {w w':af} {v:ak} {xs:List Nat} (h:Sl w .u32 v xs) (k:KN w w'):Sl w' .u32 v xs:=by
 obtain⟨ao,cap,e1,h1,h2,h3,h4⟩:=h;refine⟨ao,cap,e1,h1,h2,h3,fun i hi=>?_⟩;obtain⟨a,ha,hc⟩:=h4 i hi;exact⟨a,ha,k _ _ hc⟩
theorem CI.kn {w w':af} {v:ak} {z:Int} {k:Nat} (h:CI w v z k) (f:KN w w'):CI w' v z k:=by
 obtain⟨va,h1,h2,h3⟩:=h;exact⟨va,h1,h2.kn f,h3⟩
structure Es (α:Type) where
 e:aZ
 n:Nat
 f:α->List ak
 R:af->(Nat->Prop)->α->Prop
 pos:0<n
 len:∀ a,(f a).length=n
 one:∀ a,∀ u ∈ f a,u.oneCell'=true
 keep:∀ {w w':af} {S:Nat->Prop} {a:α},(∀ g,S g->w'.heap[g]?=w.heap[g]?)->KN w w'->R w S a->R w' S a
 mono:∀ {w:af} {S S':Nat->Prop} {a:α},(∀ g,S g->S' g)->R w S a->R w S' a
 lt:∀ {w:af} {S:Nat->Prop} {a:α},R w S a->R w (fun g=>S g/\g<w.heap.size) a
section
variable {α:Type} (E:Es α)
theorem Es.below {w w':af} {S:Nat->Prop} {a:α} (h:E.R w S a) (hb:aB w.heap.size w w'):E.R w' S a:=E.mono (fun _ h=>h.1) (E.keep (fun g hg=>hb.block g hg.2) (KN.aH hb) (E.lt h))
theorem Es.grown {w w':af} {S:Nat->Prop} {a:α} {r:Option Nat} (h:E.R w S a) (hg:w.grownBy w' r) (hn:KN w w') (hS:∀ b,S b->r≠some b):E.R w' S a:=
 E.mono (fun _ h=>h.1) (E.keep (fun q hq=>hg.block q hq.2 (fun e=>hS q hq.1 e.symm)) hn (E.lt h))
variable {E}
def Es.At (E:Es α) (w:af) (S:Nat->Prop) (v:ak) (el:List α):Prop:=∃ ko kc,v=.slice ko el.length kc/\(el.length<=kc/\kc<=bn/\(ko=none->kc=0))/\(el.length≠0->∀ a,ko=some a->S a.block)/\∀ i (h:i<el.length),FN E.n w ko i (E.f el[i])/\E.R w S el[i]
theorem Es.At.keep {w w':af} {S:Nat->Prop} {v:ak} {el:List α} (hk:∀ g,S g->w'.heap[g]?=w.heap[g]?) (hn:KN w w') (h:E.At w S v el):E.At w' S v el:=by
 obtain⟨ko,kc,rfl,h1,h2,h3⟩:=h;exact⟨ko,kc,rfl,h1,h2,fun i hi=>⟨(h3 i hi).1.keep fun a ha=>hk _ (h2 (by omega) a ha),E.keep hk hn (h3 i hi).2⟩⟩
theorem Es.At.mono {w:af} {S S':Nat->Prop} {v:ak} {el:List α} (hs:∀ g,S g->S' g) (h:E.At w S v el):E.At w S' v el:=by
 obtain⟨ko,kc,rfl,h1,h2,h3⟩:=h;exact⟨ko,kc,rfl,h1,fun h0 a ha=>hs _ (h2 h0 a ha),fun i hi=>⟨(h3 i hi).1,E.mono hs (h3 i hi).2⟩⟩
theorem Es.At.lt {w:af} {S:Nat->Prop} {v:ak} {el:List α} (h:E.At w S v el):E.At w (fun g=>S g/\g<w.heap.size) v el:=by
 obtain⟨ko,kc,rfl,h1,h2,h3⟩:=h;refine⟨ko,kc,rfl,h1,fun h0 a ha=>⟨h2 h0 a ha,?_⟩,fun i hi=>⟨(h3 i hi).1,E.lt (h3 i hi).2⟩⟩;have h:=(h3 0 (by omega)).1;cases hf:E.f (el[0]'(by omega)) with
 | nil=>have:=E.len (el[0]'(by omega));rw[hf] at this;have:=E.pos;simp at *;omega
 | cons c cs=>rw[hf] at h;exact h.lt a ha
theorem Es.At.below {w w':af} {S:Nat->Prop} {v:ak} {el:List α} (h:E.At w S v el) (hb:aB w.heap.size w w'):E.At w' S v el:=(Es.At.keep (fun g hg=>hb.block g hg.2) (KN.aH hb) h.lt).mono fun _ h=>h.1
theorem Es.At.grown {w w':af} {S:Nat->Prop} {v:ak} {el:List α} {r:Option Nat} (h:E.At w S v el) (hg:w.grownBy w' r) (hn:KN w w') (hS:∀ b,S b->r≠some b):E.At w' S v el:=
 (Es.At.keep (fun q hq=>hg.block q hq.2 (fun e=>hS q hq.1 e.symm)) hn h.lt).mono fun _ h=>h.1
end
theorem DZ:(Tryz.prog.info? 29).map (fun i=>(i.zero,i.size,i.bytes))=some (some (.agg #[.int .i64 0,.bool false,.slice none 0 0,.string ⟨#[]⟩,.slice none 0 0]),5,80):=by kernel_rfl
structure FU where
 k:Int
 n:NU
 nm:ByteArray
 ko:Option cu
 kl:Nat
 kc:Nat
def fC (u:FU):List ak:=[.int .i64 u.k,.bool (decide (u.n.z<0)),.slice u.n.o u.n.l u.n.c,.string u.nm,.slice u.ko u.kl u.kc]
def fV (u:FU):ak:=.agg #[.int .i64 u.k,.bool (decide (u.n.z<0)),.slice u.n.o u.n.l u.n.c,.string u.nm,.slice u.ko u.kl u.kc]
def IR (z:Int):Prop:=-9223372036854775808<=z/\z<=9223372036854775807
theorem NR.of {w:af} {n:NU} (h:Sl w .u32 (.slice n.o n.l n.c) (fJ bf n.z.natAbs)) (hb:n.z.natAbs<bf ^ 600):NR w n:=⟨_,rfl,h,hb⟩
def FT (w:af) (S:Nat->Prop):Nat->FU->F->Prop
 | 0,_,_=>False
 | d+1,u,t=>(u.k=t.op/\IR u.k/\u.n.z=t.num/\u.nm=t.name)/\NR w u.n/\∃ el:List (FU × F),el.map (·.2)=t.kids/\(u.kl=el.length/\el.length<=u.kc/\u.kc<=bn/\(u.ko=none->u.kc=0)) /\
   (el.length≠0->∀ a,u.ko=some a->S a.block)/\∀ i (h:i<el.length),FN 5 w u.ko i (fC el[i].1)/\FT w S d el[i].1 el[i].2
theorem FT.keep {w w':af} {S:Nat->Prop} (hk:∀ g,S g->w'.heap[g]?=w.heap[g]?) (hn:KN w w'):∀ {d:Nat} {u:FU} {t:F},FT w S d u t->FT w' S d u t
 | 0,_,_,h=>h
 | d+1,u,t,⟨h1,h2,el,h3,h4,h5,h6⟩=>⟨h1,CI.kn h2 hn,el,h3,h4,h5,fun i hi=>⟨(h6 i hi).1.keep fun a ha=>hk _ (h5 (by omega) a ha),(h6 i hi).2.keep hk hn⟩⟩
theorem FT.mono {w:af} {S S':Nat->Prop} (hs:∀ g,S g->S' g):∀ {d:Nat} {u:FU} {t:F},FT w S d u t->FT w S' d u t
 | 0,_,_,h=>h
 | d+1,u,t,⟨h1,h2,el,h3,h4,h5,h6⟩=>⟨h1,h2,el,h3,h4,fun h0 a ha=>hs _ (h5 h0 a ha),fun i hi=>⟨(h6 i hi).1,(h6 i hi).2.mono hs⟩⟩
theorem FT.lt {w:af} {S:Nat->Prop}:∀ {d:Nat} {u:FU} {t:F},FT w S d u t->FT w (fun g=>S g/\g<w.heap.size) d u t
 | 0,_,_,h=>h
 | d+1,u,t,⟨h1,h2,el,h3,h4,h5,h6⟩=>⟨h1,h2,el,h3,h4,fun h0 a ha=>⟨h5 h0 a ha,(h6 0 (by omega)).1.lt a ha⟩,fun i hi=>⟨(h6 i hi).1,(h6 i hi).2.lt⟩⟩
theorem FT.up {w:af} {S:Nat->Prop}:∀ {d:Nat} {u:FU} {t:F},FT w S d u t->∀ {d':Nat},d<=d'->FT w S d' u t
 | 0,_,_,h,_,_=>absurd h id
 | d+1,u,t,⟨h1,h2,el,h3,h4,h5,h6⟩,0,hd=>by omega
 | d+1,u,t,⟨h1,h2,el,h3,h4,h5,h6⟩,d'+1,hd=>⟨h1,h2,el,h3,h4,h5,fun i hi=>⟨(h6 i hi).1,(h6 i hi).2.up (Nat.le_of_succ_le_succ hd)⟩⟩
def fE (d:Nat):Es (FU × F) where
 e:=29
 n:=5
 f q:=fC q.1
 R w S q:=FT w S d q.1 q.2
 pos:=by decide
 len _:=rfl
 one q:=by
  intro u hu;simp only[fC,aP,aK,or_false] at hu;rcases hu with rfl | rfl | rfl | rfl | rfl<;>rfl
 keep h n k:=k.keep h n
 mono h k:=k.mono h
 lt k:=k.lt
theorem FT.below {w w':af} {S:Nat->Prop} {d:Nat} {u:FU} {t:F} (h:FT w S d u t) (hb:aB w.heap.size w w'):FT w' S d u t:=(fE d).below (a:=(u,t)) h hb
theorem FT.grown {w w':af} {S:Nat->Prop} {d:Nat} {u:FU} {t:F} {r:Option Nat} (h:FT w S d u t) (hg:w.grownBy w' r) (hn:KN w w') (hS:∀ b,S b->r≠some b):FT w' S d u t:=(fE d).grown (a:=(u,t)) h hg hn hS
def FC (w:af) (S:Nat->Prop) (d:Nat) (v:ak) (t:F):Prop:=∃ u:FU,v=fV u/\FT w S d u t
def FL (w:af) (S:Nat->Prop) (d:Nat) (v:ak) (ts:List F):Prop:=∃ el:List (FU × F),(fE d).At w S v el/\el.map (·.2)=ts
theorem FC.below {w w':af} {S:Nat->Prop} {d:Nat} {v:ak} {t:F} (h:FC w S d v t) (hb:aB w.heap.size w w'):FC w' S d v t:=by
 obtain⟨u,h1,h2⟩:=h;exact⟨u,h1,h2.below hb⟩
theorem FC.mono {w:af} {S S':Nat->Prop} {d:Nat} {v:ak} {t:F} (hs:∀ g,S g->S' g) (h:FC w S d v t):FC w S' d v t:=by
 obtain⟨u,h1,h2⟩:=h;exact⟨u,h1,h2.mono hs⟩
theorem FC.up {w:af} {S:Nat->Prop} {d d':Nat} {v:ak} {t:F} (h:FC w S d v t) (hd:d<=d'):FC w S d' v t:=by
 obtain⟨u,h1,h2⟩:=h;exact⟨u,h1,h2.up hd⟩
theorem FC.grown {w w':af} {S:Nat->Prop} {d:Nat} {v:ak} {t:F} {r:Option Nat} (h:FC w S d v t) (hg:w.grownBy w' r) (hn:KN w w') (hS:∀ b,S b->r≠some b):FC w' S d v t:=by
 obtain⟨u,h1,h2⟩:=h;exact⟨u,h1,h2.grown hg hn hS⟩
theorem FL.below {w w':af} {S:Nat->Prop} {d:Nat} {v:ak} {ts:List F} (h:FL w S d v ts) (hb:aB w.heap.size w w'):FL w' S d v ts:=by
 obtain⟨el,h1,h2⟩:=h;exact⟨el,h1.below hb,h2⟩
theorem FL.mono {w:af} {S S':Nat->Prop} {d:Nat} {v:ak} {ts:List F} (hs:∀ g,S g->S' g) (h:FL w S d v ts):FL w S' d v ts:=by
 obtain⟨el,h1,h2⟩:=h;exact⟨el,h1.mono hs,h2⟩
theorem FL.grown {w w':af} {S:Nat->Prop} {d:Nat} {v:ak} {ts:List F} {r:Option Nat} (h:FL w S d v ts) (hg:w.grownBy w' r) (hn:KN w w') (hS:∀ b,S b->r≠some b):FL w' S d v ts:=by
 obtain⟨el,h1,h2⟩:=h;exact⟨el,h1.grown hg hn hS,h2⟩
theorem FC.open {w:af} {S:Nat->Prop} {d:Nat} {v:ak} {t:F} (h:FC w S d v t):∃ (b:Bool) (o:Option cu) (l c:Nat) (ko:Option cu) (kl kc:Nat),
  v=.agg #[.int .i64 t.op,.bool b,.slice o l c,.string t.name,.slice ko kl kc]/\(IR t.op/\CI w (.agg #[.bool b,.slice o l c]) t.num 600/\kl=t.kids.length/\kl<=kc/\kc<=bn)/\1<=d/\FL w S (d - 1) (.slice ko kl kc) t.kids:=by
 obtain⟨u,rfl,h⟩:=h;cases d with
 | zero=>exact absurd h id
 | succ d =>
  obtain⟨⟨h1,h2,h3,h4⟩,h5,el,h6,⟨h7,h8,h9,h10⟩,h11,h12⟩:=h;have Qj:u.kl=t.kids.length:=by rw[h7,<-h6,List.length_map]
  have Qi:u.kl<=u.kc:=by rw[h7];exact h8
  refine⟨decide (u.n.z<0),u.n.o,u.n.l,u.n.c,u.ko,u.kl,u.kc,?_,⟨by rw[<-h1];exact h2,?_,Qj,Qi,h9⟩,Nat.succ_le_succ (ah _),el,⟨u.ko,u.kc,by rw[h7],⟨h8,h9,h10⟩,h11,h12⟩,h6⟩
  ·unfold fV;rw[h1,h4]
  rw[<-h3];exact h5
theorem FL.form {w:af} {S:Nat->Prop} {d:Nat} {v:ak} {ts:List F} (h:FL w S d v ts):∃ ko kc,v=.slice ko ts.length kc/\(ts.length<=kc/\kc<=bn/\(ko=none->kc=0)):=by
 obtain⟨el,⟨ko,kc,rfl,h1,-⟩,rfl⟩:=h;exact⟨ko,kc,by simp,by simpa using h1⟩
theorem FL.cells {w:af} {S:Nat->Prop} {d:Nat} {ko:Option cu} {n kc:Nat} {ts:List F} (h:FL w S d (.slice ko n kc) ts) (i:Nat) (hi:i<ts.length):∃ (a:cu) (b:Bool) (o:Option cu) (l c:Nat) (po:Option cu) (pl pc:Nat),ko=some a /\
  (w.cell? (a.add (i*5))=some (.int .i64 ts[i].op)/\w.cell? ⟨(a.add (i*5)).block,(a.add (i*5)).off+1,none⟩=some (.bool b)/\w.cell? ⟨(a.add (i*5)).block,(a.add (i*5)).off+2,none⟩=some (.slice o l c) /\
   w.cell? ⟨(a.add (i*5)).block,(a.add (i*5)).off+3,none⟩=some (.string ts[i].name)/\w.cell? ⟨(a.add (i*5)).block,(a.add (i*5)).off+4,none⟩=some (.slice po pl pc)) /\
  FC w S d (.agg #[.int .i64 ts[i].op,.bool b,.slice o l c,.string ts[i].name,.slice po pl pc]) ts[i]:=by
 obtain⟨el,⟨v_,we,e,h1,h2,h3⟩,rfl⟩:=h;injection e with e1 e2 e3;subst e1;have hi':i<el.length:=by simpa using hi
 obtain⟨⟨a,ha,hc⟩,hT⟩:=h3 i hi';simp only[fg];have hk:el[i].1.k=el[i].2.op/\el[i].1.nm=el[i].2.name:=by
  cases d with
  | zero=>exact absurd hT id
  | succ d=>obtain⟨⟨h1,h2,h3,h4⟩,-⟩:=hT;exact⟨h1,h4⟩
 refine⟨a,_,_,_,_,_,_,_,ha,⟨by have:=hc 0 _ rfl;rw[<-hk.1];exact this,hc 1 _ rfl,hc 2 _ rfl,by have:=hc 3 _ rfl;rw[<-hk.2];exact this,hc 4 _ rfl⟩,el[i].1,?_,hT⟩;unfold fV;rw[hk.1,hk.2]
theorem FC.mk {w:af} {S:Nat->Prop} {d:Nat} {b:Bool} {o:Option cu} {l c:Nat} {nm:ByteArray} {ko:Option cu} {kl kc:Nat} {op z:Int} {ks:List F} (hr:IR op) (hz:CI w (.agg #[.bool b,.slice o l c]) z 600)  (hk:FL w S d (.slice ko kl kc) ks) :
  FC w S (d+1) (.agg #[.int .i64 op,.bool b,.slice o l c,.string nm,.slice ko kl kc]) (.node op z nm ks):=by
 have hb:b=decide (z<0):=by
  obtain⟨va,e,_⟩:=hz;injection e with e;have e1:=congrArg (fun t:Array ak=>t[0]?) e;injection e1 with e1;injection e1 with e1
 subst hb;obtain⟨el,⟨v_,we,e,h1,h2,h3⟩,rfl⟩:=hk;injection e with e1 e2 e3;subst e1;subst e3;exact⟨⟨op,⟨o,l,c,z⟩,nm,ko,kl,kc⟩,rfl,⟨rfl,hr,rfl,rfl⟩,hz,el,rfl,⟨e2,h1⟩,h2,h3⟩
theorem FL.nil (w:af) (S:Nat->Prop) (d:Nat):FL w S d (.slice none 0 0) []:=⟨[],⟨none,0,rfl,⟨ag _,ah _,fun _=>rfl⟩,fun h=>absurd rfl h,fun i hi=>absurd hi (an i)⟩,rfl⟩
abbrev Bs:=List UInt8
theorem cellsByte:Tryz.prog.cellsOf 5=1:=by kernel_rfl
theorem pX.fresh (w:af):pX w.heap.size w.heap.size [] (w.alloc (.cells #[.pointer none,.slice none 0 0] 109)):=Lib.fresh_isBuilder 109 5 w
theorem pX.lt {B b:Nat} {l:Bs} {w:af} (h:pX B b l w):B<=b/\b<w.heap.size:=by
 obtain⟨p,v,h1,-,-,h2,-⟩:=h.at;exact⟨h2,ae h1⟩
def w_ (w w':af):Prop:=∀ (g:Nat) (c:Array ak) (T:aZ) (fz:Nat × Nat),w.heap[g]?=some (.cells c T fz)->T≠5->T≠109->w'.heap[g]?=some (.cells c T fz)
theorem w_.refl (w:af):w_ w w:=fun _ _ _ _ h _ _=>h
theorem w_.trans {a b c:af} (h:w_ a b) (k:w_ b c):w_ a c:=fun g x T fz h1 h2 h3=>k g x T fz (h g x T fz h1 h2 h3) h2 h3
theorem dH {w w':af} (h:aB w.heap.size w w'):w_ w w':=fun g c T fz h1 _ _=>by rw[h.block g (ae h1)];exact h1
theorem zZ {w:af} {b:Nat} {c0:Array ak} {f0:Nat × Nat} (hb:w.heap[b]?=some (.cells c0 109 f0)) (i:Nat) (x:ak):w_ w (w.setCell ⟨b,i,none⟩ x):=fun g c T fz h1 _ h3=>by
 by_cases e:g=b
 ·subst e;rw[hb] at h1;injection h1 with h1;injection h1 with _ h1 _;exact absurd h1.symm h3
 rw[heap_setCell_other _ _ g _ (by simpa using e)];exact h1
theorem yt {w w':af} {B:Nat} {v:ak} {n:Nat} {xs:List ak} (hown:w.ownsRow B 5 1 v n xs) (hg:w.grownBy w' v.ownBlock):w_ w w':=fun g c T fz h1 h2 _=>by
 rw[hg.block g (ae h1) (fun e=>?_)];exact h1;rcases hown.2 with ⟨rfl,_⟩ | ⟨q,cap,cur,rfl,_,hq,_⟩
 ·cases e
 injection e with e;subst e;rw[hq] at h1;injection h1 with h1;injection h1 with _ h1 _;exact h2 h1.symm
theorem tT {B b:Nat} {l:Bs} {w:af} (h:pX B b l w):∃ v,aV aj 150 #[.pointer (some ⟨b,0,none⟩)] w fun e w1=>e=.returned (.tuple #[])/\w1.heap[b]?=some (.cells #[.pointer (some ⟨b,0,none⟩),v] 109 (0,0))/\w1.ownsRow B 5 1 v l.length (cH l)/\v.ownBlock≠some b/\aB B w w1/\w_ w w1:=by
 obtain⟨p,v,hbk,hown,hne,CM,hp⟩:=h.at;refine⟨v,?_⟩;rcases hp with rfl | rfl
 ·refine (nw b w (by rw[cT w b 0 _ 109 (0,0) hbk];rfl) (by simp[World.shape?,hbk]) (je w b 0 _ 109 hbk)).mono ?_;rintro e w1 ⟨rfl,rfl⟩;refine⟨rfl,?_,?_,hne,(ax _ _).setCell CM _,zZ hbk 0 _⟩
  ·rw[aA w b 0 _ 109 _ hbk];rfl
  exact ownsRow_setCell_other hown (by simpa using hne) _
 refine (oh b w (by rw[cT w b 0 _ 109 (0,0) hbk];rfl)).mono ?_;rintro e w1 ⟨rfl,rfl⟩;exact⟨rfl,hbk,hown,hne,ax _ _,w_.refl _⟩
def ox (B b:Nat) (l:Bs) (w:af) (e:Ending) (w':af):Prop:=(∃ v,e=.returned v)/\pX B b l w'/\aB B w w'/\w_ w w'
theorem lH (B b:Nat) (l m:Bs) (w:af) (h:pX B b l w) (hlen:l.length+m.length<=1000000) (hBw:B<=w.heap.size) :
  aV aj 100 #[.pointer (some ⟨b,0,none⟩),.string ⟨m.toArray⟩] w (ox B b (l++m) w):=by
 obtain⟨i0,hi,hz0,iq,mP⟩:=rm infoByte;obtain⟨v,cc⟩:=tT h;have CM:=h.lt.1;have hsz:(⟨m.toArray⟩:ByteArray).size=m.length:=rfl;have CC:=aa cc;clear cc h;go_enter Tryz.func100,Tryz.ntmps100;go_wp2_with fail;refine CC.out.mono ?_;rintro e w1 ⟨rfl,pP,pD,hne,gp,Em⟩;have eX:=aa Em;clear Em;have c0:w1.cell? ⟨b,0,none⟩=some (.pointer (some ⟨b,0,none⟩)):=by rw[cT w1 b 0 _ 109 (0,0) pP];rfl
 have c1:w1.cell? ⟨b,1,none⟩=some v:=by rw[cT w1 b 1 _ 109 (0,0) pP];rfl
 have HK:=aa pP;clear pP;have Hy:=gp.size;go_wp2_with (at_builtin;refine Lib.wpList_append_own_string _ rfl (.tmp 12) (.tmp 13) 99 9 rfl B 5 i0 jW Tryz.underlying9 hi hz0 iq mP _ _ _ rfl pD ⟨m.toArray⟩ rfl ?c3 ?c4 ?c5 ?_)
 case c3=>unfold bn;omega
 case c4=>omega
 case c5=>omega
 intro v' w2 hown' hgrow _;have Zv:=aa (yt pD hgrow);have Ic:b<w1.heap.size:=ae HK.out;have e_:w2.heap[b]?=some (.cells #[.pointer (some ⟨b,0,none⟩),v] 109 (0,0)):=by
  rw[hgrow.block b Ic (fun e=>hne e.symm)];exact HK.out
 have d0:w2.cell? ⟨b,0,none⟩=some (.pointer (some ⟨b,0,none⟩)):=by rw[cT w2 b 0 _ 109 (0,0) e_];rfl
 have d1:w2.cell? ⟨b,1,none⟩=some v:=by rw[cT w2 b 1 _ 109 (0,0) e_];rfl
 have f1:w2.frozen? ⟨b,1,none⟩=false:=je w2 b 1 _ 109 e_;obtain⟨ao,cap,rfl,-⟩:=uY hown';have AH:=aa e_;clear e_;go_wp2;go_ret2;refine⟨⟨_,rfl⟩,?_,(gp.grown hgrow (by omega) (fun k hk=>(pD.lt k hk).1)).setCell (p:=⟨b,1,none⟩) CM _,(eX.out.trans Zv.out).trans (zZ AH.out 1 _)⟩;refine .inr ?_;rw[<-nS];refine Lib.BuilderAt.put (T:=109) (e:=5) CM AH.out (bs':=cH l++Lib.strCells ⟨m.toArray⟩) ?_ (by decide);rw[dB,mu,Lib.strCells_length];exact hown'
theorem mX (B b:Nat) (l:Bs) (c:UInt8) (z:Int) (hz:z=(c.toNat:Int)) (w:af) (h:pX B b l w) (hlen:l.length<=1000000) (hBw:B<=w.heap.size) :
  aV aj 116 #[.pointer (some ⟨b,0,none⟩),.int .u8 z] w (ox B b (l++[c]) w):=by
 obtain⟨v,cc⟩:=tT h;have CM:=h.lt.1;have CC:=aa cc;have HZ:=aa hz;clear cc h hz;go_enter Tryz.func116,Tryz.ntmps116;go_wp2_with fail;refine CC.out.mono ?_;rintro e w1 ⟨rfl,pP,pD,hne,gp,Em⟩;have eX:=aa Em;clear Em;have Ic:b<w1.heap.size:=ae pP;have c0:w1.cell? ⟨b,0,none⟩=some (.pointer (some ⟨b,0,none⟩)):=by rw[cT w1 b 0 _ 109 (0,0) pP];rfl
 have c1:w1.cell? ⟨b,1,none⟩=some v:=by rw[cT w1 b 1 _ 109 (0,0) pP];rfl
 have hA:=pD.alloc (.cells #[.int .u8 z] 5);have HA:=aa hA;have HK:=aa (BX pP (.cells #[.int .u8 z] 5));have HM:=aa (iI w1 (.cells #[.int .u8 z] 5) _ rfl);clear pP hA;have Hy:=gp.size
 go_wp2_with (at_builtin;go_loud (refine p7 _ rfl (.tmp 11) (.tmp 13) 99 rfl 5 jW infoByte rfl (by decide) (by decide) B v l.length _ rfl HA.out w1.heap.size 5 [.int .u8 z] rfl (by intro u hu;simp at hu;subst hu;rfl) rfl HM.out (by omega) (by simp;omega) ?_;intro v' w2 hown' hgrow hfr;have e_:=(hgrow.block b (ae HK.out) (fun e=>hne e.symm)).trans HK.out;have d1:w2.cell? ⟨b,1,none⟩=some v:=(by rw[cT w2 b 1 _ 109 (0,0) e_];rfl);have f1:w2.frozen? ⟨b,1,none⟩=false:=je w2 b 1 _ 109 e_;obtain⟨ao,cap,rfl,-⟩:=uY hown';have AH:=aa e_;have Y8:=aa hown';have Vy:=aa hgrow;clear e_ hown' hgrow hfr));go_ret;have Oi:aB B w (w1.alloc (.cells #[.int .u8 z] 5)):=gp.alloc (by omega) _
 refine⟨⟨_,rfl⟩,.inr ?_,(Oi.grown Vy.out (by have:=Oi.size;omega) (fun k hk=>(HA.out.lt k hk).1)).setCell (p:=⟨b,1,none⟩) CM _,((eX.out.trans (dH ((ax _ _).alloc (ag _) _))).trans (yt HA.out Vy.out)).trans (zZ AH.out 1 _)⟩;have e:cH (l++[c])=cH l++[.int .u8 z]:=by rw[HZ.out];simp[cH]
 rw[e];refine Lib.BuilderAt.put (T:=109) (e:=5) CM AH.out (bs':=cH l++[.int .u8 z]) ?_ (by decide);rw[dB,mu];exact Y8.out
theorem tR (B b g cap:Nat) (p:ak) (cur:Array ak) (l:Bs) (w:af) (h0:l ≠ []) (hB:B<=g) (hbk:w.heap[b]?=some (.cells #[p,.slice (some ⟨g,0,none⟩) l.length cap] 109 (0,0))) (hg:w.heap[g]?=some (.cells cur 5 (0,0)))
  (hnc:l.length<=cap) (JB:cap<=bn) (hcs:cur.size=cap) (hcell:∀ j (x:UInt8),l[j]?=some x->w.cell? ((⟨g,0,none⟩:cu).add j)=some (.int .u8 x.toNat)) :
  aV aj 68 #[.pointer (some ⟨b,0,none⟩)] w fun e w'=>e=.returned (.string ⟨l.toArray⟩)/\aB B w w':=by
 have Fs:l.length≠0:=by simpa using h0
 have c1:w.drew.cell? ⟨b,1,none⟩=some (.slice (some ⟨g,0,none⟩) l.length cap):=by
  have:w.drew.heap[b]?=some (.cells #[p,.slice (some ⟨g,0,none⟩) l.length cap] 109 (0,0)):=hbk;rw[Lib.cell_of_heap this];rfl
 have hSD:(Builtin.unsafeSliceData_ #[99] 159 #[.slice (some ⟨g,0,none⟩) l.length cap]).run aj w.drew=.ok (.pointer (some ⟨g,0,none⟩)) w.drew:=
  Lib.run_unsafeSliceData_row _ _ _ _ _ _ (by omega)
 have hUS:(Builtin.unsafeString_ #[159,3] 9 #[.pointer (some ⟨g,0,none⟩),.int .i64 l.length]).run aj w.drew=.ok (.string ⟨l.toArray⟩) (w.drew.freeze ⟨g,0,none⟩ l.length):=by
  refine Lib.run_unsafeString_row w.drew 159 3 9 5 Tryz.underlying159 cellsByte g cur.size (by have qR:w.drew.heap[g]?=some (.cells cur 5 (0,0)):=hg;simp[World.shape?,qR]) l h0 (by omega) (by unfold bn at JB;omega) ?_;intro j x hx;exact hcell j x hx
 clear hcell hcs hg hbk;go_enter Tryz.func68,Tryz.ntmps68;go_wp2;go_region;all_goals (go_wp2;go_ret;exact⟨rfl,Lib.below_freeze (Below.drew (ax B w)) (p:=⟨g,0,none⟩) hB _⟩)
theorem Cq (B b:Nat) (l:Bs) (w:af) (h:pX B b l w) (h0:l ≠ []) :
  aV aj 68 #[.pointer (some ⟨b,0,none⟩)] w fun e w'=>e=.returned (.string ⟨l.toArray⟩)/\aB B w w':=by
 obtain⟨p,v,hbk,hown,hne,CM,hp⟩:=h.at;have Fs:l.length≠0:=by simpa using h0
 have h1:=hown;rcases hown.2 with ⟨_,hz⟩ | ⟨g,cap,cur,rfl,Fu,hg,hnc,JB,hcs,htake⟩
 ·exact absurd hz Fs
 refine tR B b g cap p cur l w h0 Fu hbk hg hnc JB (by omega) fun j x hx=>?_
 exact h1.cells (g:=g) rfl j (.int .u8 x.toNat) (by simp[cH,hx])
theorem vP (o:Int) (b:Bool) (ao:Option cu) (l c:Nat) (nm:ByteArray) (ko:Option cu) (kl kc:Nat) (w:af) :
  aV aj 22 #[.agg #[.int .i64 o,.bool b,.slice ao l c,.string nm,.slice ko kl kc]] w fun e w'=>e=.returned (.int .i64 (cU o))/\aB w.heap.size w w':=by
 have hb:=(ax w.heap.size w).alloc (ag _) (.cells #[.int .i64 o,.bool b,.slice ao l c,.string nm,.slice ko kl kc] 29);have HB:=aa hb;clear hb;by_cases h1:8<=o/\o<=20
 ·have:o=8\/o=9\/o=10\/o=11\/o=12\/o=13\/o=14\/o=15\/o=16\/o=17\/o=18\/o=19\/o=20:=by omega
  clear h1;rcases this with rfl | rfl | rfl | rfl | rfl | rfl | rfl | rfl | rfl | rfl | rfl | rfl | rfl;all_goals (go_enter Tryz.func22,Tryz.ntmps22;go_wp2_with fail;go_ret;exact⟨rfl,HB.out⟩)
 have hs:cU o=0:=by unfold cU;rw[if_neg (by omega),if_neg (by omega)]
 have n8:(o==8)=false:=beq_eq_false_iff_ne.2 (by omega);have n9:(o==9)=false:=beq_eq_false_iff_ne.2 (by omega);have WK:(o==10)=false:=beq_eq_false_iff_ne.2 (by omega);have WJ:(o==11)=false:=beq_eq_false_iff_ne.2 (by omega);have WI:(o==12)=false:=beq_eq_false_iff_ne.2 (by omega);have n13:(o==13)=false:=beq_eq_false_iff_ne.2 (by omega);have Mo:(o==14)=false:=beq_eq_false_iff_ne.2 (by omega);have n15:(o==15)=false:=beq_eq_false_iff_ne.2 (by omega);have n16:(o==16)=false:=beq_eq_false_iff_ne.2 (by omega);have n17:(o==17)=false:=beq_eq_false_iff_ne.2 (by omega);have n18:(o==18)=false:=beq_eq_false_iff_ne.2 (by omega);have n19:(o==19)=false:=beq_eq_false_iff_ne.2 (by omega);have n20:(o==20)=false:=beq_eq_false_iff_ne.2 (by omega);clear h1;go_enter Tryz.func22,Tryz.ntmps22;go_wp2_with fail;go_ret
 exact⟨by rw[hs];rfl,HB.out⟩
theorem EO (o:Int) (b:Bool) (ao:Option cu) (l c:Nat) (nm:ByteArray) (ko:Option cu) (kl kc:Nat) (s:Int) (w:af) :
  aV aj 159 #[.agg #[.int .i64 o,.bool b,.slice ao l c,.string nm,.slice ko kl kc],.int .i64 s] w fun e w'=>e=.returned (.bool (cU o==s))/\aB w.heap.size w w':=by
 have hb:=(ax w.heap.size w).alloc (ag _) (.cells #[.int .i64 o,.bool b,.slice ao l c,.string nm,.slice ko kl kc] 29);have HB:=aa hb;clear hb;go_enter Tryz.func159,Tryz.ntmps159;go_wp2_with fail;refine (vP o b ao l c nm ko kl kc _).mono ?_;rintro e w2 ⟨rfl,hb⟩;have HW:=aa (HB.out.trans (hb.mono HB.out.size));clear hb;go_wp2_with fail;go_ret;exact⟨rfl,HW.out⟩
theorem Ct (o:Int) (b:Bool) (ao:Option cu) (l c:Nat) (nm:ByteArray) (ko:Option cu) (kl kc:Nat) (s:Int) (kb:Nat) (w:af) (hB:w.heap[kb]?=some (.cells #[.int .i64 s] 36 (0,0))) :
  aV aj 161 #[.agg #[.int .i64 o,.bool b,.slice ao l c,.string nm,.slice ko kl kc],.pointer (some ⟨kb,0,none⟩)] w fun e w'=>e=.returned (.bool (cU o != s))/\aB w.heap.size w w':=by
 have oP:=aa hB;clear hB;have HW:=aa (ax w.heap.size w);go_enter Tryz.func161,Tryz.ntmps161;obtain⟨x1,kf,ef,ki,cn,jC,aG⟩:=aW w #[.int .i64 o,.bool b,.slice ao l c,.string nm,.slice ko kl kc] 29;replace oP:=bM cn.out oP;replace HW:=aa (HW.out.trans (cn.out.mono HW.out.size));obtain⟨⟨c0,c1,c2,c3,c4⟩,dN,dY,dX,dW,dO⟩:=ay aG.out;go_upto_region 1 with fail;clear c0 dN c1 dY c2 dX c3 dW c4 dO;have dS:=ae aG.out;have yf:=ae oP.out;have fO:Hid (∀ q,q<0->(fun q=>0) q<x1.heap.size):=aa (fun q h=>absurd h (an _));refine R7.region (by kernel_rfl) [[],[0],[],[0,1,2],[0,1,2,3]] [] [] (fun q=>0) 0 5 (by kernel_rfl) (by kernel_rfl) (by rfl) fO.out (fun q q' h h' hn=>absurd hn (by omega)) ?_
 refine R7.aF.dL ?_ (by rfl) (fun T xs wr hA=>?_) ?_;rotate_left 1
 ·have e2:=hA.pre 2 (by kernel_rfl);simp only[kM,lO,lF] at e2;have bB:wr.heap[kf]?=_:=(hA.bl _ dS (fun q h=>absurd h (an _))).trans aG.out;have q0:=aq (v:=.int .i64 o) bB 0 rfl;have q1:=aq (v:=.bool b) bB 1 rfl;have q2:=aq (v:=.slice ao l c) bB 2 rfl;have q3:=aq (v:=.string nm) bB 3 rfl;have q4:=aq (v:=.slice ko kl kc) bB 4 rfl;clear bB;clear hA;refine⟨(by rfl),?_⟩;go_simp<;>(try with_reducible rfl)
 refine R7.aF.call (fun xs v w=>v=.int .i64 (cU o)) (fun _ _ _ _ h _=>h) (fun _ _ _ _ _ h _ _=>h) (by rfl) (fun T xs wr hA=>?_) ?_
 ·have nH:=(hA.be 0 (ah _) (fun _ _=>ah _)).size;have e4:=hA.tm 0 4 (by rfl) (by rfl);have f4:xs 0=_:=hA.fa 0 (by rfl);(try simp (disch:=first | rfl | decide) only [R7.au] at f4);rw[f4] at e4;clear f4;have gq:=ck (hA.be x1.heap.size (ag _) (fun q h=>absurd h (an q)));clear hA;refine⟨(by rfl),fun K hK=>?_⟩;go_simp;refine (vP o b ao l c nm ko kl kc wr).mono ?_;rintro e w' ⟨rfl,hb'⟩;exact hK.out _ _ rfl hb'
 refine R7.aF.dL ?_ (by rfl) (fun T xs wr hA=>?_) ?_;rotate_left 1
 ·have e1:=hA.pre 1 (by kernel_rfl);simp only[kM,lO,lF] at e1;have bB:wr.heap[kb]?=_:=(hA.bl _ yf (fun q h=>absurd h (an _))).trans oP.out;have q0:=aq (v:=.int .i64 s) bB 0 rfl;clear bB;clear hA;refine⟨(by rfl),?_⟩;go_simp<;>(try with_reducible rfl)
 refine R7.aF.dL ?_ (by rfl) (fun T xs wr hA=>?_) ?_;rotate_left 1
 ·have e5:=hA.tm 1 5 (by rfl) (by rfl);have f5:xs 1=(.int .i64 (cU o)):=hA.fa 1 (by rfl);rw[f5] at e5;clear f5;have e6:=hA.tm 2 6 (by rfl) (by rfl);have f6:xs 2=_:=hA.fa 2 (by rfl);(try simp (disch:=first | rfl | decide) only [R7.au] at f6);rw[f6] at e6;clear f6;clear hA;refine⟨(by rfl),?_⟩;go_simp<;>(try with_reducible rfl)
 refine R7.aF.dL ?_ (by rfl) (fun T xs wr hA=>?_) ?_;rotate_left 1
 ·have e7:=hA.tm 3 7 (by rfl) (by rfl);have f7:xs 3=_:=hA.fa 3 (by rfl);(try simp (disch:=first | rfl | decide) only [R7.au] at f7);rw[f7] at e7;clear f7;clear hA;refine⟨(by rfl),?_⟩;go_simp<;>(try with_reducible rfl)
 refine R7.aF.done (fun xs x2 hL=>?_);obtain⟨⟨iB,cS⟩,hf,-,-⟩:=hL;have f0:xs 0=_:=hf 0 (by decide);(try simp (disch:=first | rfl | decide) only [R7.au] at f0);have f1:xs 1=(.int .i64 (cU o)):=hf 1 (by decide);have f2:xs 2=_:=hf 2 (by decide);(try simp (disch:=first | rfl | decide) only [R7.au] at f2);have f3:xs 3=_:=hf 3 (by decide);(try simp (disch:=first | rfl | decide) only [R7.au] at f3);have f4:xs 4=_:=hf 4 (by decide);(try simp (disch:=first | rfl | decide) only [R7.au] at f4);have hb0:aB 0 x1 x2:=ck (iB 0 (ah _) (fun _ _=>ah _));have jl:∀ j,j<x1.heap.size->(∀ q,q<0->(fun q=>0) q≠j)->x2.heap[j]?=x1.heap[j]?:=cS;clear iB cS hf
 have hb:aB x1.heap.size x1 x2:=⟨hb0.os,hb0.tape,hb0.output,hb0.size,fun q hq=>jl q hq (fun q h=>absurd h (an _))⟩;refine R7.lW ?_;simp only[R7.fill,AU,AT,AS,f0,f1,f2,f3,f4];clear hb0 jl fO dS yf f0 f1 f2 f3 f4;replace HW:=aa (HW.out.trans (hb.mono HW.out.size));replace hb:=aa hb;go_wp2_with fail;go_ret;exact⟨rfl,HW.out⟩
def BL (w:af) (v:ak) (ss:List Int):Prop:=∃ ko kc,v=.slice ko ss.length kc/\(ss.length<=kc/\kc<=bn)/\∀ i (hi:i<ss.length),∃ a,ko=some a/\w.cell? (a.add i)=some (.int .i64 ss[i])
theorem BL.below {w w':af} {v:ak} {ss:List Int} (h:BL w v ss) (hb:aB w.heap.size w w'):BL w' v ss:=by
 obtain⟨ko,kc,rfl,h1,h2⟩:=h;refine⟨ko,kc,rfl,h1,fun i hi=>?_⟩;obtain⟨a,ha,hc⟩:=h2 i hi;exact⟨a,ha,by rw[hb.cell (World.block_lt_of_cell? w _ hc)];exact hc⟩
theorem BL.cells {w:af} {ko:Option cu} {n kc:Nat} {ss:List Int} (h:BL w (.slice ko n kc) ss) (i:Nat) (hi:i<ss.length):∃ a,ko=some a/\w.cell? (a.add i)=some (.int .i64 ss[i]):=by
 obtain⟨v_,we,e,h1,h2⟩:=h;injection e with e1 e2 e3;subst e1;exact h2 i hi
theorem BL.block {w:af} {g:Nat} {ss:List Int} {T:aZ} (h:w.heap[g]?=some (.cells (ss.map (Value.int .i64)).toArray T (0,0))) (hl:ss.length<=bn):BL w (.slice (some ⟨g,0,none⟩) ss.length ss.length) ss:=
 ⟨_,_,rfl,⟨ag _,hl⟩,fun i hi=>⟨_,rfl,by rw[iR,gh,cT w g _ _ _ _ h];simp[hi]⟩⟩
theorem BL.nil (w:af):BL w (.slice none 0 0) []:=⟨none,0,rfl,⟨ag _,ah _⟩,fun i hi=>absurd hi (an i)⟩
theorem qd (ts:List F):(di ts).length=ts.length:=by unfold di;rw[List.length_map]
theorem xC (ts:List F) (i:Nat) (hi:i<ts.length) (hi':i<(di ts).length):(di ts)[i]=cU ts[i].op:=fg (fun f:F=>cU f.op)
theorem EE (va vb:ak) (ts:List F) (M:List Int) (d:Nat) (S:Nat->Prop) (w:af) (h1:FL w S d va ts) (h2:BL w vb M) :
  aV aj 158 #[va,vb,.func (.func 159) #[] #[]] w fun e w'=>e=.returned (.bool (decide (di ts=M)))/\aB w.heap.size w w':=by
 obtain⟨ko,kc,rfl,⟨hq1,hq2,-⟩⟩:=h1.form;have RZ:=h2;obtain⟨po,pc,rfl,⟨hr1,sD⟩,-⟩:=RZ;have pE:kc<=9223372036854775807:=hq2;have hmy:pc<=9223372036854775807:=sD;have HX:=aa h1;have HY:=aa h2;clear h1 h2 hq2 sD;by_cases hl:ts.length=M.length
 ·have hne:(((ts.length:Nat):Int) != ((M.length:Nat):Int))=false:=by rw[hl];exact bne_self_eq_false _
  have HL:=aa hl;obtain⟨n,hn⟩:∃ n,n=ts.length:=⟨_,rfl⟩;rw[<-hn] at HL hne hq1 HX ⊢;obtain⟨n',hn'⟩:∃ n,n=M.length:=⟨_,rfl⟩;rw[<-hn'] at HL hne hr1 HY ⊢;have HN:=aa hn;have Vn:=aa hn';clear hl hn hn';go_enter Tryz.func158,Tryz.ntmps158;go_wp2_with fail;clear hne;go_loopw [17] (fun i wr=>∃ j:Nat,i=.int .i64 (j:Nat)/\j<=n/\Hid ((di ts).take j=M.take j)/\Hid (aB w.heap.size w wr)) (fun i _=>n - (eT i).toNat)
  case atStart=>exact⟨0,rfl,ah _,aa rfl,aa (ax _ _)⟩
  case round =>
   obtain⟨j,rfl,hj,HT,HW⟩:=hrel;by_cases hlt:j<n
   ·have hz:j<ts.length:=by rw[<-HN.out];exact hlt
    have mP:j<M.length:=by rw[<-Vn.out,<-HL.out];exact hlt
    have K_:j<n':=by rw[<-HL.out];exact hlt
    obtain⟨a,bb,ao,al,ac,qo,ql,qc,rfl,⟨c0,c1,c2,c3,c4⟩,-⟩:=(HX.out.below HW.out).cells j hz;obtain⟨b,rfl,d0⟩:=(HY.out.below HW.out).cells j mP;obtain⟨x,uh⟩:∃ x,x=ts[j].op:=⟨_,rfl⟩;obtain⟨nm,hnm⟩:∃ x,x=ts[j].name:=⟨_,rfl⟩;obtain⟨y,KR⟩:∃ y,y=M[j]:=⟨_,rfl⟩;rw[<-uh] at c0;rw[<-hnm] at c3;rw[<-KR] at d0;have LS:=aa uh;have Vb:=aa KR;clear uh KR hnm;obtain⟨x1,k8,e8,UK,CL,NZ,PE⟩:=aW wr #[.int .i64 x,.bool bb,.slice ao al ac,.string nm,.slice qo ql qc] 29;replace HW:=aa (HW.out.trans (CL.out.mono HW.out.size));rw[<-CL.out.cell (by have:=cj d0;exact this)] at d0;obtain⟨⟨g0,g1,g2,g3,g4⟩,ux,uw,uv,uu,ur⟩:=ay PE.out;by_cases he:cU x=y
    ·have N7:(cU x==y)=true:=by simp[he]
     have HE:=aa he;clear he;go_wp2_with fail;refine (EO x bb ao al ac nm qo ql qc y x1).mono ?_;rintro e w3 ⟨rfl,hb⟩;rw[N7];replace HW:=aa (HW.out.trans (hb.mono HW.out.size));clear hb N7;go_wp2_with fail;go_roundw
     case rel=>exact⟨j+1,by go_num,hlt,aa (zw HT.out (by rw[qd];exact hz) mP (by rw[xC ts j hz,<-LS.out,<-Vb.out];exact HE.out)),HW⟩
     case measure=>simp[eT];omega
    have N7:(cU x==y)=false:=by simp[he]
    have HE:=aa he;clear he;go_wp2_with fail;refine (EO x bb ao al ac nm qo ql qc y x1).mono ?_;rintro e w3 ⟨rfl,hb⟩;rw[N7];replace HW:=aa (HW.out.trans (hb.mono HW.out.size));clear hb N7;go_wp2_with fail;go_ret;refine⟨?_,HW.out⟩;rw[decide_eq_false (fun e=>HE.out (by rw[LS.out,Vb.out];subst e;rw[xC ts j hz]))];rfl
   go_wp2_with fail;go_ret;refine⟨?_,HW.out⟩;have e:=HT.out;rw[show j=n by omega,HN.out,<-qd,cz,qd,<-HN.out,HL.out,Vn.out,cz] at e;rw[decide_eq_true e];rfl
 have hne:(((ts.length:Nat):Int) != ((M.length:Nat):Int))=true:=by rw[bne_iff_ne];omega
 have HL:=aa hl;clear hl;go_enter Tryz.func158,Tryz.ntmps158;go_wp2_with fail;go_ret;refine⟨?_,ax _ _⟩;rw[decide_eq_false (fun e=>HL.out (by rw[<-e,qd]))];rfl
theorem iy (va vb:ak) (ts:List F) (M:List Int) (d:Nat) (S:Nat->Prop) (w:af) (h1:FL w S d va ts) (h2:BL w vb M) :
  aV aj 112 #[va,vb] w fun e w'=>e=.returned (.bool (decide (di ts=M)))/\aB w.heap.size w w':=by
 have HX:=aa h1;have HY:=aa h2;clear h1 h2;go_enter Tryz.func112,Tryz.ntmps112;go_wp2_with fail;refine (EE _ _ ts M d S w HX.out HY.out).mono ?_;rintro e w3 ⟨rfl,hb⟩;have HB:=aa hb;clear hb;go_wp2_with fail;go_ret;exact⟨rfl,HB.out⟩
theorem B4 (va:ak) (ts:List F) (P:F->Bool) (d:Nat) (S:Nat->Prop) (w:af) (kb:Nat) (h1:FL w S d va ts) (hc:∀ f ∈ ts,∀ (v:ak) (w':af),aB w.heap.size w w'->FC w' S d v f->aV aj 161 #[v,.pointer (some ⟨kb,0,none⟩)] w' fun e w''=>e=.returned (.bool (P f))/\aB w'.heap.size w' w'') :
  aV aj 190 #[va,.func (.func 161) #[] #[.pointer (some ⟨kb,0,none⟩)]] w fun e w'=>∃ r:Int,e=.returned (.int .i64 r)/\decide (0<=r)=ts.any P/\aB w.heap.size w w':=by
 obtain⟨ko,kc,rfl,⟨hq1,hq2,-⟩⟩:=h1.form;have pE:kc<=9223372036854775807:=hq2;have HX:=aa h1;have HC:=aa hc;clear h1 hc hq2;obtain⟨n,hn⟩:∃ n,n=ts.length:=⟨_,rfl⟩;rw[<-hn] at hq1 HX ⊢;have HN:=aa hn;clear hn;go_enter Tryz.func190,Tryz.ntmps190;go_wp2_with fail;go_loopw [8] (fun i wr=>∃ j:Nat,i=.int .i64 (j:Nat)/\j<=n/\Hid ((ts.take j).any P=false)/\Hid (aB w.heap.size w wr)) (fun i _=>n - (eT i).toNat)
 case atStart=>exact⟨0,rfl,ah _,aa rfl,aa (ax _ _)⟩
 case round =>
  obtain⟨j,rfl,hj,HT,HW⟩:=hrel;by_cases hlt:j<n
  ·have hz:j<ts.length:=by rw[<-HN.out];exact hlt
   obtain⟨a,bb,ao,al,ac,qo,ql,qc,rfl,⟨c0,c1,c2,c3,c4⟩,hf⟩:=(HX.out.below HW.out).cells j hz;have HF:=aa (HC.out ts[j] (bS hz) _ wr HW.out hf);clear hf;obtain⟨x,uh⟩:∃ x,x=ts[j].op:=⟨_,rfl⟩;obtain⟨nm,hnm⟩:∃ x,x=ts[j].name:=⟨_,rfl⟩;rw[<-uh] at c0 HF;rw[<-hnm] at c3 HF;clear uh hnm;have Vf:Hid ((ts.take (j+1)).any P=P ts[j]):=aa (by rw[aT hz,List.any_append,HT.out];simp);have HA:Hid (P ts[j]=true->ts.any P=true):=aa (fun h=>List.any_eq_true.2 ⟨_,bS hz,h⟩);obtain⟨p,hp⟩:∃ p,p=P ts[j]:=⟨_,rfl⟩;rw[<-hp] at HF Vf HA;clear hp;go_wp2_with fail;refine HF.out.mono ?_;rintro e w3 ⟨rfl,hb⟩;replace HW:=aa (HW.out.trans (hb.mono HW.out.size));clear hb HF;cases p with
   | true =>
    go_wp2_with fail;go_ret;exact⟨j,rfl,by rw[HA.out (by trivial)];simp,HW.out⟩
   | false =>
    go_wp2_with fail;go_roundw
    case rel=>exact⟨j+1,by go_num,hlt,Vf,HW⟩
    case measure=>simp[eT];omega
  go_wp2_with fail;go_ret;refine⟨-1,rfl,?_,HW.out⟩;have e:=HT.out;rw[show j=n by omega,HN.out,cz] at e;rw[e];rfl
theorem wK (va:ak) (ts:List F) (P:F->Bool) (d:Nat) (S:Nat->Prop) (w:af) (kb:Nat) (h1:FL w S d va ts) (hc:∀ f ∈ ts,∀ (v:ak) (w':af),aB w.heap.size w w'->FC w' S d v f->aV aj 161 #[v,.pointer (some ⟨kb,0,none⟩)] w' fun e w''=>e=.returned (.bool (P f))/\aB w'.heap.size w' w'') :
  aV aj 160 #[va,.func (.func 161) #[] #[.pointer (some ⟨kb,0,none⟩)]] w fun e w'=>e=.returned (.bool (ts.any P))/\aB w.heap.size w w':=by
 have HI:=aa (B4 va ts P d S w kb h1 hc);clear h1 hc;go_enter Tryz.func160,Tryz.ntmps160;go_wp2_with fail;refine HI.out.mono ?_;rintro e w3 ⟨r,rfl,hr,hb⟩;have HB:=aa hb;have HR:=aa hr;clear hb hr HI;go_wp2_with fail;go_ret;exact⟨by rw[<-HR.out];rfl,HB.out⟩
theorem yL (va:ak) (s:Int) (ts:List F) (d:Nat) (S:Nat->Prop) (w:af) (h1:FL w S d va ts) :
  aV aj 113 #[va,.int .i64 s] w fun e w'=>e=.returned (.bool ((di ts).all fun q=>decide (q=s)))/\aB w.heap.size w w':=by
 have HX:=aa h1;clear h1;have HW:=aa (ax w.heap.size w);go_enter Tryz.func113,Tryz.ntmps113;obtain⟨x1,kb,eb,Yg,Fv,hkb,oP⟩:=aW w #[.int .i64 s] 36;replace HW:=aa (HW.out.trans (Fv.out.mono HW.out.size));replace HX:=aa (HX.out.below Fv.out);go_wp2_with fail;refine (wK va ts (fun f=>cU f.op != s) d S x1 kb HX.out (fun f hf v w' hb hv=>?_)).mono ?_
 ·obtain⟨b,ao,l,c,ko,kl,kc,rfl,-,-,-⟩:=hv.open;exact Ct _ _ _ _ _ _ _ _ _ s kb w' ((hb.block _ (ae oP.out)).trans oP.out)
 rintro e w3 ⟨rfl,hb⟩;replace HW:=aa (HW.out.trans (hb.mono HW.out.size));clear hb;go_wp2_with fail;go_ret;refine⟨?_,HW.out⟩;rw[show (di ts).all (fun q=>decide (q=s)) = !ts.any (fun f=>cU f.op != s) by
  unfold di;rw[List.all_map,List.not_any_eq_all_not];congr 1;funext f;by_cases h:cU f.op=s<;>simp[h]]
 rfl
theorem Lx (v:ak) (t:F) (d:Nat) (S:Nat->Prop) (w:af) (h:FC w S d v t) :
  aV aj 64 #[v] w fun e w'=>e=.returned (.bool (dw t.op t.num (di t.kids)))/\aB w.heap.size w w':=by
 obtain⟨b,ao,l,c,ko,kl,kc,rfl,⟨hr,hz,-,-,-⟩,-,hk⟩:=h.open;obtain⟨o,z,nm,ks⟩:=t;simp only[F.op,F.num,F.name,F.kids] at hr hz hk ⊢;clear h hr;rcases Dp o with h | h
 ·rcases h with rfl | rfl | rfl | rfl | rfl | rfl | rfl | rfl | rfl | rfl | rfl | rfl | rfl | rfl | rfl | rfl | rfl | rfl | rfl | rfl | rfl
  ·have HX:=aa hk;clear hk hz;have HW:=aa (ax w.heap.size w);go_enter cv,bY;obtain⟨x1,kf,ef,ki,cn,jC,aG⟩:=aW w #[.int .i64 0,.bool b,.slice ao l c,.string nm,.slice ko kl kc] 29;replace HX:=aa (HX.out.below cn.out);replace HW:=aa (HW.out.trans (cn.out.mono HW.out.size));obtain⟨⟨c0,c1,c2,c3,c4⟩,dN,dY,dX,dW,dO⟩:=ay aG.out;go_wp2_with fail;refine (iy _ _ ks [] (d - 1) S x1 HX.out (BL.nil _)).mono ?_;rintro e x2 ⟨rfl,hb⟩;clear c0 dN c1 dY c2 dX c3 dW c4 dO;replace HW:=aa (HW.out.trans (hb.mono HW.out.size));go_wp2_with fail;go_ret;exact⟨by simp[dw,bK],HW.out⟩
  ·have HX:=aa hk;clear hk hz;have HW:=aa (ax w.heap.size w);go_enter cv,bY;obtain⟨x1,kf,ef,ki,cn,jC,aG⟩:=aW w #[.int .i64 1,.bool b,.slice ao l c,.string nm,.slice ko kl kc] 29;replace HX:=aa (HX.out.below cn.out);replace HW:=aa (HW.out.trans (cn.out.mono HW.out.size));obtain⟨⟨c0,c1,c2,c3,c4⟩,dN,dY,dX,dW,dO⟩:=ay aG.out;go_wp2_with fail;refine (iy _ _ ks [] (d - 1) S x1 HX.out (BL.nil _)).mono ?_;rintro e x2 ⟨rfl,hb⟩;clear c0 dN c1 dY c2 dX c3 dW c4 dO;replace HW:=aa (HW.out.trans (hb.mono HW.out.size));go_wp2_with fail;go_ret;exact⟨by simp[dw,bK],HW.out⟩
  ·have HX:=aa hk;clear hk hz;have HW:=aa (ax w.heap.size w);go_enter cv,bY;obtain⟨x1,kf,ef,ki,cn,jC,aG⟩:=aW w #[.int .i64 2,.bool b,.slice ao l c,.string nm,.slice ko kl kc] 29;replace HX:=aa (HX.out.below cn.out);replace HW:=aa (HW.out.trans (cn.out.mono HW.out.size));obtain⟨⟨c0,c1,c2,c3,c4⟩,dN,dY,dX,dW,dO⟩:=ay aG.out;obtain⟨x2,ky,ey,mb,hby,pU,kA⟩:=aW x1 #[.int .i64 0,.int .i64 0] 36;replace HX:=aa (HX.out.below hby.out);replace HW:=aa (HW.out.trans (hby.out.mono HW.out.size));go_wp2_with fail;refine (iy _ _ ks [0,0] (d - 1) S x2 HX.out (BL.block (ss:=[0,0]) kA.out (by decide))).mono ?_;rintro e x3 ⟨rfl,hb⟩;clear c0 dN c1 dY c2 dX c3 dW c4 dO;replace HW:=aa (HW.out.trans (hb.mono HW.out.size))
   go_wp2_with fail;go_ret;exact⟨by simp[dw,bK],HW.out⟩
  ·have HX:=aa hk;clear hk hz;have HW:=aa (ax w.heap.size w);go_enter cv,bY;obtain⟨x1,kf,ef,ki,cn,jC,aG⟩:=aW w #[.int .i64 3,.bool b,.slice ao l c,.string nm,.slice ko kl kc] 29;replace HX:=aa (HX.out.below cn.out);replace HW:=aa (HW.out.trans (cn.out.mono HW.out.size));obtain⟨⟨c0,c1,c2,c3,c4⟩,dN,dY,dX,dW,dO⟩:=ay aG.out;obtain⟨x2,ky,ey,mb,hby,pU,kA⟩:=aW x1 #[.int .i64 0] 36;replace HX:=aa (HX.out.below hby.out);replace HW:=aa (HW.out.trans (hby.out.mono HW.out.size));go_wp2_with fail;refine (iy _ _ ks [0] (d - 1) S x2 HX.out (BL.block (ss:=[0]) kA.out (by decide))).mono ?_;rintro e x3 ⟨rfl,hb⟩;clear c0 dN c1 dY c2 dX c3 dW c4 dO;replace HW:=aa (HW.out.trans (hb.mono HW.out.size));go_wp2_with fail
   go_ret;exact⟨by simp[dw,bK],HW.out⟩
  ·have HX:=aa hk;clear hk hz;have HW:=aa (ax w.heap.size w);go_enter cv,bY;obtain⟨x1,kf,ef,ki,cn,jC,aG⟩:=aW w #[.int .i64 4,.bool b,.slice ao l c,.string nm,.slice ko kl kc] 29;replace HX:=aa (HX.out.below cn.out);replace HW:=aa (HW.out.trans (cn.out.mono HW.out.size));obtain⟨⟨c0,c1,c2,c3,c4⟩,dN,dY,dX,dW,dO⟩:=ay aG.out;obtain⟨x2,ky,ey,mb,hby,pU,kA⟩:=aW x1 #[.int .i64 0,.int .i64 0] 36;replace HX:=aa (HX.out.below hby.out);replace HW:=aa (HW.out.trans (hby.out.mono HW.out.size));go_wp2_with fail;refine (iy _ _ ks [0,0] (d - 1) S x2 HX.out (BL.block (ss:=[0,0]) kA.out (by decide))).mono ?_;rintro e x3 ⟨rfl,hb⟩;clear c0 dN c1 dY c2 dX c3 dW c4 dO;replace HW:=aa (HW.out.trans (hb.mono HW.out.size))
   go_wp2_with fail;go_ret;exact⟨by simp[dw,bK],HW.out⟩
  ·have HX:=aa hk;have HZ:=aa hz;clear hk hz;have HW:=aa (ax w.heap.size w);go_enter cv,bY;obtain⟨x1,kf,ef,ki,cn,jC,aG⟩:=aW w #[.int .i64 5,.bool b,.slice ao l c,.string nm,.slice ko kl kc] 29;replace HX:=aa (HX.out.below cn.out);replace HZ:=aa (HZ.out.below cn.out);replace HW:=aa (HW.out.trans (cn.out.mono HW.out.size));obtain⟨⟨c0,c1,c2,c3,c4⟩,dN,dY,dX,dW,dO⟩:=ay aG.out;go_wp2_with fail;refine (fB _ z 600 x1 HZ.out.gi (by decide)).mono ?_;rintro e x2 ⟨rfl,hb⟩;replace aG:=bM hb aG;replace HX:=aa (HX.out.below hb);replace HW:=aa (HW.out.trans (hb.mono HW.out.size));clear c0 dN c1 dY c2 dX c3 dW c4 dO;clear hb;obtain⟨⟨c0,c1,c2,c3,c4⟩,dN,dY,dX,dW,dO⟩:=ay aG.out;by_cases hs:z<1
   ·have hlt:decide (dQ z<1)=true:=by unfold dQ;(repeat' split)<;>first | rfl | (simp;omega) | (exfalso;omega)
    have hfit:dw 5 z (di ks)=false:=by simp[dw,bK];omega
    go_wp2_with fail;go_ret;exact⟨by rw[hfit];rfl,HW.out⟩
   have hlt:decide (dQ z<1)=false:=by unfold dQ;(repeat' split)<;>first | rfl | (simp;omega) | (exfalso;omega)
   have iq:decide (1<=z)=true:=by simp;omega
   obtain⟨x3,ky,ey,mb,hby,pU,kA⟩:=aW x2 #[.int .i64 0] 36;replace HX:=aa (HX.out.below hby.out);replace HW:=aa (HW.out.trans (hby.out.mono HW.out.size));go_wp2_with fail;refine (iy _ _ ks [0] (d - 1) S x3 HX.out (BL.block (ss:=[0]) kA.out (by decide))).mono ?_;rintro e x4 ⟨rfl,hb⟩;clear c0 dN c1 dY c2 dX c3 dW c4 dO;replace HW:=aa (HW.out.trans (hb.mono HW.out.size));go_wp2_with fail;go_ret;exact⟨by simp[dw,bK,iq],HW.out⟩
  ·have HX:=aa hk;clear hk hz;have HW:=aa (ax w.heap.size w);go_enter cv,bY;obtain⟨x1,kf,ef,ki,cn,jC,aG⟩:=aW w #[.int .i64 6,.bool b,.slice ao l c,.string nm,.slice ko kl kc] 29;replace HX:=aa (HX.out.below cn.out);replace HW:=aa (HW.out.trans (cn.out.mono HW.out.size));obtain⟨⟨c0,c1,c2,c3,c4⟩,dN,dY,dX,dW,dO⟩:=ay aG.out;obtain⟨x2,ky,ey,mb,hby,pU,kA⟩:=aW x1 #[.int .i64 2] 36;replace HX:=aa (HX.out.below hby.out);replace HW:=aa (HW.out.trans (hby.out.mono HW.out.size));go_wp2_with fail;refine (iy _ _ ks [2] (d - 1) S x2 HX.out (BL.block (ss:=[2]) kA.out (by decide))).mono ?_;rintro e x3 ⟨rfl,hb⟩;clear c0 dN c1 dY c2 dX c3 dW c4 dO;replace HW:=aa (HW.out.trans (hb.mono HW.out.size));go_wp2_with fail
   go_ret;exact⟨by simp[dw,bK],HW.out⟩
  ·have HX:=aa hk;clear hk hz;have HW:=aa (ax w.heap.size w);go_enter cv,bY;obtain⟨x1,kf,ef,ki,cn,jC,aG⟩:=aW w #[.int .i64 7,.bool b,.slice ao l c,.string nm,.slice ko kl kc] 29;replace HX:=aa (HX.out.below cn.out);replace HW:=aa (HW.out.trans (cn.out.mono HW.out.size));obtain⟨⟨c0,c1,c2,c3,c4⟩,dN,dY,dX,dW,dO⟩:=ay aG.out;obtain⟨x2,ky,ey,mb,hby,pU,kA⟩:=aW x1 #[.int .i64 2] 36;replace HX:=aa (HX.out.below hby.out);replace HW:=aa (HW.out.trans (hby.out.mono HW.out.size));go_wp2_with fail;refine (iy _ _ ks [2] (d - 1) S x2 HX.out (BL.block (ss:=[2]) kA.out (by decide))).mono ?_;rintro e x3 ⟨rfl,hb⟩;clear c0 dN c1 dY c2 dX c3 dW c4 dO;replace HW:=aa (HW.out.trans (hb.mono HW.out.size));go_wp2_with fail
   go_ret;exact⟨by simp[dw,bK],HW.out⟩
  ·have HX:=aa hk;clear hk hz;have HW:=aa (ax w.heap.size w);go_enter cv,bY;obtain⟨x1,kf,ef,ki,cn,jC,aG⟩:=aW w #[.int .i64 8,.bool b,.slice ao l c,.string nm,.slice ko kl kc] 29;replace HX:=aa (HX.out.below cn.out);replace HW:=aa (HW.out.trans (cn.out.mono HW.out.size));obtain⟨⟨c0,c1,c2,c3,c4⟩,dN,dY,dX,dW,dO⟩:=ay aG.out;go_wp2_with fail;refine (iy _ _ ks [] (d - 1) S x1 HX.out (BL.nil _)).mono ?_;rintro e x2 ⟨rfl,hb⟩;clear c0 dN c1 dY c2 dX c3 dW c4 dO;replace HW:=aa (HW.out.trans (hb.mono HW.out.size));go_wp2_with fail;go_ret;exact⟨by simp[dw,bK],HW.out⟩
  ·have HX:=aa hk;clear hk hz;have HW:=aa (ax w.heap.size w);go_enter cv,bY;obtain⟨x1,kf,ef,ki,cn,jC,aG⟩:=aW w #[.int .i64 9,.bool b,.slice ao l c,.string nm,.slice ko kl kc] 29;replace HX:=aa (HX.out.below cn.out);replace HW:=aa (HW.out.trans (cn.out.mono HW.out.size));obtain⟨⟨c0,c1,c2,c3,c4⟩,dN,dY,dX,dW,dO⟩:=ay aG.out;go_wp2_with fail;refine (iy _ _ ks [] (d - 1) S x1 HX.out (BL.nil _)).mono ?_;rintro e x2 ⟨rfl,hb⟩;clear c0 dN c1 dY c2 dX c3 dW c4 dO;replace HW:=aa (HW.out.trans (hb.mono HW.out.size));go_wp2_with fail;go_ret;exact⟨by simp[dw,bK],HW.out⟩
  ·have HX:=aa hk;clear hk hz;have HW:=aa (ax w.heap.size w);go_enter cv,bY;obtain⟨x1,kf,ef,ki,cn,jC,aG⟩:=aW w #[.int .i64 10,.bool b,.slice ao l c,.string nm,.slice ko kl kc] 29;replace HX:=aa (HX.out.below cn.out);replace HW:=aa (HW.out.trans (cn.out.mono HW.out.size));obtain⟨⟨c0,c1,c2,c3,c4⟩,dN,dY,dX,dW,dO⟩:=ay aG.out;obtain⟨x2,ky,ey,mb,hby,pU,kA⟩:=aW x1 #[.int .i64 0,.int .i64 2] 36;replace HX:=aa (HX.out.below hby.out);replace HW:=aa (HW.out.trans (hby.out.mono HW.out.size));go_wp2_with fail;refine (iy _ _ ks [0,2] (d - 1) S x2 HX.out (BL.block (ss:=[0,2]) kA.out (by decide))).mono ?_;rintro e x3 ⟨rfl,hb⟩;clear c0 dN c1 dY c2 dX c3 dW c4 dO;replace HW:=aa (HW.out.trans (hb.mono HW.out.size))
   go_wp2_with fail;go_ret;exact⟨by simp[dw,bK],HW.out⟩
  ·have HX:=aa hk;clear hk hz;have HW:=aa (ax w.heap.size w);go_enter cv,bY;obtain⟨x1,kf,ef,ki,cn,jC,aG⟩:=aW w #[.int .i64 11,.bool b,.slice ao l c,.string nm,.slice ko kl kc] 29;replace HX:=aa (HX.out.below cn.out);replace HW:=aa (HW.out.trans (cn.out.mono HW.out.size));obtain⟨⟨c0,c1,c2,c3,c4⟩,dN,dY,dX,dW,dO⟩:=ay aG.out;obtain⟨x2,ky,ey,mb,hby,pU,kA⟩:=aW x1 #[.int .i64 2] 36;replace HX:=aa (HX.out.below hby.out);replace HW:=aa (HW.out.trans (hby.out.mono HW.out.size));go_wp2_with fail;refine (iy _ _ ks [2] (d - 1) S x2 HX.out (BL.block (ss:=[2]) kA.out (by decide))).mono ?_;rintro e x3 ⟨rfl,hb⟩;clear c0 dN c1 dY c2 dX c3 dW c4 dO;replace HW:=aa (HW.out.trans (hb.mono HW.out.size))
   go_wp2_with fail;go_ret;exact⟨by simp[dw,bK],HW.out⟩
  ·have HX:=aa hk;clear hk hz;have HW:=aa (ax w.heap.size w);go_enter cv,bY;obtain⟨x1,kf,ef,ki,cn,jC,aG⟩:=aW w #[.int .i64 12,.bool b,.slice ao l c,.string nm,.slice ko kl kc] 29;replace HX:=aa (HX.out.below cn.out);replace HW:=aa (HW.out.trans (cn.out.mono HW.out.size));obtain⟨⟨c0,c1,c2,c3,c4⟩,dN,dY,dX,dW,dO⟩:=ay aG.out;go_wp2_with fail;refine (iy _ _ ks [] (d - 1) S x1 HX.out (BL.nil _)).mono ?_;rintro e x2 ⟨rfl,hb⟩;clear c0 dN c1 dY c2 dX c3 dW c4 dO;replace HW:=aa (HW.out.trans (hb.mono HW.out.size));go_wp2_with fail;go_ret;exact⟨by simp[dw,bK],HW.out⟩
  ·have HX:=aa hk;clear hk hz;have HW:=aa (ax w.heap.size w);go_enter cv,bY;obtain⟨x1,kf,ef,ki,cn,jC,aG⟩:=aW w #[.int .i64 13,.bool b,.slice ao l c,.string nm,.slice ko kl kc] 29;replace HX:=aa (HX.out.below cn.out);replace HW:=aa (HW.out.trans (cn.out.mono HW.out.size));obtain⟨⟨c0,c1,c2,c3,c4⟩,dN,dY,dX,dW,dO⟩:=ay aG.out;go_wp2_with fail;refine (iy _ _ ks [] (d - 1) S x1 HX.out (BL.nil _)).mono ?_;rintro e x2 ⟨rfl,hb⟩;clear c0 dN c1 dY c2 dX c3 dW c4 dO;replace HW:=aa (HW.out.trans (hb.mono HW.out.size));go_wp2_with fail;go_ret;exact⟨by simp[dw,bK],HW.out⟩
  ·have HX:=aa hk;clear hk hz;have HW:=aa (ax w.heap.size w);go_enter cv,bY;obtain⟨x1,kf,ef,ki,cn,jC,aG⟩:=aW w #[.int .i64 14,.bool b,.slice ao l c,.string nm,.slice ko kl kc] 29;replace HX:=aa (HX.out.below cn.out);replace HW:=aa (HW.out.trans (cn.out.mono HW.out.size));obtain⟨⟨c0,c1,c2,c3,c4⟩,dN,dY,dX,dW,dO⟩:=ay aG.out;go_wp2_with fail;refine (iy _ _ ks [] (d - 1) S x1 HX.out (BL.nil _)).mono ?_;rintro e x2 ⟨rfl,hb⟩;clear c0 dN c1 dY c2 dX c3 dW c4 dO;replace HW:=aa (HW.out.trans (hb.mono HW.out.size));go_wp2_with fail;go_ret;exact⟨by simp[dw,bK],HW.out⟩
  ·have HX:=aa hk;clear hk hz;have HW:=aa (ax w.heap.size w);go_enter cv,bY;obtain⟨x1,kf,ef,ki,cn,jC,aG⟩:=aW w #[.int .i64 15,.bool b,.slice ao l c,.string nm,.slice ko kl kc] 29;replace HX:=aa (HX.out.below cn.out);replace HW:=aa (HW.out.trans (cn.out.mono HW.out.size));obtain⟨⟨c0,c1,c2,c3,c4⟩,dN,dY,dX,dW,dO⟩:=ay aG.out;obtain⟨x2,ky,ey,mb,hby,pU,kA⟩:=aW x1 #[.int .i64 0,.int .i64 0] 36;replace HX:=aa (HX.out.below hby.out);replace HW:=aa (HW.out.trans (hby.out.mono HW.out.size));go_wp2_with fail;refine (iy _ _ ks [0,0] (d - 1) S x2 HX.out (BL.block (ss:=[0,0]) kA.out (by decide))).mono ?_;rintro e x3 ⟨rfl,hb⟩;clear c0 dN c1 dY c2 dX c3 dW c4 dO;replace HW:=aa (HW.out.trans (hb.mono HW.out.size))
   go_wp2_with fail;go_ret;exact⟨by simp[dw,bK],HW.out⟩
  ·have HX:=aa hk;clear hk hz;have HW:=aa (ax w.heap.size w);go_enter cv,bY;obtain⟨x1,kf,ef,ki,cn,jC,aG⟩:=aW w #[.int .i64 16,.bool b,.slice ao l c,.string nm,.slice ko kl kc] 29;replace HX:=aa (HX.out.below cn.out);replace HW:=aa (HW.out.trans (cn.out.mono HW.out.size));obtain⟨⟨c0,c1,c2,c3,c4⟩,dN,dY,dX,dW,dO⟩:=ay aG.out;obtain⟨x2,ky,ey,mb,hby,pU,kA⟩:=aW x1 #[.int .i64 0,.int .i64 0] 36;replace aG:=bM hby.out aG;replace HX:=aa (HX.out.below hby.out);replace HW:=aa (HW.out.trans (hby.out.mono HW.out.size));go_wp2_with fail;refine (iy _ _ ks [0,0] (d - 1) S x2 HX.out (BL.block (ss:=[0,0]) kA.out (by decide))).mono ?_;rintro e x3 ⟨rfl,hb⟩;clear c0 dN c1 dY c2 dX c3 dW c4 dO;replace aG:=bM hb aG
   replace HX:=aa (HX.out.below hb);replace HW:=aa (HW.out.trans (hb.mono HW.out.size));obtain⟨⟨c0,c1,c2,c3,c4⟩,dN,dY,dX,dW,dO⟩:=ay aG.out;by_cases hs:di ks=[0,0]
   ·rw[decide_eq_true hs];go_wp2_with fail;go_ret;exact⟨by simp[dw,bK,hs],HW.out⟩
   rw[decide_eq_false hs];obtain⟨x4,kt,et,Iz,ir,lZ,wY⟩:=aW x3 #[.int .i64 2,.int .i64 2] 36;replace HX:=aa (HX.out.below ir.out);replace HW:=aa (HW.out.trans (ir.out.mono HW.out.size));go_wp2_with fail;refine (iy _ _ ks [2,2] (d - 1) S x4 HX.out (BL.block (ss:=[2,2]) wY.out (by decide))).mono ?_;rintro e x5 ⟨rfl,hb⟩;clear c0 dN c1 dY c2 dX c3 dW c4 dO;replace HW:=aa (HW.out.trans (hb.mono HW.out.size));go_wp2_with fail;go_ret;exact⟨by simp[dw,bK,hs],HW.out⟩
  ·have HX:=aa hk;clear hk hz;have HW:=aa (ax w.heap.size w);go_enter cv,bY;obtain⟨x1,kf,ef,ki,cn,jC,aG⟩:=aW w #[.int .i64 17,.bool b,.slice ao l c,.string nm,.slice ko kl kc] 29;replace HX:=aa (HX.out.below cn.out);replace HW:=aa (HW.out.trans (cn.out.mono HW.out.size));obtain⟨⟨c0,c1,c2,c3,c4⟩,dN,dY,dX,dW,dO⟩:=ay aG.out;obtain⟨x2,ky,ey,mb,hby,pU,kA⟩:=aW x1 #[.int .i64 1] 36;replace HX:=aa (HX.out.below hby.out);replace HW:=aa (HW.out.trans (hby.out.mono HW.out.size));go_wp2_with fail;refine (iy _ _ ks [1] (d - 1) S x2 HX.out (BL.block (ss:=[1]) kA.out (by decide))).mono ?_;rintro e x3 ⟨rfl,hb⟩;clear c0 dN c1 dY c2 dX c3 dW c4 dO;replace HW:=aa (HW.out.trans (hb.mono HW.out.size))
   go_wp2_with fail;go_ret;exact⟨by simp[dw,bK],HW.out⟩
  ·have HX:=aa hk;clear hk hz;have HW:=aa (ax w.heap.size w);go_enter cv,bY;obtain⟨x1,kf,ef,ki,cn,jC,aG⟩:=aW w #[.int .i64 18,.bool b,.slice ao l c,.string nm,.slice ko kl kc] 29;replace HX:=aa (HX.out.below cn.out);replace HW:=aa (HW.out.trans (cn.out.mono HW.out.size));obtain⟨⟨c0,c1,c2,c3,c4⟩,dN,dY,dX,dW,dO⟩:=ay aG.out;go_wp2_with fail;refine (yL _ 1 ks (d - 1) S x1 HX.out).mono ?_;rintro e x2 ⟨rfl,hb⟩;clear c0 dN c1 dY c2 dX c3 dW c4 dO;replace HW:=aa (HW.out.trans (hb.mono HW.out.size));go_wp2_with fail;go_ret;exact⟨by simp[dw,bK],HW.out⟩
  ·have HX:=aa hk;clear hk hz;have HW:=aa (ax w.heap.size w);go_enter cv,bY;obtain⟨x1,kf,ef,ki,cn,jC,aG⟩:=aW w #[.int .i64 19,.bool b,.slice ao l c,.string nm,.slice ko kl kc] 29;replace HX:=aa (HX.out.below cn.out);replace HW:=aa (HW.out.trans (cn.out.mono HW.out.size));obtain⟨⟨c0,c1,c2,c3,c4⟩,dN,dY,dX,dW,dO⟩:=ay aG.out;go_wp2_with fail;refine (yL _ 1 ks (d - 1) S x1 HX.out).mono ?_;rintro e x2 ⟨rfl,hb⟩;clear c0 dN c1 dY c2 dX c3 dW c4 dO;replace HW:=aa (HW.out.trans (hb.mono HW.out.size));go_wp2_with fail;go_ret;exact⟨by simp[dw,bK],HW.out⟩
  have HX:=aa hk;clear hk hz;have HW:=aa (ax w.heap.size w);go_enter cv,bY;obtain⟨x1,kf,ef,ki,cn,jC,aG⟩:=aW w #[.int .i64 20,.bool b,.slice ao l c,.string nm,.slice ko kl kc] 29;replace HX:=aa (HX.out.below cn.out);replace HW:=aa (HW.out.trans (cn.out.mono HW.out.size));obtain⟨⟨c0,c1,c2,c3,c4⟩,dN,dY,dX,dW,dO⟩:=ay aG.out;obtain⟨x2,ky,ey,mb,hby,pU,kA⟩:=aW x1 #[.int .i64 1,.int .i64 1] 36;replace HX:=aa (HX.out.below hby.out);replace HW:=aa (HW.out.trans (hby.out.mono HW.out.size));go_wp2_with fail;refine (iy _ _ ks [1,1] (d - 1) S x2 HX.out (BL.block (ss:=[1,1]) kA.out (by decide))).mono ?_;rintro e x3 ⟨rfl,hb⟩;clear c0 dN c1 dY c2 dX c3 dW c4 dO;replace HW:=aa (HW.out.trans (hb.mono HW.out.size))
  go_wp2_with fail;go_ret;exact⟨by simp[dw,bK],HW.out⟩
 have n0:(o==0)=false:=beq_eq_false_iff_ne.2 (by omega);have n1:(o==1)=false:=beq_eq_false_iff_ne.2 (by omega);have n2:(o==2)=false:=beq_eq_false_iff_ne.2 (by omega);have n3:(o==3)=false:=beq_eq_false_iff_ne.2 (by omega);have n4:(o==4)=false:=beq_eq_false_iff_ne.2 (by omega);have n5:(o==5)=false:=beq_eq_false_iff_ne.2 (by omega);have n6:(o==6)=false:=beq_eq_false_iff_ne.2 (by omega);have n7:(o==7)=false:=beq_eq_false_iff_ne.2 (by omega);have n8:(o==8)=false:=beq_eq_false_iff_ne.2 (by omega);have n9:(o==9)=false:=beq_eq_false_iff_ne.2 (by omega);have WK:(o==10)=false:=beq_eq_false_iff_ne.2 (by omega);have WJ:(o==11)=false:=beq_eq_false_iff_ne.2 (by omega);have WI:(o==12)=false:=beq_eq_false_iff_ne.2 (by omega);have n13:(o==13)=false:=beq_eq_false_iff_ne.2 (by omega)
 have Mo:(o==14)=false:=beq_eq_false_iff_ne.2 (by omega);have n15:(o==15)=false:=beq_eq_false_iff_ne.2 (by omega);have n16:(o==16)=false:=beq_eq_false_iff_ne.2 (by omega);have n17:(o==17)=false:=beq_eq_false_iff_ne.2 (by omega);have n18:(o==18)=false:=beq_eq_false_iff_ne.2 (by omega);have n19:(o==19)=false:=beq_eq_false_iff_ne.2 (by omega);have n20:(o==20)=false:=beq_eq_false_iff_ne.2 (by omega);have hf:dw o z (di ks)=false:=by
  unfold dw bK;rw[if_neg (by omega),if_neg (by omega),if_neg (by omega),if_neg (by omega),if_neg (by omega),if_neg (by omega),if_neg (by omega),if_neg (by omega),if_neg (by omega)];rfl
 clear h;have HW:=aa ((ax w.heap.size w).alloc (ag _) (.cells #[.int .i64 o,.bool b,.slice ao l c,.string nm,.slice ko kl kc] 29));clear hk hz;go_enter cv,bY;go_wp2_with fail;go_ret;exact⟨by rw[hf];rfl,HW.out⟩
theorem IF (v:ak) (z:Int) (k:Nat) (w:af) (h:CI w v z k) :
  aV aj 65 #[v] w fun e w'=>e=.returned (.bool true)/\aB w.heap.size w w':=by
 obtain⟨va,rfl,h1,-⟩:=h;obtain⟨ao,cap,rfl,h2,h3,h4,h5⟩:=h1;by_cases h0:z=0
 ·subst h0;have e0:(fJ bf (Int.natAbs 0)).length=0:=by rw[Int.natAbs_zero,fF];rfl
  rw[e0] at h2 ⊢;rw[show decide ((0:Int)<0)=false from rfl];have HW:=aa ((ax w.heap.size w).alloc (ag _) (.cells #[.bool false,.slice ao 0 cap] 26));clear h5;go_enter Tryz.func65,Tryz.ntmps65;go_wp2_with fail;go_ret;exact⟨rfl,HW.out⟩
 have hp:0<(fJ bf z.natAbs).length:=rP (by omega);have hl:=yE (B:=bf) (by decide) hp;obtain⟨a,rfl,hc⟩:=h5 ((fJ bf z.natAbs).length - 1) (by omega);clear h5;have zU:nth (fJ bf z.natAbs) ((fJ bf z.natAbs).length - 1)≠0:=by unfold nth;simpa using hl
 clear hl;generalize nth (fJ bf z.natAbs) ((fJ bf z.natAbs).length - 1)=x at hc zU;generalize (fJ bf z.natAbs).length=n at *;generalize decide (z<0)=sg at *;have hne:(x != 0)=true:=by rw[bne_iff_ne];omega
 have H_:(((n:Nat):Int)==0)=false:=beq_eq_false_iff_ne.2 (by omega);have hcap:cap<=9223372036854775807:=h3;have hb:=(ax w.heap.size w).alloc (ag _) (.cells #[.bool sg,.slice (some a) n cap] 26);have HW:=aa hb;rw[<-hb.cell (World.block_lt_of_cell? w _ hc)] at hc;clear zU hb h0;have hsub:((n:Nat):Int) - 1=((n - 1:Nat):Int):=by omega
 go_enter Tryz.func65,Tryz.ntmps65;go_wp2_with fail;go_ret;exact⟨rfl,HW.out⟩
theorem De (ks:List F) (j:Nat) (h:j<ks.length):rts (ks.take (j+1))=(rts (ks.take j) && rt ks[j]):=by
 rw[aT h,jn,List.all_append,jn];simp
theorem BR {ks:List F} {j:Nat} (h:j<ks.length) (hr:rt ks[j]=false):rts ks=false:=by
 rw[jn,List.all_eq_false];exact⟨_,bS h,by simp[hr]⟩
theorem AX (d:Nat):∀ (v:ak) (t:F) (S:Nat->Prop) (w:af),FC w S d v t ->
  aV aj 17 #[v] w fun e w'=>e=.returned (.bool (rt t))/\aB w.heap.size w w':=by
 induction d with
 | zero=>intro v t S w h;obtain⟨_,_,_,_,_,_,_,_,_,h0,_⟩:=h.open;omega
 | succ d ih =>
  intro v t S w h;obtain⟨b,ao,l,c,ko,kl,kc,rfl,⟨hr,hz,kU,hkc,hkm⟩,-,hk⟩:=h.open;obtain⟨o,z,nm,ks⟩:=t;simp only[F.op,F.num,F.name,F.kids] at hr hz hk kU h ⊢;obtain⟨n,hn⟩:∃ n,n=ks.length:=⟨_,rfl⟩;rw[<-hn] at kU;subst kU;have HN:=aa hn;clear hn hr;have HX:=aa hk;have HZ:=aa hz;have Pz:=aa h;have IH:=aa ih;clear hk hz h ih;have HW:=aa (ax w.heap.size w);have uI:kc<=9223372036854775807:=hkm;go_enter Tryz.func17,Tryz.ntmps17;obtain⟨x1,kf,ef,ki,cn,jC,aG⟩:=aW w #[.int .i64 o,.bool b,.slice ao l c,.string nm,.slice ko kl kc] 29;replace HX:=aa (HX.out.below cn.out);replace HZ:=aa (HZ.out.below cn.out);replace Pz:=aa (Pz.out.below cn.out);replace HW:=aa (HW.out.trans (cn.out.mono HW.out.size))
  obtain⟨⟨c0,c1,c2,c3,c4⟩,dN,dY,dX,dW,dO⟩:=ay aG.out;go_wp2_with fail;refine (Lx _ (.node o z nm ks) (d+1) S x1 Pz.out).mono ?_;rintro e x2 ⟨rfl,hb⟩;clear c0 dN c1 dY c2 dX c3 dW c4 dO;replace aG:=bM hb aG;replace HX:=aa (HX.out.below hb);replace HZ:=aa (HZ.out.below hb);replace HW:=aa (HW.out.trans (hb.mono HW.out.size));simp only[F.op,F.num,F.kids];have pT:rt (.node o z nm ks)=(dw o z (di ks) && rts ks):=by rw[rt]
  generalize dw o z (di ks)=p at pT ⊢;obtain⟨⟨c0,c1,c2,c3,c4⟩,dN,dY,dX,dW,dO⟩:=ay aG.out;cases p with
  | false =>
   go_wp2_with fail;go_ret;exact⟨by rw[pT];rfl,HW.out⟩
  | true =>
   go_wp2_with fail;refine (IF _ z 600 x2 HZ.out).mono ?_;rintro e x3 ⟨rfl,hb⟩;clear c0 dN c1 dY c2 dX c3 dW c4 dO;replace aG:=bM hb aG;replace HX:=aa (HX.out.below hb);replace HW:=aa (HW.out.trans (hb.mono HW.out.size));obtain⟨⟨c0,c1,c2,c3,c4⟩,dN,dY,dX,dW,dO⟩:=ay aG.out;go_wp2_with fail;clear c0 dN c1 dY c2 dX c3 dW c4 dO;go_loopw [17] (fun i wr=>∃ j:Nat,i=.int .i64 (j:Nat)/\j<=kl/\Hid (rts (ks.take j)=true)/\Hid (aB x3.heap.size x3 wr)) (fun i _=>kl - (eT i).toNat)
   case atStart=>exact⟨0,rfl,ah _,aa rfl,aa (ax _ _)⟩
   case round =>
    obtain⟨j,rfl,hj,HT,HB⟩:=hrel;replace HX:=aa (HX.out.below HB.out);replace HW:=aa (HW.out.trans (HB.out.mono HW.out.size));by_cases hlt:j<kl
    ·have hz:j<ks.length:=by rw[<-HN.out];exact hlt
     obtain⟨a,bb,qo,ql,qc,po,pl,pc,rfl,⟨c0,c1,c2,c3,c4⟩,hf⟩:=HX.out.cells j hz;have Cz:=aa hf;clear hf;obtain⟨x,uh⟩:∃ x,x=ks[j].op:=⟨_,rfl⟩;obtain⟨ym,hnm⟩:∃ x,x=ks[j].name:=⟨_,rfl⟩;rw[<-uh] at c0 Cz;rw[<-hnm] at c3 Cz;clear uh hnm;obtain⟨x4,k8,e8,UK,CL,NZ,PE⟩:=aW wr #[.int .i64 x,.bool bb,.slice qo ql qc,.string ym,.slice po pl pc] 29;replace HW:=aa (HW.out.trans (CL.out.mono HW.out.size));replace HB:=aa (HB.out.trans (CL.out.mono HB.out.size));replace Cz:=aa (Cz.out.below CL.out);obtain⟨⟨g0,g1,g2,g3,g4⟩,ux,uw,uv,uu,ur⟩:=ay PE.out;go_wp2_with fail;refine (IH.out _ ks[j] S x4 Cz.out).mono ?_;rintro e x5 ⟨rfl,hb⟩;clear g0 ux g1 uw g2 uv g3 uu g4 ur;replace HW:=aa (HW.out.trans (hb.mono HW.out.size))
     replace HB:=aa (HB.out.trans (hb.mono HB.out.size));clear hb Cz;have mw:=aa (De ks j hz);have FH:=aa (BR hz);rw[HT.out] at mw;generalize rt ks[j]=p at mw FH ⊢;cases p with
     | true =>
      go_wp2_with fail;go_roundw
      case rel=>exact⟨j+1,by go_num,hlt,mw,HB⟩
      case measure=>simp[eT];omega
     | false =>
      go_wp2_with fail;go_ret;exact⟨by rw[pT,FH.out (by trivial)];rfl,HW.out⟩
    go_wp2_with fail;go_ret;have e:=HT.out;rw[show j=kl by omega,HN.out,cz] at e;exact⟨by rw[pT,e];rfl,HW.out⟩
end Go.Proofs.YtoncclhbdkjhmaaGreatDoor
namespace Go.Proofs.YtoncclhbdkjhmaaGreatDoor
open Go.RowKit Go.Shelf
set_option maxRecDepth 100000
set_option linter.unusedVariables false
set_option linter.unusedSimpArgs false
attribute [local go_sem] Oper.semAt_some
theorem D0:(Tryz.prog.info? 44).map (fun i=>(i.zero,i.size,i.bytes))=some (some (.agg #[.string ⟨#[]⟩,.int .i64 0,.bool false,.slice none 0 0,.bool false,.slice none 0 0]),6,88):=by kernel_rfl
structure BU where
 nm:ByteArray
 u:VU
def bC (b:BU):List ak:=.string b.nm::vC b.u
def bV (b:BU):ak:=.agg #[.string b.nm,.int .i64 b.u.k,.bool (decide (b.u.n.z<0)),.slice b.u.n.o b.u.n.l b.u.n.c,.bool b.u.b,.slice b.u.lo b.u.ll b.u.lc]
def bE:El BU where
 e:=44
 t:=32
 n:=6
 b:=88
 z:=.agg #[.string ⟨#[]⟩,.int .i64 0,.bool false,.slice none 0 0,.bool false,.slice none 0 0]
 f:=bC
 R w b:=VR w b.u
 ok e':=26≠e'
 pos:=by decide
 CP:=by decide
 zs:=rfl
 z32:=by intro u hu z;simp only[Value.cells,aP,aK,or_false] at hu;rcases hu with rfl | rfl | rfl | rfl | rfl | rfl<;>(intro h;cases h)
 ht:=Tryz.underlying32
 info:=D0
 len _:=rfl
 one n:=by
  intro u hu;simp only[bC,vC,aP,aK,or_false] at hu;rcases hu with rfl | rfl | rfl | rfl | rfl | rfl<;>rfl
 n32 n:=by
  intro u hu z;simp only[bC,vC,aP,aK,or_false] at hu;rcases hu with rfl | rfl | rfl | rfl | rfl | rfl<;>(intro h;cases h)
 fr ok f h:=VR.fr h ok f
 own:=by decide
def qx (us:List BU):List (ByteArray × V):=us.map fun b=>(b.nm,b.u.x)
def EL (w:af) (v:ak) (env:List (ByteArray × V)):Prop:=∃ us,bE.At w v us/\qx us=env
theorem EL.below {w w':af} {v:ak} {env:List (ByteArray × V)} (h:EL w v env) (hb:aB w.heap.size w w'):EL w' v env:=by
 obtain⟨us,h1,h2⟩:=h;exact⟨us,h1.below hb,h2⟩
theorem oN {w:af} {v:ak} {us:List BU} (h:bE.At w v us):∃ ko kc,v=.slice ko us.length kc/\us.length<=kc/\kc<=bn/\∀ i (hi:i<us.length),∃ a,ko=some a /\
  w.cell? (a.add (i*6))=some (.string us[i].nm)/\w.cell? ⟨(a.add (i*6)).block,(a.add (i*6)).off+1,none⟩=some (.int .i64 us[i].u.k)/\w.cell? ⟨(a.add (i*6)).block,(a.add (i*6)).off+2,none⟩=some (.bool (decide (us[i].u.n.z<0))) /\
  w.cell? ⟨(a.add (i*6)).block,(a.add (i*6)).off+3,none⟩=some (.slice us[i].u.n.o us[i].u.n.l us[i].u.n.c)/\w.cell? ⟨(a.add (i*6)).block,(a.add (i*6)).off+4,none⟩=some (.bool us[i].u.b)/\w.cell? ⟨(a.add (i*6)).block,(a.add (i*6)).off+5,none⟩=some (.slice us[i].u.lo us[i].u.ll us[i].u.lc)/\VR w us[i].u:=by
 obtain⟨ko,kc,rfl,⟨h1,h2,h3⟩,h4⟩:=h;refine⟨ko,kc,rfl,h1,h2,fun i hi=>?_⟩;obtain⟨a,ha,-,h5,h6⟩:=h4 i hi;have g:∀ j q,(bC us[i])[j]?=some q->w.cell? ((a.add (i*6)).add j)=some q:=fun j q hj=>by rw[yO];exact h5 j q hj
 exact⟨a,ha,g 0 _ rfl,g 1 _ rfl,g 2 _ rfl,g 3 _ rfl,g 4 _ rfl,g 5 _ rfl,h6⟩
abbrev YI:=Nat × BU
def yI (x:YI):Array ak:=#[.int .i64 (x.1:Nat),bV x.2]
theorem tP {α:Type} (l:List α) (k:Nat) (h:k<l.length):(l.drop k).reverse=(l.drop (k+1)).reverse++[l[k]]:=by
 rw[eV h,oU]
theorem Ay (F:Fence) (hd:F.depth=none) (hF:∀ f,F.fn f) (hro:F.round=none) (n Bt:Nat) (ve:ak) (us:List BU) (w:af) (hB:w.heap[Bt]?=some (.cells #[ve] 154 (0,0))) (hu:bE.At w ve us) :
  SeqStopsK F n aj 222 #[.pointer (some ⟨Bt,0,none⟩)] yI (aB w.heap.size) (fun xs=>xs.map (·.2)=us.reverse) (fun pre=>∃ k,pre.map (·.2)=(us.drop k).reverse/\k<=us.length) us.length w:=by
 intro l J Jx W hW hJ XO hY h0;obtain⟨ko,kc,rfl,iA,eR,pO⟩:=oN hu;have hkc:kc<=9223372036854775807:=eR;have Is:W.heap[Bt]?=some (.cells #[.slice ko us.length kc] 154 (0,0)):=(hW.block _ (ae hB)).trans hB;have HB:=aa hB;have HU:=aa hu;have HW:=aa hW;have HY:=aa hY;have c0:=aq (v:=.slice ko us.length kc) Is 0 rfl;obtain⟨N,hN⟩:∃ N,N=us.length:=⟨_,rfl⟩;have HN:=aa hN;rw[<-hN] at c0 iA HB HU HY ⊢;have J0:=aa h0;clear hW hJ XO hY h0 hu hB Is pO eR hN;refine callsIn_of_wp Tryz.func222 rfl (hF _) ?_ hro;simp only[Tryz.ntmps222,List.size_toArray,jo,qE,Nat.reduceAdd,Nat.reduceSub,Array.replicate_succ,Array.replicate_zero,List.push_toArray,List.append_toArray,List.nil_append,aM];gi_wp2_with fail
 gi_loopw [3] (fun p wr=>∃ (j:Nat) (pre:List YI),p=.int .i64 ((j:Int) - 1)/\j<=N/\Hid (pre.map (·.2)=(us.drop j).reverse)/\Hid (pre.length+j=N)/\Hid (J pre wr)/\Hid (aB w.heap.size w wr)) (fun p _=>(eT p+1).toNat)
 case atStart=>exact⟨N,[],rfl,ag _,aa (by rw[HN.out,List.drop_length];rfl),aa (by simp),J0,HW⟩
 case round =>
  obtain⟨wl,KS⟩:∃ q,q=wr:=⟨_,rfl⟩;subst KS;clear c0;obtain⟨j,pre,rfl,hj,HP,HL,HJ,I6⟩:=hrel;have Ux:wl.heap[Bt]?=some (.cells #[.slice ko N kc] 154 (0,0)):=(I6.out.block _ (ae HB.out)).trans HB.out;have c0:=aq (v:=.slice ko N kc) Ux 0 rfl;clear Ux;cases j with
  | zero =>
   rw[show ((0:Nat):Int) - 1 = -1 by decide];gi_wp2_with fail;go_end0;exact⟨⟨_,rfl⟩,.inl ⟨pre,by rw[HP.out,List.drop_zero],HJ.out⟩⟩
  | succ k =>
   rw[show ((k+1:Nat):Int) - 1=((k:Nat):Int) by omega];have hkn:k<us.length:=by have:=HN.out;omega
   obtain⟨v_,we,e,-,-,hcs⟩:=oN (HU.out.below I6.out);injection e with e1 e2 e3;subst e1;obtain⟨a,rfl,d0,d1,d2,d3,d4,d5,-⟩:=hcs k hkn;obtain⟨y,KR⟩:∃ y,y=us[k]:=⟨_,rfl⟩;rw[<-KR] at d0 d1 d2 d3 d4 d5;have Vc:=aa KR;have Jr:pre.length<N:=by have:=HL.out;omega
   obtain⟨fn,tmps,assign,body,hy,hR⟩:=HY.out pre (k,y) wl HJ.out Jr;simp only[yI,bV] at hy;clear hcs e2 e3 KR Jr;gi_wp2_with fail;refine hR.mono ?_;clear hR hy c0 d0 d1 d2 d3 d4 d5;rintro e W2 (⟨rfl,Qb,eR⟩ | ⟨rfl,uj⟩)
   ·have Zj:=aa Qb;replace I6:=aa (I6.out.trans eR);clear Qb eR;gi_wp2_with fail;go_roundw
    case rel=>exact⟨k,pre++[(k,y)],rfl,by omega,aa (by rw[tP us k hkn,dF,HP.out,Vc.out];rfl),aa (by have:=HL.out;simp only[dB,jo,qE];omega),Zj,I6⟩
    case measure=>simp[eT]
   have YF:=aa uj;clear uj;gi_wp2_with fail;(try simp only[Exit.inBlock,Exit.then]);refine bodyPost_ret (results_none rfl _ _ _) rfl ?_;exact⟨⟨_,rfl⟩,.inr ⟨_,⟨k,by rw[tP us k hkn,dF,HP.out,Vc.out];rfl,by omega⟩,YF.out⟩⟩
theorem LK (ko:Option cu) (n kc:Nat) (w:af):aV aj 205 #[.slice ko n kc] w fun e w'=>e=.returned (.func (.func 222) #[] #[.pointer (some ⟨w.heap.size,0,none⟩)])/\w'=w.alloc (.cells #[.slice ko n kc] 154):=by
 go_enter Tryz.func205,Tryz.ntmps205;go_wp2_with fail;go_ret;exact⟨rfl,rfl⟩
attribute [local go_sem] Oper.semAt_some
theorem OK {a b:ByteArray} (h:a≠b):(a.toList==b.toList)=false:=beq_eq_false_iff_ne.2 (fun e=>h (by
 rw[ByteArray.toList_eq,ByteArray.toList_eq] at e
 exact ByteArray.ext (Array.toList_inj.1 e)))
theorem LG {a b:ByteArray} (h:a=b):(a.toList==b.toList)=true:=by subst h;exact beq_self_eq_true _
theorem FP (T:Array ak) (k l:Nat) (v u:ak):(#[k,l].zip #[v,u]).foldl (fun t (x:Nat × ak)=>t.setIfInBounds x.1 x.2) T=(T.setIfInBounds k v).setIfInBounds l u:=by simp
theorem j_ {w:af} {g:Nat} {T:aZ} {a0 a1 a2 a3 a4:ak} (h:w.heap[g]?=some (.cells #[a0,a1,a2,a3,a4] T (0,0))) (v0 v1 v2 v3 v4:ak) :
  (((((w.setCell ⟨g,0,none⟩ v0).setCell ⟨g,1,none⟩ v1).setCell ⟨g,2,none⟩ v2).setCell ⟨g,3,none⟩ v3).setCell ⟨g,4,none⟩ v4).heap[g]?=some (.cells #[v0,v1,v2,v3,v4] T (0,0)):=by
 have h0:(w.setCell ⟨g,0,none⟩ v0).heap[g]?=some (.cells #[v0,a1,a2,a3,a4] T (0,0)):=aA _ g 0 _ T v0 h;have h1:((w.setCell ⟨g,0,none⟩ v0).setCell ⟨g,1,none⟩ v1).heap[g]?=some (.cells #[v0,v1,a2,a3,a4] T (0,0)):=aA _ g 1 _ T v1 h0;have h2:(((w.setCell ⟨g,0,none⟩ v0).setCell ⟨g,1,none⟩ v1).setCell ⟨g,2,none⟩ v2).heap[g]?=some (.cells #[v0,v1,v2,a3,a4] T (0,0)):=aA _ g 2 _ T v2 h1;have h3:((((w.setCell ⟨g,0,none⟩ v0).setCell ⟨g,1,none⟩ v1).setCell ⟨g,2,none⟩ v2).setCell ⟨g,3,none⟩ v3).heap[g]?=some (.cells #[v0,v1,v2,v3,a4] T (0,0)):=aA _ g 3 _ T v3 h2;exact aA _ g 4 _ T v4 h3
def KK (x:V) (b:Int):V:=if sU x=b then x else .I 0
theorem VR.sort {w:af} {u:VU} (h:VR w u):u.k=sU u.x:=by
 unfold VR at h
 cases hx:u.x<;>rw[hx] at h<;>exact h.1
theorem q8 {nm:ByteArray}:∀ (l:List (ByteArray × V)) (a:V),(∀ p ∈ l,p.1≠nm)->l.foldl (fun a p=>if p.1=nm then p.2 else a) a=a
 | [],_,_=>rfl
 | q::l,a,h=>by rw[List.foldl_cons,if_neg (h q (by simp))];exact q8 l a (fun p hp=>h p (by simp[hp]))
theorem Dh {env:List (ByteArray × V)} {nm:ByteArray} (h:∀ p ∈ env,p.1≠nm):gM env nm=.I 0:=q8 env _ h
theorem Gw {env:List (ByteArray × V)} {nm:ByteArray} {k:Nat} (hk:k<env.length) (h1:env[k].1=nm) (h2:∀ p ∈ env.drop (k+1),p.1≠nm):gM env nm=env[k].2:=by
 have key:gM (env.take (k+1)++env.drop (k+1)) nm=gM (env.take (k+1)) nm:=by
  unfold gM;rw[List.foldl_append];exact q8 _ _ h2
 rw[k_] at key;rw[key,Dg env nm k hk,if_pos h1]
def O9 (w4:af) (nm:ByteArray) (pre:List YI) (W:af):Prop:=aB w4.heap.size w4 W/\∀ x ∈ pre,x.2.nm≠nm
theorem O9.own (w4:af) (nm:ByteArray):OwnFrom w4.heap.size (O9 w4 nm):=by
 rintro pre W W' row ⟨h1,h2⟩ hg hr;exact⟨⟨hg.os.trans h1.os,hg.tape.trans h1.tape,hg.output.trans h1.output,ai h1.size hg.size,fun k hk=>(hg.block k (by have:=h1.size;omega) (fun e=>by have:=(hr k e.symm).1;omega)).trans (h1.block k hk)⟩,h2⟩
def Qs (w w4:af) (kr:Nat) (nm:ByteArray) (b:Int) (c:Code) (pre:List YI) (W:af):Prop:=
 ∃ pre' x,pre=pre'++[x]/\(∀ y ∈ pre',y.2.nm≠nm)/\x.2.nm=nm/\aB w.heap.size w W/\w4.heap.size<=W.heap.size /\
  ((c=.ret/\x.2.u.k=b/\W.heap[kr]?=some (.cells #[.int .i64 x.2.u.k,.bool (decide (x.2.u.n.z<0)),.slice x.2.u.n.o x.2.u.n.l x.2.u.n.c,.bool x.2.u.b,.slice x.2.u.lo x.2.u.ll x.2.u.lc] 41 (0,0))) \/
   (c=.exit 0/\x.2.u.k≠b/\W.heap[kr]?=some (.cells #[.int .i64 0,.bool false,.slice none 0 0,.bool false,.slice none 0 0] 41 (0,0))))
theorem Qs.own (w w4:af) (kr:Nat) (nm:ByteArray) (b:Int) (c:Code) (hw:w.heap.size<=w4.heap.size) (lj:kr<w4.heap.size):OwnFrom w4.heap.size (Qs w w4 kr nm b c):=by
 rintro pre W W' row ⟨pre',x,h1,h2,h3,h4,h6,h5⟩ hg hr;have hkb:W'.heap[kr]?=W.heap[kr]?:=hg.block kr (by omega) (fun e=>by have:=(hr kr e.symm).1;omega);refine⟨pre',x,h1,h2,h3,⟨hg.os.trans h4.os,hg.tape.trans h4.tape,hg.output.trans h4.output,ai h4.size hg.size,fun k hk=>(hg.block k (by have:=h4.size;omega) (fun e=>by have:=(hr k e.symm).1;omega)).trans (h4.block k hk)⟩,ai h6 hg.size,?_⟩;rw[hkb];exact h5
theorem mH {n₀:Nat} {W:af} {l:Nat} {o o':Obj} (hn:n₀<=l) (h:W.heap[l]?=some o):aB n₀ W (W.putObj l o'):=
 (ax n₀ W).grown (grownBy_putObj' W l o') (by have:=ae h;omega) (fun k e=>by cases e;exact hn)
theorem bF {w W W':af} {g:Nat} (h:aB w.heap.size w W) (hg:W.grownBy W' (some g)) (hk:w.heap.size<=g):aB w.heap.size w W':=
 ⟨hg.os.trans h.os,hg.tape.trans h.tape,hg.output.trans h.output,ai h.size hg.size,fun k eR=>(hg.block k (by have:=h.size;omega) (fun e=>by injection e with e;omega)).trans (h.block k eR)⟩
theorem DH (ve:ak) (env:List (ByteArray × V)) (nm:ByteArray) (b:Int) (w:af) (h:EL w ve env) :
  aV aj 191 #[ve,.string nm,.int .i64 b] w fun e w'=>∃ v,e=.returned v/\VC w' v (KK (gM env nm) b)/\aB w.heap.size w w':=by
 obtain⟨us,hu,rfl⟩:=h;have TT:=hu;obtain⟨ko,kc,rfl,-,-,-⟩:=oN TT;obtain⟨N,hN⟩:∃ N,N=us.length:=⟨_,rfl⟩;rw[<-hN];rw[<-hN] at hu;have HU:=aa hu;have YN:=aa hu;clear hN hu TT;have HW:=aa (ax w.heap.size w);obtain⟨x1,kn,en,uy,jz,hkn,jm⟩:=aW w #[.string nm] 9;replace HU:=aa (El.At.below HU.out jz.out);replace HW:=aa (HW.out.trans (jz.out.mono HW.out.size));have hkn:Hid (w.heap.size<=kn):=aa (by rw[<-uy];exact ag _);obtain⟨x2,kb,eb,Yg,Fv,hkb,oP⟩:=aW x1 #[.int .i64 b] 36;replace jm:=bM Fv.out jm;replace HU:=aa (El.At.below HU.out Fv.out);replace HW:=aa (HW.out.trans (Fv.out.mono HW.out.size))
 obtain⟨x3,kr,er,sG,eY,lj,aR⟩:=aW x2 #[.int .i64 0,.bool false,.slice none 0 0,.bool false,.slice none 0 0] 41;replace jm:=bM eY.out jm;replace oP:=bM eY.out oP;replace HU:=aa (El.At.below HU.out eY.out);replace HW:=aa (HW.out.trans (eY.out.mono HW.out.size));have SI:Hid (w.heap.size<=kr):=aa (by rw[<-sG];exact ai (jz.out.size) (Fv.out.size));obtain⟨x4,kt,et,Iz,ir,lZ,wY⟩:=aW x3 #[.slice ko N kc] 154;replace jm:=bM ir.out jm;replace oP:=bM ir.out oP;replace aR:=bM ir.out aR;replace HU:=aa (El.At.below HU.out ir.out);replace HW:=aa (HW.out.trans (ir.out.mono HW.out.size));have r6:Hid (kr<x4.heap.size/\kn<x4.heap.size/\kb<x4.heap.size):=aa ⟨ae aR.out,ae jm.out,ae oP.out⟩
 refine callsIn_wide.1 (callsIn_of_wp_marks (F:=Fence.wide) (n:=9) Tryz.func191 rfl trivial ?_ rfl);simp only[Tryz.ntmps191,List.size_toArray,jo,qE,Nat.reduceAdd,Nat.reduceSub,Array.replicate_succ,Array.replicate_zero,List.push_toArray,List.append_toArray,List.nil_append,aM];refine wpIn_wide.2 ?_;go_wp2_with (first | (refine (LK ko N kc _).mono ?_;rintro e w' ⟨rfl,rfl⟩;rw[et,Iz]) | fail);refine (wpIn_wide (n:=9)).1 ?_;refine wpIn_rangeFunc_ownH rfl (by decide) (gf:=222) (lb:=#[.pointer (some ⟨kt,0,none⟩)]) rfl trivial (enters_of Tryz.func222 (by kernel_rfl) rfl) (Ay Fence.wide rfl (fun _=>trivial) rfl 8 kt _ us x4 wY.out HU.out) (fun h k=>h.trans k) (fun W l o o' hl h hc _=>mH hl h) (ax _ _) (fun _=>rfl)
  (O9 x4 nm) (Qs w x4 kr nm b) (O9.own _ _) (fun c=>Qs.own _ _ _ _ _ _ HW.out.size r6.out.1) ⟨ax _ _,fun x h=>by cases h⟩
  (fun y a' W=>∃ kp,W.heap[kp]?=some (.cells #[.string y.2.nm,.int .i64 y.2.u.k,.bool (decide (y.2.u.n.z<0)),.slice y.2.u.n.o y.2.u.n.l y.2.u.n.c,.bool y.2.u.b,.slice y.2.u.lo y.2.u.ll y.2.u.lc] 44 (0,0))/\a'=⟨#[.slice ko N kc,.string nm,.int .i64 b,undef,.pointer (some ⟨kn,0,none⟩),.pointer (some ⟨kb,0,none⟩),.pointer (some ⟨kr,0,none⟩),undef,.pointer (some ⟨kp,0,none⟩),.slice ko N kc,.func (.func 222) #[] #[.pointer (some ⟨kt,0,none⟩)],.int .i64 (y.1:Nat),bV y.2,undef,undef,undef,undef,undef,undef,undef,undef,undef,undef,undef,undef],[]⟩) ?hax ?assign ?body ?done ?stop
 case hax =>
  rintro y a' _ W W' row ⟨kp,h1,h2⟩ hg hr;exact⟨kp,(hg.block kp (ae h1) (fun e=>by obtain⟨-,o,ho,hc⟩:=hr kp e.symm;rw[h1] at ho;injection ho with ho;subst ho;cases hc)).trans h1,h2⟩
 case assign =>
  rintro l pre y W K hI hK;have Vw:=aa hK;have Vx:=aa hI;clear hK hI;rw[show yI y=#[.int .i64 (y.1:Nat),bV y.2] from rfl,FP];simp only[bV,List.setIfInBounds_toArray,List.set_cons_succ,bW];gi_wp2_with fail;refine Vw.out _ _ ((KeepsOthers.alloc _ _).from _) (((ax _ _).alloc (ag _) _).mono Vx.out.1.size) ((O9.own _ _).alloc _ Vx.out) ⟨W.heap.size,iI W _ _ rfl,?_⟩;rfl
 case body =>
  rintro l pre y a' W hl - ⟨hI,hpre⟩ ⟨kp,hB,rfl⟩ hlen;obtain⟨i,y⟩:=y;simp only[bV];simp only at hB;have HI:=aa hI;have Ma:=aa hpre;have qG:=aa hB;have Th:=bM hI jm;have Ti:=bM hI oP;have gw:=bM hI aR;clear hI hpre hB hlen;have c0:=aq (v:=.string y.nm) qG.out 0 rfl;have dN:=aY qG.out 0;have c1:=aq (v:=.int .i64 y.u.k) qG.out 1 rfl;have dY:=aY qG.out 1;have c2:=aq (v:=.bool (decide (y.u.n.z<0))) qG.out 2 rfl;have dX:=aY qG.out 2;have c3:=aq (v:=.slice y.u.n.o y.u.n.l y.u.n.c) qG.out 3 rfl;have dW:=aY qG.out 3;have c4:=aq (v:=.bool y.u.b) qG.out 4 rfl;have dO:=aY qG.out 4;have c5:=aq (v:=.slice y.u.lo y.u.ll y.u.lc) qG.out 5 rfl;have fc5:=aY qG.out 5
  have d0:=aq (v:=.string nm) Th.out 0 rfl;have e0:=aq (v:=.int .i64 b) Ti.out 0 rfl;by_cases hnm:y.nm=nm
  ·have hne:(y.nm.toList==nm.toList)=true:=LG hnm;have ML:=aa hnm;clear hnm;by_cases hkb:y.u.k=b
   ·have hkk:(y.u.k==b)=true:=by rw[hkb];exact beq_self_eq_true _
    have yZ:=aa hkb;clear hkb;have f0:=aY gw.out 0;have r0:=aq (v:=.int .i64 0) gw.out 0 rfl;have f1:=aY gw.out 1;have r1:=aq (v:=.bool false) gw.out 1 rfl;have f2:=aY gw.out 2;have r2:=aq (v:=.slice none 0 0) gw.out 2 rfl;have f3:=aY gw.out 3;have r3:=aq (v:=.bool false) gw.out 3 rfl;have f4:=aY gw.out 4;have r4:=aq (v:=.slice none 0 0) gw.out 4 rfl;gi_wp2_with fail;refine⟨KeepsFrom.of_grownBy (row:=some kr) (bJ _ _ _ _ _) (fun j e=>by injection e with e;have:=r6.out.1;omega),pre,(i,y),rfl,Ma.out,ML.out,bF (HW.out.trans (HI.out.mono HW.out.size)) (bJ _ _ _ _ _) SI.out,ai HI.out.size (bJ (k:=kr) _ _ _ _ _).size,.inl ⟨rfl,yZ.out,j_ gw.out _ _ _ _ _⟩⟩
   have hkk:(y.u.k==b)=false:=by rw[beq_eq_false_iff_ne];exact hkb
   have yZ:=aa hkb;clear hkb;gi_wp2_with fail;exact⟨KeepsFrom.refl _ _,pre,(i,y),rfl,Ma.out,ML.out,HW.out.trans (HI.out.mono HW.out.size),HI.out.size,.inr ⟨rfl,yZ.out,gw.out⟩⟩
  have hne:(y.nm.toList==nm.toList)=false:=OK hnm;have ML:=aa hnm;clear hnm;gi_wp2_with fail;refine⟨KeepsFrom.refl _ _,ax _ _,HI.out,fun x hx=>?_⟩;rcases List.mem_append.1 hx with hx | hx
  ·exact Ma.out x hx
  rw[aX] at hx;subst hx;exact ML.out
 case done =>
  rintro D xs W hD hS ⟨hI,hx⟩ Oh;have hno:gM (qx us) nm=.I 0:=Dh (fun p hp=>by
   obtain⟨q,hq,rfl⟩:=List.mem_map.1 hp;have:q ∈ us.reverse:=by simpa using hq
   rw[<-hS] at this;obtain⟨x,P0,rfl⟩:=List.mem_map.1 this;exact hx x P0)
  have uA:=aa hno;have HI:=aa hI;have MQ:=aa Oh;have HD:=aa hD;have gw:=bM hI aR;clear hno hI Oh hD hx hS;have f0:=aY gw.out 0;have r0:=aq (v:=.int .i64 0) gw.out 0 rfl;have f1:=aY gw.out 1;have r1:=aq (v:=.bool false) gw.out 1 rfl;have f2:=aY gw.out 2;have r2:=aq (v:=.slice none 0 0) gw.out 2 rfl;have f3:=aY gw.out 3;have r3:=aq (v:=.bool false) gw.out 3 rfl;have f4:=aY gw.out 4;have r4:=aq (v:=.slice none 0 0) gw.out 4 rfl;go_wp2_with fail;have hg:W.grownBy (((((W.setCell ⟨kr,0,none⟩ (.int .i64 0)).setCell ⟨kr,1,none⟩ (.bool false)).setCell ⟨kr,2,none⟩ (.slice none 0 0)).setCell ⟨kr,3,none⟩ (.bool false)).setCell ⟨kr,4,none⟩ (.slice none 0 0)) (some kr):=bJ _ _ _ _ _
  have hs:=j_ gw.out (.int .i64 0) (.bool false) (.slice none 0 0) (.bool false) (.slice none 0 0);obtain⟨W5,RO⟩:∃ q,q=((((W.setCell ⟨kr,0,none⟩ (.int .i64 0)).setCell ⟨kr,1,none⟩ (.bool false)).setCell ⟨kr,2,none⟩ (.slice none 0 0)).setCell ⟨kr,3,none⟩ (.bool false)).setCell ⟨kr,4,none⟩ (.slice none 0 0):=⟨_,rfl⟩;rw[<-RO] at hg hs ⊢;have JD:=(hg.block D (ae MQ.out) (fun e=>by injection e with e;have:=r6.out.1;have:=HD.out;omega)).trans MQ.out;refine⟨by simp,.inl ⟨_,_,rfl,run_takeDeferred JD,?_⟩⟩;have hp:aB w.heap.size w (W5.putObj D (.deferred none)):=(bF (HW.out.trans (HI.out.mono HW.out.size)) hg SI.out).trans (mH (ai HW.out.size HD.out) JD)
  have KY:(W5.putObj D (.deferred none)).heap[kr]?=some (.cells #[.int .i64 0,.bool false,.slice none 0 0,.bool false,.slice none 0 0] 41 (0,0)):=by
   rw[World.putObj_heap_other (by have:=r6.out.1;have:=HD.out;omega)];exact hs
  obtain⟨⟨q0,q1,q2,q3,q4⟩,-⟩:=ay KY;exact⟨.agg #[.int .i64 0,.bool false,.slice none 0 0,.bool false,.slice none 0 0],by simp[results,Tryz.results191,go_sem,q0,q1,q2,q3,q4],_,rfl,by rw[show KK (gM (qx us) nm) b=V.I 0 from by unfold KK;rw[uA.out];split<;>rfl];exact⟨v0,rfl,rfl,Tr _⟩,(by first | exact hp | (rw[<-uy];exact hp))⟩
 case stop =>
  rintro D c pre W hD ⟨m,hm,hmn⟩ ⟨pre',x,rfl,h2,h3,h4,h6,h5⟩ Oh;obtain⟨k,hk,Nt,hlk⟩:∃ k,∃ (hk:k<us.length),x.2=us[k]/\∀ p ∈ us.drop (k+1),p.nm≠nm:=by
   rw[dF] at hm;have hml:m<us.length:=by
    have:=congrArg List.length hm;simp at this;omega
   rw[tP us m hml] at hm;have D_:=List.append_inj' hm rfl;refine⟨m,hml,by simpa using D_.2,fun p hp=>?_⟩;have Jp:p ∈ (us.drop (m+1)).reverse:=by simpa using hp
   rw[<-D_.1] at Jp;obtain⟨q,hq1,rfl⟩:=List.mem_map.1 Jp;exact h2 q hq1
  have NC:gM (qx us) nm=x.2.u.x:=by
   rw[Gw (k:=k) (by unfold qx;simpa using hk) (by unfold qx;simp only[fg];rw[<-Nt];exact h3) (fun p hp=>by
    unfold qx at hp;rw[<-List.map_drop] at hp;obtain⟨q,hq,rfl⟩:=List.mem_map.1 hp;exact hlk q hq)]
   unfold qx;simp only[fg];rw[<-Nt]
  obtain⟨_,_,_,_,_,hcs⟩:=oN YN.out;obtain⟨_,_,_,_,_,_,_,_,P2⟩:=hcs k hk;rw[<-Nt] at P2;have KW:=P2.sort;have YJ:=aa P2;have uA:=aa NC;have HI:=aa h4;have MQ:=aa Oh;have HD:=aa hD;clear P2 NC h4 Oh hD h6 hcs Nt hlk hm hmn h2;rcases h5 with ⟨rfl,hkb,eY⟩ | ⟨rfl,hkb,eY⟩
  ·refine (wpIn_wide (n:=9)).2 ?_;go_wp2_with fail;have JD:=MQ.out;refine⟨by simp,.inl ⟨_,_,rfl,run_takeDeferred JD,?_⟩⟩;have hp:aB w.heap.size w (W.putObj D (.deferred none)):=HI.out.trans (mH (ai HW.out.size HD.out) JD);have KY:(W.putObj D (.deferred none)).heap[kr]?=_:=(World.putObj_heap_other (by have:=r6.out.1;have:=HD.out;omega)).trans eY;obtain⟨⟨q0,q1,q2,q3,q4⟩,-⟩:=ay KY;refine⟨vV x.2.u,by simp[results,Tryz.results191,go_sem,q0,q1,q2,q3,q4,vV],_,rfl,⟨x.2.u,rfl,?_,?_⟩,(by first | exact hp | (rw[<-uy];exact hp))⟩
   ·rw[uA.out];unfold KK;rw[if_pos (by rw[<-KW];exact hkb)]
   exact YJ.out.below hp
  refine (wpIn_wide (n:=9)).2 ?_;have gw:=aa eY;have hnb:sU x.2.u.x≠b:=by rw[<-KW];exact hkb
  have Y':=aa hnb;clear eY hkb KW hnb h3;have f0:=aY gw.out 0;have r0:=aq (v:=.int .i64 0) gw.out 0 rfl;have f1:=aY gw.out 1;have r1:=aq (v:=.bool false) gw.out 1 rfl;have f2:=aY gw.out 2;have r2:=aq (v:=.slice none 0 0) gw.out 2 rfl;have f3:=aY gw.out 3;have r3:=aq (v:=.bool false) gw.out 3 rfl;have f4:=aY gw.out 4;have r4:=aq (v:=.slice none 0 0) gw.out 4 rfl;go_wp2_with fail;have hg:W.grownBy (((((W.setCell ⟨kr,0,none⟩ (.int .i64 0)).setCell ⟨kr,1,none⟩ (.bool false)).setCell ⟨kr,2,none⟩ (.slice none 0 0)).setCell ⟨kr,3,none⟩ (.bool false)).setCell ⟨kr,4,none⟩ (.slice none 0 0)) (some kr):=bJ _ _ _ _ _
  have hs:=j_ gw.out (.int .i64 0) (.bool false) (.slice none 0 0) (.bool false) (.slice none 0 0);obtain⟨W5,RO⟩:∃ q,q=((((W.setCell ⟨kr,0,none⟩ (.int .i64 0)).setCell ⟨kr,1,none⟩ (.bool false)).setCell ⟨kr,2,none⟩ (.slice none 0 0)).setCell ⟨kr,3,none⟩ (.bool false)).setCell ⟨kr,4,none⟩ (.slice none 0 0):=⟨_,rfl⟩;rw[<-RO] at hg hs ⊢;have JD:=(hg.block D (ae MQ.out) (fun e=>by injection e with e;have:=r6.out.1;have:=HD.out;omega)).trans MQ.out;refine⟨by simp,.inl ⟨_,_,rfl,run_takeDeferred JD,?_⟩⟩;have hp:aB w.heap.size w (W5.putObj D (.deferred none)):=(bF (HI.out) hg SI.out).trans (mH (ai HW.out.size HD.out) JD)
  have KY:(W5.putObj D (.deferred none)).heap[kr]?=some (.cells #[.int .i64 0,.bool false,.slice none 0 0,.bool false,.slice none 0 0] 41 (0,0)):=by
   rw[World.putObj_heap_other (by have:=r6.out.1;have:=HD.out;omega)];exact hs
  obtain⟨⟨q0,q1,q2,q3,q4⟩,-⟩:=ay KY;exact⟨.agg #[.int .i64 0,.bool false,.slice none 0 0,.bool false,.slice none 0 0],by simp[results,Tryz.results191,go_sem,q0,q1,q2,q3,q4],_,rfl,by rw[show KK (gM (qx us) nm) b=V.I 0 from by unfold KK;rw[uA.out,if_neg Y'.out]];exact⟨v0,rfl,rfl,Tr _⟩,(by first | exact hp | (rw[<-uy];exact hp))⟩
end Go.Proofs.YtoncclhbdkjhmaaGreatDoor
namespace Go.Proofs.YtoncclhbdkjhmaaGreatDoor
open Go.RowKit
set_option maxRecDepth 100000
set_option linter.unusedVariables false
set_option linter.unusedSimpArgs false
theorem cL (k:Int) (b:Bool) (o:Option cu) (l c:Nat) (d:Bool) (p:Option cu) (m q:Nat) (w:af) :
  (iY 41 (.agg #[.int .i64 k,.bool b,.slice o l c,.bool d,.slice p m q]) 0).run aj w=.ok (.int .i64 k) w:=by
 unfold iY;simp[go_sem,asAgg]
theorem cK (k:Int) (b:Bool) (o:Option cu) (l c:Nat) (d:Bool) (p:Option cu) (m q:Nat) (w:af) :
  (iY 41 (.agg #[.int .i64 k,.bool b,.slice o l c,.bool d,.slice p m q]) 1).run aj w=.ok (.agg #[.bool b,.slice o l c]) w:=by
 unfold iY;simp[go_sem,asAgg]
theorem cJ (k:Int) (b:Bool) (o:Option cu) (l c:Nat) (d:Bool) (p:Option cu) (m q:Nat) (w:af) :
  (iY 41 (.agg #[.int .i64 k,.bool b,.slice o l c,.bool d,.slice p m q]) 2).run aj w=.ok (.bool d) w:=by
 unfold iY;simp[go_sem,asAgg]
theorem cI (k:Int) (b:Bool) (o:Option cu) (l c:Nat) (d:Bool) (p:Option cu) (m q:Nat) (w:af) :
  (iY 41 (.agg #[.int .i64 k,.bool b,.slice o l c,.bool d,.slice p m q]) 3).run aj w=.ok (.slice p m q) w:=by
 unfold iY;simp[go_sem,asAgg]
theorem CI.tight {w:af} {v:ak} {z:Int} {k:Nat} (h:CI w v z k) (hz:z.natAbs<bf ^ 600):CI w v z 600:=by
 obtain⟨va,h1,h2,_⟩:=h;exact⟨va,h1,h2,hz⟩
theorem EL.shape {w:af} {v:ak} {env:List (ByteArray × V)} (h:EL w v env):∃ eo en ec,v=.slice eo en ec:=by
 obtain⟨us,⟨ko,kc,rfl,-⟩,-⟩:=h;exact⟨_,_,_,rfl⟩
theorem NL.nil (w:af):NL w (.slice none 0 0) []:=⟨[],El.At.nil w,rfl⟩
theorem VC.WR {w:af} {v:ak} {x:V} (h:VC w v (KK x 2)):∃ k b o l c d p m q,v=.agg #[.int .i64 k,.bool b,.slice o l c,.bool d,.slice p m q]/\NL w (.slice p m q) (oZ x):=by
 cases x with
 | I z=>obtain⟨o,l,c,rfl,-⟩:=VC.int (z:=0) h;exact⟨_,_,_,_,_,_,_,_,_,rfl,NL.nil w⟩
 | B b=>obtain⟨o,l,c,rfl,-⟩:=VC.int (z:=0) h;exact⟨_,_,_,_,_,_,_,_,_,rfl,NL.nil w⟩
 | L l=>obtain⟨o,l',c,rfl,hn⟩:=VC.list (zs:=l) h;exact⟨_,_,_,_,_,_,_,_,_,rfl,hn⟩
theorem gU {o z:Int} {nm:ByteArray} {ks:List F} (h:rt (.node o z nm ks)=true):dw o z (di ks)=true/\∀ f ∈ ks,rt f=true:=by
 rw[rt,dA,jn,fu] at h;exact h
theorem sR {ks:List F} (h:di ks=[]):ks=[]:=by
 unfold di at h;simpa using h
theorem Dd {ks:List F} {s:Int} (h:di ks=[s]):∃ p,ks=[p]/\cU p.op=s:=by
 unfold di at h;match ks,h with
 | [p],h=>exact⟨p,rfl,by simpa using h⟩
 | [],h=>simp at h
 | _::_::_,h=>simp at h
theorem Db {ks:List F} {s r:Int} (h:di ks=[s,r]):∃ p q,ks=[p,q]/\cU p.op=s/\cU q.op=r:=by
 unfold di at h;match ks,h with
 | [p,q],h=>exact⟨p,q,rfl,by simpa using h⟩
 | [],h=>simp at h
 | [_],h=>simp at h
 | _::_::_::_,h=>simp at h
theorem iu {o z:Int} {ss:List Int} (h:dw o z ss=true):0<=o/\o<=20:=by
 rcases Dp o with h1 | h1
 ·omega
 exfalso;unfold dw bK at h;rw[if_neg (by omega),if_neg (by omega),if_neg (by omega),if_neg (by omega),if_neg (by omega),if_neg (by omega),if_neg (by omega),if_neg (by omega),if_neg (by omega)] at h;simp at h
def PR (w:af) (p:cu) (o:Int) (b:Bool) (ao:Option cu) (l c:Nat) (nm:ByteArray) (ko:Option cu) (kl kc:Nat):Prop:=
 w.cell? p=some (.int .i64 o)/\w.cell? ⟨p.block,p.off+1,none⟩=some (.bool b)/\w.cell? ⟨p.block,p.off+2,none⟩=some (.slice ao l c)/\w.cell? ⟨p.block,p.off+3,none⟩=some (.string nm)/\w.cell? ⟨p.block,p.off+4,none⟩=some (.slice ko kl kc)
theorem PR.below {w w':af} {p:cu} {o:Int} {b:Bool} {ao:Option cu} {l c:Nat} {nm:ByteArray} {ko:Option cu} {kl kc:Nat} (h:PR w p o b ao l c nm ko kl kc) (hb:aB w.heap.size w w'):PR w' p o b ao l c nm ko kl kc:=by
 obtain⟨h0,h1,h2,h3,h4⟩:=h;have key:∀ q v,w.cell? q=some v->w'.cell? q=some v:=fun q v h=>by rw[hb.cell (World.block_lt_of_cell? w _ h)];exact h
 exact⟨key _ _ h0,key _ _ h1,key _ _ h2,key _ _ h3,key _ _ h4⟩
theorem FL.first {w:af} {S:Nat->Prop} {d:Nat} {ko:Option cu} {n kc:Nat} {p:F} {l:List F} (h:FL w S d (.slice ko n kc) (p::l)):∃ (a:cu) (b:Bool) (o:Option cu) (l c:Nat) (po:Option cu) (pl pc:Nat),ko=some a /\
  (w.cell? a=some (.int .i64 p.op)/\w.cell? ⟨a.block,a.off+1,none⟩=some (.bool b)/\w.cell? ⟨a.block,a.off+2,none⟩=some (.slice o l c) /\
   w.cell? ⟨a.block,a.off+3,none⟩=some (.string p.name)/\w.cell? ⟨a.block,a.off+4,none⟩=some (.slice po pl pc)) /\
  FC w S d (.agg #[.int .i64 p.op,.bool b,.slice o l c,.string p.name,.slice po pl pc]) p:=by
 have:=h.cells 0 (by simp)
 simpa [Addr.add] using this
theorem FL.second {w:af} {S:Nat->Prop} {d:Nat} {ko:Option cu} {n kc:Nat} {p q:F} {l:List F} (h:FL w S d (.slice ko n kc) (p::q::l)):∃ (a:cu) (b:Bool) (o:Option cu) (l c:Nat) (po:Option cu) (pl pc:Nat),ko=some a /\
  (w.cell? ⟨a.block,a.off+5,none⟩=some (.int .i64 q.op)/\w.cell? ⟨a.block,a.off+5+1,none⟩=some (.bool b)/\w.cell? ⟨a.block,a.off+5+2,none⟩=some (.slice o l c) /\
   w.cell? ⟨a.block,a.off+5+3,none⟩=some (.string q.name)/\w.cell? ⟨a.block,a.off+5+4,none⟩=some (.slice po pl pc)) /\
  FC w S d (.agg #[.int .i64 q.op,.bool b,.slice o l c,.string q.name,.slice po pl pc]) q:=by
 have:=h.cells 1 (by simp)
 simpa [Addr.add] using this
attribute [local go_sem] cL cK cJ cI
end Go.Proofs.YtoncclhbdkjhmaaGreatDoor
