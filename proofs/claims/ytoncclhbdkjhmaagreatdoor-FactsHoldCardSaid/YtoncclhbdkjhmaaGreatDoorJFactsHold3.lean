/-
 Joined texts: R7,VlA,VlB,VlC,VlD,VlE,VlF,VlG,VlH,LgM,LgA,LgBa,LgB,LgC,LgD.
-/
import Derived.OwnWalk
import Derived.Laws.OwnMore
import Derived.Deep.AppendLies
import Derived.Deep.DrawnRows
import Derived.BigQuiet
import Derived.Deep.DeepCutAuto
import Derived.Lib.UnsafeStr
import Derived.Lib.Builder
import Derived.Lib.AppendStr
import Derived.Test.YtoncclhbdkjhmaaGreatDoorJFactsHold1
import Derived.Test.YtoncclhbdkjhmaaGreatDoorJFactsHold2
set_option maxHeartbeats 32000000
open Array renaming replicate→nT,toList_setIfInBounds→pU
open Bool renaming and_eq_true→cV,or_eq_true→e_,or_true→nK
open Go renaming lt_of_block→ae,World→ag,Value→aq,heap_setCell_same→aC,bodyPost_ret→aD,Calls→aW,TypeId→bn,maxLen→bI,heap_alloc_new→bT,Addr→cB,cell_of_row→eK,Oper→fL,info_parts→pS,wpList→qy,frozen_of_row→tC,Program→tG
open Go.Builtin renaming append_→jv,zeroCells→jA
open Go.Lib renaming hid→aa,byteCells→dN,byteCells_length→qA
open Go.Proofs.Tryz renaming prog→aj,ntmps37→ja,func37→jZ,underlying99→tD
open Go.Region renaming wanted→lK,ready→rP,binds→tQ
open Go.Result renaming andThen_ok→rA
open Go.RowKit renaming Below→aA,intOf→ei
open Go.RowKit.Below renaming refl→ax
open Go.World.grownBy renaming refl→aI
open Go.World.ownsRow renaming stored→fG,kept→lG,cellAt→lU
open List renaming map_cons→aO,cons_append→aR,not_mem_nil→aU,mem_singleton→aZ,mem_cons→bz,take_succ_eq_append_getElem→bH,replicate→bJ,take_length→bK,map_append→cn,getElem_mem→ct,length_map→cT,all_eq_true→dF,flatMap_cons→fI,getElem_map→gp,length_replicate→gI,range→gR,mem_range→kT,reverse_cons→nJ,getElem_append_left→tR,map_toArray→uz,mem_or_eq_of_mem_set→DC
open Nat renaming le_trans→ah,le_refl→ai,zero_le→au,not_lt_zero→ay,mul_le_mul_right→aV,add_mul→dH,mod_lt→dZ,zero_add→fM,mul_le_mul→iU,one_mul→LO
open Option renaming getD_some→jb
namespace Go.Proofs.YtoncclhbdkjhmaaGreatDoor
open Go.RowKit
set_option maxRecDepth 100000
namespace R7
structure rI (g:Nat) (w w':ag):Prop where
 os:w'.os=w.os
 tape:w'.tape=w.tape
 output:w'.output=w.output
 size:w.heap.size<=w'.heap.size
 block:∀ k,k<w.heap.size->k≠g->w'.heap[k]?=w.heap[k]?
abbrev Fact:=(Nat->aq)->aq->ag->Prop
def mask (L:List Nat) (x:Nat->aq):Nat->aq:=fun j=>if L.contains j then x j else undef
theorem an {L:List Nat} {x:Nat->aq} {j:Nat} (h:L.contains j=true):mask L x j=x j:=by
 unfold mask;rw[if_pos h]
def vz (x:Nat->aq) (k:Nat) (v:aq):Nat->aq:=fun j=>if j=k then v else x j
theorem jn (x:Nat->aq) (k:Nat) (v:aq):vz x k v k=v:=if_pos rfl
theorem jo (x:Nat->aq) {k j:Nat} (v:aq) (h:j≠k):vz x k v j=x j:=if_neg h
theorem rZ {L:List Nat} {x:Nat->aq} {k:Nat} (v:aq) (h:L.contains k=false):mask L (vz x k v)=mask L x:=by
 funext j
 unfold mask
 by_cases hj:L.contains j=true
 ·rw[if_pos hj,if_pos hj,jo];intro e;subst e;rw[h] at hj;cases hj
 rw[if_neg hj,if_neg hj]

def dL (ops:List fL) (j:Nat):Option Tmp:=(ops[j]?).bind (·.dst)
def dep (D:List (List Nat)) (k:Nat):List Nat:=D.getD k []
def ok (ops:List fL) (D:List (List Nat)) (m size:Nat):Bool:=
 decide (m<=ops.length) && (gR ops.length).all fun k =>
  match ops[k]? with
  | none=>false
  | some o =>
   (o.after.all fun e=>!Region.binds .any e || decide (e.on<k)) &&
   ((dep D k).all fun j=>(o.after.any fun e=>tQ .any e && (e.on==j || (dep D e.on).contains j)) && ((dep D j).all fun i=>(dep D k).contains i) && decide (j<k)) &&
   (decide (k<m) || (gR m).all fun j=>(dep D k).contains j) &&
   (match o.dst with | none=>true | some d=>decide (d<size) && (gR k).all fun j=>dL ops j != some d)
def xL (ops:List fL) (D:List (List Nat)) (al:List Nat) (st:List (Nat × Nat)) (nq:Nat):Bool:=
 (gR ops.length).all fun k=>match st.lookup k with
  | none=>true
  | some i=>(if i<1000 then (dep D k).contains i && al.contains i else decide (i - 1000<nq)) && (gR ops.length).all fun j=>j==k || st.lookup j != some i
def pre (ops:List fL) (D:List (List Nat)) (k t:Nat):Bool:=
 (gR ops.length).all fun j=>dL ops j != some t || j==k || (dep D j).contains k
def fill:List fL->(Nat->aq)->Nat->Array aq->Array aq
 | [],_,_,t=>t
 | o::l,x,k,t=>fill l x (k+1) (match o.dst with | some d=>t.setIfInBounds d (x k) | none=>t)
theorem fill_eq:∀ (l:List fL) (x:Nat->aq) (k:Nat) (t T:Array aq),T.size=t.size ->
  (∀ j d,dL l j=some d->T[d]?=some (x (k+j)))->(∀ s,(∀ j,dL l j≠some s)->T[s]?=t[s]?)->fill l x k t=T
 | [],x,k,t,T,hs,_,hp=>by
  refine Array.ext_getElem? (fun i=>?_);rw[hp i (fun j=>by simp[dL])]
  rfl
 | o::l,x,k,t,T,hs,hd,hp=>by
  have hd':∀ j d,dL l j=some d->T[d]?=some (x (k+1+j)):=fun j d h=>by
   rw[hd (j+1) d (by simpa [dL] using h),Nat.add_right_comm,Nat.add_assoc]
  unfold fill
  cases ho:o.dst with
  | none =>
   refine fill_eq l x (k+1) t T hs hd' (fun s h=>hp s (fun j=>?_))
   cases j with
   | zero=>simp[dL,ho]
   | succ j=>simpa [dL] using h j
  | some d =>
   have h0:T[d]?=some (x k):=hd 0 d (by simp[dL,ho]);have hlt:d<t.size:=by rw[<-hs];exact (Array.getElem?_eq_some_iff.1 h0).1
   refine fill_eq l x (k+1) _ T (by simpa using hs) hd' (fun s h=>?_)
   by_cases e:d=s
   ·subst e;rw[h0]
    simp[hlt]
   rw[Array.getElem?_setIfInBounds_ne e];refine hp s (fun j=>?_)
   cases j with
   | zero=>simp[dL,ho,e]
   | succ j=>simpa [dL] using h j
def OC:Exit->Act->ag->Prop:=fun _ _ _=>False
def fact (F:List Fact) (j:Nat):Fact:=(F.reverse[j]?).getD fun _ _ _=>True
section
variable (P:tG) (ops:List fL) (D:List (List Nat)) (al:List Nat) (st:List (Nat × Nat)) (og:Nat->Nat) (nq:Nat) (t0:Array aq) (ds:List Deferred) (w0:ag)
def own (k:Nat):Option Nat:=st.lookup k
def tv (x:Nat->aq) (i:Nat):aq:=if i<1000 then x i else .pointer (some ⟨og (i - 1000),0,none⟩)
structure At (F:Nat->Fact) (k:Nat) (T:Array aq) (x:Nat->aq) (w:ag):Prop where
 be:∀ B,B<=w0.heap.size->(∀ q,q<nq->B<=og q)->aA B w0 w
 bl:∀ b,b<w0.heap.size->(∀ q,q<nq->og q≠b)->w.heap[b]?=w0.heap[b]?
 od:∀ q,q<nq->(∀ k',own st k'=some (1000+q)->k'=k\/(dep D k').contains k=true)->w.heap[og q]?=w0.heap[og q]?
 tm:∀ j d,(dep D k).contains j=true->dL ops j=some d->T[d]?=some (x j)
 fa:∀ j,(dep D k).contains j=true->F j (mask (dep D j) x) (x j) w
 pre:∀ t,R7.pre ops D k t=true->T[t]?=t0[t]?
structure Next (V:Fact) (k:Nat) (x:Nat->aq) (w:ag) (v:aq) (w':ag):Prop where
 is:V x v w'
 bw:own st k=none->aA w.heap.size w w'
 pv:∀ i,own st k=some i->∃ g,tv og x i=.pointer (some ⟨g,0,none⟩)/\rI g w w'
 al:al.contains k=true->∃ g,v=.pointer (some ⟨g,0,none⟩)/\w.heap.size<=g/\g<w'.heap.size
def Ce (F:Nat->Fact) (k:Nat) (o:fL) (V:Fact):Prop:=
 ∀ (T:Array aq) (x:Nat->aq) (w:ag),At ops D st og nq t0 w0 F k T x w ->
  ∀ K:Act->ag->Prop,Hid (∀ v w',Next al st og V k x w v w'->K ((⟨T,ds⟩:Act).put o.dst v) w') ->
   if lK o (yielded ops.toArray T)=true then o.wp P ⟨T,ds⟩ w K OC else K ((⟨T,ds⟩:Act).put o.dst undef) w
def sL (k:Nat) (V:Fact):Prop:=(∀ x v w w',V x v w->aA w.heap.size w w'->V x v w')/\(st ≠ []->∀ x v w w' g,V x v w->(∀ i,own st k=some i->tv og x i ≠ .pointer (some ⟨g,0,none⟩))->(∃ q,q<nq/\g=og q)->rI g w w'->V x v w')
def Left (F:Nat->Fact) (m:Nat) (x:Nat->aq) (w:ag):Prop:=
 ((∀ B,B<=w0.heap.size->(∀ q,q<nq->B<=og q)->aA B w0 w)/\(∀ b,b<w0.heap.size->(∀ q,q<nq->og q≠b)->w.heap[b]?=w0.heap[b]?) )/\(∀ j,j<m->F j (mask (dep D j) x) (x j) w) /\
 (∀ i,al.contains i=true->i<m->∃ g,x i=.pointer (some ⟨g,0,none⟩)/\w0.heap.size<=g/\g<w.heap.size) /\
 (∀ i j,al.contains i=true->al.contains j=true->i<m->j<m->i≠j->x i≠x j)
def aB (m:Nat) (G:(Nat->aq)->ag->Prop):List fL->Nat->List Fact->Prop
 | [],k,F=>k=m/\∀ x w,Left D al og nq w0 (fact F) m x w->G x w
 | o::rest,k,F=>(k=m/\∀ x w,Left D al og nq w0 (fact F) m x w->G x w) \/
  ∃ V,sL st og nq k V/\Ce P ops D al st og nq t0 ds w0 (fact F) k o V/\aB m G rest (k+1) (V::F)
variable {P ops D al st og nq t0 ds w0}
theorem aB.done {m:Nat} {G:(Nat->aq)->ag->Prop} {l:List fL} {F:List Fact} (h:∀ x w,Left D al og nq w0 (fact F) m x w->G x w):aB P ops D al st og nq t0 ds w0 m G l m F:=by
 cases l with
 | nil=>exact⟨rfl,h⟩
 | cons o l=>exact Or.inl ⟨rfl,h⟩
theorem aB.step {m k:Nat} {G:(Nat->aq)->ag->Prop} {o:fL} {l:List fL} {F:List Fact} (V:Fact) (hs:sL st og nq k V) (hr:Ce P ops D al st og nq t0 ds w0 (fact F) k o V)
  (h:aB P ops D al st og nq t0 ds w0 m G l (k+1) (V::F)):aB P ops D al st og nq t0 ds w0 m G (o::l) k F:=Or.inr ⟨V,hs,hr,h⟩
def plain (al:List Nat) (st:List (Nat × Nat)) (k:Nat):Bool:=!al.contains k && (own st k).isNone
theorem Next.plain {V:Fact} {k:Nat} {x:Nat->aq} {w:ag} {v:aq} {w':ag} (hp:plain al st k=true) (h:V x v w') (hb:aA w.heap.size w w'):Next al st og V k x w v w':=by
 unfold R7.plain at hp;simp only[cV,Bool.not_eq_true',Option.isNone_iff_eq_none] at hp;exact⟨h,fun _=>hb,fun i hi=>(by rw[hp.2] at hi;cases hi),fun e=>(by rw[hp.1] at e;cases e)⟩
theorem aB.da {m k:Nat} {G:(Nat->aq)->ag->Prop} {o:fL} {l:List fL} {F:List Fact} (f:(Nat->aq)->aq) (hp:plain al st k=true)
  (hr:∀ (T:Array aq) (x:Nat->aq) (w:ag),At ops D st og nq t0 w0 (fact F) k T x w->lK o (yielded ops.toArray T)=true/\(execOp (Act.eval ⟨T,ds⟩) o).run P w=.ok (.value (f x)) w)
  (h:aB P ops D al st og nq t0 ds w0 m G l (k+1) ((fun x v _=>v=f x)::F)):aB P ops D al st og nq t0 ds w0 m G (o::l) k F:=by
 refine aB.step (fun x v _=>v=f x) ⟨fun _ _ _ _ e _=>e,fun _ _ _ _ _ _ e _ _ _=>e⟩ (fun T x w hA K hK=>?_) h;obtain⟨hw,he⟩:=hr T x w hA;rw[if_pos hw];unfold Oper.wp;rw[he];exact hK.out _ _ (Next.plain hp rfl (ax _ _))
theorem aB.call {m k:Nat} {G:(Nat->aq)->ag->Prop} {o:fL} {l:List fL} {F:List Fact} (V:Fact) (hs:∀ x v w w',V x v w->aA w.heap.size w w'->V x v w') (FP:∀ x v w w' g,V x v w->(∃ q,q<nq/\g=og q)->rI g w w'->V x v w') (hp:plain al st k=true)
  (hr:∀ (T:Array aq) (x:Nat->aq) (w:ag),At ops D st og nq t0 w0 (fact F) k T x w->lK o (yielded ops.toArray T)=true /\
   ∀ K:Act->ag->Prop,Hid (∀ v w',V x v w'->aA w.heap.size w w'->K ((⟨T,ds⟩:Act).put o.dst v) w')->o.wp P ⟨T,ds⟩ w K OC)
  (h:aB P ops D al st og nq t0 ds w0 m G l (k+1) (V::F)):aB P ops D al st og nq t0 ds w0 m G (o::l) k F:=by
 refine aB.step V ⟨hs,fun _ x v w w' g h _ hq hp=>FP x v w w' g h hq hp⟩ (fun T x w hA K hK=>?_) h;obtain⟨hw,he⟩:=hr T x w hA;rw[if_pos hw];exact he K fun v w' hv hb=>hK.out v w' (Next.plain hp hv hb)
theorem jF {st:List (Nat × Nat)} {i k:Nat} (h:(st.all fun p=>p.2 != i || p.1==k)=true):∀ k',own st k'=some i->k'=k:=by
 intro k' hk;unfold own at hk;rw[dF] at h
 have:∀ (l:List (Nat × Nat)),(∀ p ∈ l,(p.2 != i || p.1==k)=true)->l.lookup k'=some i->k'=k:=by
  intro l
  induction l with
  | nil=>intro _ h;cases h
  | cons p l ih =>
   intro hp hl;obtain⟨a,b⟩:=p;rw[List.lookup_cons] at hl
   split at hl
   ·rename_i he
    injection hl with hl;have h1:=hp (a,b) (List.mem_cons_self ..);simp only[e_,bne_iff_ne,ne_eq,beq_iff_eq] at h1;rw[beq_iff_eq] at he;rcases h1 with h1 | h1
    ·exact absurd hl h1
    exact he.trans h1
   exact ih (fun p hp'=>hp p (List.mem_cons_of_mem _ hp')) hl
 exact this st h hk
theorem vf {V:Fact} {F:List Fact} {j:Nat} (h:j<F.length):fact (V::F) j=fact F j:=by
 unfold fact;rw[nJ,List.getElem?_append_left (by simpa using h)]
theorem zD {V:Fact} {F:List Fact}:fact (V::F) F.length=V:=by
 unfold fact;rw[nJ,List.getElem?_append_right (by simp)]
 simp
theorem At.congr {F F':Nat->Fact} {k:Nat} {T:Array aq} {x:Nat->aq} {w:ag} (h:At ops D st og nq t0 w0 F k T x w) (e:∀ j,(dep D k).contains j=true->F j=F' j):At ops D st og nq t0 w0 F' k T x w:=
 ⟨h.be,h.bl,h.od,h.tm,fun j hj=>by rw[<-e j hj];exact h.fa j hj,h.pre⟩
theorem aB.all {m:Nat} {G:(Nat->aq)->ag->Prop} (hlt:∀ k j,k<m->(dep D k).contains j=true->j<k):∀ (l:List fL) (k:Nat) (F:List Fact),F.length=k->k<=m->(∀ j,l[j]?=ops[k+j]?) ->
  aB P ops D al st og nq t0 ds w0 m G l k F->∃ H:Nat->Fact,(∀ j,j<k->H j=fact F j) /\
   (∀ j,k<=j->j<m->sL st og nq j (H j)/\∃ o,ops[j]?=some o/\Ce P ops D al st og nq t0 ds w0 H j o (H j))/\∀ x w,Left D al og nq w0 H m x w->G x w:=by
 intro l
 induction l with
 | nil=>intro k F hF hk hl h;exact⟨fact F,fun _ _=>rfl,fun j h1 h2=>by have:=h.1;omega,h.2⟩
 | cons o l ih =>
  intro k F hF hk hl h;rcases h with ⟨rfl,h⟩ | ⟨V,hs,hr,h⟩
  ·exact⟨fact F,fun _ _=>rfl,fun j h1 h2=>by omega,h⟩
  by_cases hkm:k<m
  ·obtain⟨H,h1,h2,h3⟩:=ih (k+1) (V::F) (by simp[hF]) hkm (fun j=>by have:=hl (j+1);simp at this;rw[this,Nat.add_right_comm,Nat.add_assoc]) h;refine⟨H,fun j hj=>by rw[h1 j (by omega),vf (by omega)],fun j hj BV=>?_,h3⟩;rcases Nat.lt_or_ge k j with Nz | Nz
   ·exact h2 j Nz BV
   obtain rfl:j=k:=by omega
   have hH:H j=V:=by rw[h1 j (by omega),<-hF,zD]
   refine⟨by rw[hH];exact hs,o,by have:=hl 0;simpa using this.symm,?_⟩;rw[hH];intro T x w hA;exact hr T x w (hA.congr (fun i hi=>by have:=hlt j i hkm hi;rw[h1 i (by omega),vf (by omega)]))
  obtain rfl:k=m:=by omega
  have Ck:∀ (l:List fL) (k':Nat) (F:List Fact),k<k'->¬ aB P ops D al st og nq t0 ds w0 k G l k' F:=by
   intro l
   induction l with
   | nil=>intro k' F hk' h;have:=h.1;omega
   | cons o l ih=>intro k' F hk' h;rcases h with ⟨e,_⟩ | ⟨_,_,_,h⟩;(omega);exact ih _ _ (by omega) h
  exact absurd h (Ck _ _ _ (by omega))
theorem Oper.DT {o:fL} {a:Act} {w:ag} {K:Act->ag->Prop} {Q:Exit->Act->ag->Prop} (h:o.wp P a w K OC):o.wp P a w K Q:=by
 unfold Oper.wp at *;generalize (execOp a.eval o).run P w=r at *
 cases r with
 | ok n w' =>
  cases n<;>simp only[Oper.upon] at h ⊢ <;>
   first
    | exact h
    | exact Calls.mono h (fun e w'' he=>by
      cases e with
      | returned v=>exact he
      | panicked c=>exact False.elim he
      | outgrown=>obtain⟨_,_,hh⟩:=he;exact False.elim hh)
 | halt x w'=>cases x<;>simp only[Oper.upon] at h ⊢<;>exact False.elim h
structure Inv (H:Nat->Fact) (m:Nat) (listed:Array Bool) (a:Act) (w:ag) (x:Nat->aq):Prop where
 tm:∀ j d,listed.getD j false=true->dL ops j=some d->a.tmps[d]?=some (x j)
 pre:∀ t,(∀ j,listed.getD j false=true->dL ops j≠some t)->a.tmps[t]?=t0[t]?
 sz:a.tmps.size=t0.size
 df:a.defers=ds
 be:∀ B,B<=w0.heap.size->(∀ q,q<nq->B<=og q)->aA B w0 w
 bl:∀ b,b<w0.heap.size->(∀ q,q<nq->og q≠b)->w.heap[b]?=w0.heap[b]?
 od:∀ q,q<nq->(∀ k',listed.getD k' false=true->own st k'≠some (1000+q))->w.heap[og q]?=w0.heap[og q]?
 sw:w0.heap.size<=w.heap.size
 ls:listed.size=ops.length
 dn:∀ j,listed.getD j false=true->∀ i,(dep D j).contains i=true->listed.getD i false=true
 lt:∀ j,listed.getD j false=true->j<m
 fa:∀ j,listed.getD j false=true->H j (mask (dep D j) x) (x j) w
 pt:∀ i,al.contains i=true->listed.getD i false=true->∃ g,x i=.pointer (some ⟨g,0,none⟩)/\w0.heap.size<=g/\g<w.heap.size
 ne:∀ i j,al.contains i=true->al.contains j=true->listed.getD i false=true->listed.getD j false=true->i≠j->x i≠x j
section
variable {m size:Nat} (hok:ok ops D m size=true)
include hok
theorem rX:m<=ops.length:=by
 unfold ok at hok;simp only[cV,decide_eq_true_eq] at hok;exact hok.1
theorem n_ {k:Nat} {o:fL} (ho:ops[k]?=some o) :
  (∀ e ∈ o.after,tQ .any e=true->e.on<k) /\
  (∀ j,(dep D k).contains j=true->(∃ e ∈ o.after,tQ .any e=true/\(e.on=j\/(dep D e.on).contains j=true))/\(∀ i,(dep D j).contains i=true->(dep D k).contains i=true)/\j<k) /\
  (k<m\/∀ j,j<m->(dep D k).contains j=true) /\
  (∀ d,o.dst=some d->d<size/\∀ j,j<k->dL ops j≠some d):=by
 unfold ok at hok;simp only[cV,decide_eq_true_eq,dF,kT] at hok;have h:=hok.2 k (List.getElem?_eq_some_iff.1 ho).1;rw[ho] at h;simp only[cV,e_,Bool.not_eq_true',decide_eq_true_eq,dF,kT,Array.all_eq_true_iff_forall_mem] at h;obtain⟨⟨⟨h1,h2⟩,h3⟩,h4⟩:=h;refine⟨fun e he hb=>(h1 e he).resolve_left (by rw[hb];exact Bool.noConfusion),fun j hj=>?_,h3,fun d hd=>?_⟩
 ·obtain⟨⟨h5,h6⟩,h7⟩:=h2 j (by simpa using hj);obtain⟨e,he,hb⟩:=Array.any_eq_true'.1 h5;simp only[cV,e_,beq_iff_eq] at hb;exact⟨⟨e,he,hb.1,hb.2⟩,fun i hi=>h6 i (by simpa using hi),h7⟩
 rw[hd] at h4;simp only[cV,decide_eq_true_eq,dF,kT,bne_iff_ne,ne_eq] at h4;exact h4
theorem JM {k j:Nat} (h:(dep D k).contains j=true) (hk:k<ops.length):j<k:=((n_ hok (List.getElem?_eq_getElem hk)).2.1 j h).2.2
end
theorem uR (h:xL ops D al st nq=true) {k:Nat} (hk:k<ops.length):∀ i,own st k=some i->(i<1000->(dep D k).contains i=true/\al.contains i=true)/\(¬ i<1000->i - 1000<nq)/\∀ j,j<ops.length->j≠k->own st j≠some i:=by
 intro i hi;unfold xL at h;rw[dF] at h;have h1:=h k (List.mem_range.2 hk);unfold own at hi;rw[hi] at h1;simp only[cV,dF,kT,e_,beq_iff_eq,bne_iff_ne,ne_eq] at h1;refine⟨fun h2=>?_,fun h2=>?_,fun j hj DJ=>(h1.2 j hj).resolve_left DJ⟩
 ·have h3:=h1.1;rw[if_pos h2] at h3
  simpa using h3
 have h3:=h1.1;rw[if_neg h2] at h3
 simpa using h3
theorem uM {L:List Nat} {x:Nat->aq} {i:Nat} (h:i<1000->L.contains i=true):tv og (mask L x) i=tv og x i:=by
 unfold tv
 split
 ·rename_i hi;exact an (h hi)
 rfl
theorem eJ {l:Array Bool} {i j:Nat} (h:i<l.size):(l.setIfInBounds i true).getD j false=(decide (j=i) || l.getD j false):=by
 by_cases e:i=j
 ·subst e;simp[h]
 rw[getD_set_ne false e]
 simp[show ¬ j=i from fun x=>e x.symm]
theorem pF {l:List Bool} {i:Nat} (h:l[i]?=some false):(l.set i true).count false+1=l.count false:=by
 obtain⟨hi,hv⟩:=List.getElem?_eq_some_iff.1 h;rw[List.count_set hi,hv];have:0<l.count false:=List.count_pos_iff.2 (hv ▸ ct hi)
 simp
 omega
section
variable {m:Nat} {Q:Exit->Act->ag->Prop} {H:Nat->Fact}
theorem Inv.step (hok:ok ops D m t0.size=true) (ur:xL ops D al st nq=true) (C9:∀ k i,own st k=some i->¬ i<1000) (ik:∀ q,q<nq->og q<w0.heap.size) (Ar:∀ q q',q<nq->q'<nq->q≠q'->og q≠og q') (hst:∀ j,j<m->sL st og nq j (H j)) {listed:Array Bool} {a:Act} {w:ag} {x:Nat->aq} (I:Inv (ops:=ops) (D:=D) (al:=al) (st:=st) (og:=og) (nq:=nq) (t0:=t0) (ds:=ds) (w0:=w0) H m listed a w x)
  {k:Nat} {o:fL} (ho:ops[k]?=some o) (hkm:k<m) (hun:listed.getD k false=false) (aH:∀ j,(dep D k).contains j=true->listed.getD j false=true) {v:aq} {w':ag}
  (hN:Next al st og (H k) k (mask (dep D k) x) w v w'):Inv (ops:=ops) (D:=D) (al:=al) (st:=st) (og:=og) (nq:=nq) (t0:=t0) (ds:=ds) (w0:=w0) H m (listed.setIfInBounds k true) (a.put o.dst v) w' (vz x k v):=by
 have iy:k<ops.length:=(List.getElem?_eq_some_iff.1 ho).1;have hks:k<listed.size:=by rw[I.ls];exact iy
 obtain⟨c1,c2,c3,c4⟩:=n_ hok ho;have Qj:dL ops k=o.dst:=by simp[dL,ho]
 have hsp:=uR ur iy
 -- where operation k stores
 have IS:∀ i,own st k=some i->∃ g,tv og x i=.pointer (some ⟨g,0,none⟩)/\rI g w w'/\((i<1000/\w0.heap.size<=g)\/(¬ i<1000/\i - 1000<nq/\g=og (i - 1000))):=by
  intro i ji;obtain⟨g,hg,hp⟩:=hN.pv i ji;obtain⟨h1,h2,h3⟩:=hsp i ji;rw[uM (fun h=>(h1 h).1)] at hg;refine⟨g,hg,hp,?_⟩
  by_cases hi:i<1000
  ·obtain⟨g',e,h4,h5⟩:=I.pt i (h1 hi).2 (aH i (h1 hi).1);unfold tv at hg;rw[if_pos hi] at hg;rw[hg] at e;injection e with e;injection e with e;injection e with e;subst e;exact Or.inl ⟨hi,h4⟩
  unfold tv at hg;rw[if_neg hi] at hg;injection hg with e;injection e with e;injection e with e;exact Or.inr ⟨hi,h2 hi,e.symm⟩
 have th:w.heap.size<=w'.heap.size:=by
  cases ji:own st k with
  | none=>exact (hN.bw ji).size
  | some i=>obtain⟨g,hg,hp,_⟩:=IS i ji;exact hp.size
 have iY:∀ B,B<=w0.heap.size->(∀ q,q<nq->B<=og q)->aA B w0 w':=fun B hB hq=>by
  refine (I.be B hB hq).trans ?_
  cases ji:own st k with
  | none=>exact (hN.bw ji).mono (by have:=I.sw;omega)
  | some i =>
   obtain⟨g,hg,hp,hc⟩:=IS i ji;refine⟨hp.os,hp.tape,hp.output,th,fun q SS=>hp.block q (by have:=I.sw;omega) ?_⟩;rcases hc with ⟨_,hc⟩ | ⟨_,h1,hc⟩
   ·omega
   have:=hq _ h1;omega
 have dw:∀ b,b<w0.heap.size->(∀ q,q<nq->og q≠b)->w'.heap[b]?=w0.heap[b]?:=fun b hb hq=>by
  rw[<-I.bl b hb hq]
  cases ji:own st k with
  | none=>exact (hN.bw ji).block b (by have:=I.sw;omega)
  | some i =>
   obtain⟨g,hg,hp,hc⟩:=IS i ji;refine hp.block b (by have:=I.sw;omega) ?_;rcases hc with ⟨_,hc⟩ | ⟨_,h1,hc⟩
   ·omega
   rw[hc];exact fun e=>hq _ h1 e.symm
 have hne:∀ j,listed.getD j false=true->j≠k:=fun j hj e=>by subst e;rw[hun] at hj;cases hj
 have r9:∀ j,(listed.setIfInBounds k true).getD j false=true->j=k\/listed.getD j false=true:=fun j hj=>by
  rw[eJ hks] at hj;simpa using hj
 have hput:(a.put o.dst v).tmps=match o.dst with | some d=>a.tmps.setIfInBounds d v | none=>a.tmps:=by cases o.dst<;>rfl
 have KF:(dep D k).contains k=false:=by
  cases h:(dep D k).contains k with
  | false=>rfl
  | true=>have:=(c2 k h).2.2;omega
 -- two operations write two slots
 have hds:∀ j d,dL ops j=some d->o.dst=some d->j=k:=fun j d h1 h2=>by
  rcases Nat.lt_trichotomy j k with h | h | h
  ·exact absurd h1 ((c4 d h2).2 j h)
  ·exact h
  cases hoj:ops[j]? with
  | none=>simp[dL,hoj] at h1
  | some oj=>exact absurd (Qj.trans h2) (((n_ hok hoj).2.2.2 d (by simpa [dL,hoj] using h1)).2 k h)
 refine⟨fun j d hj hd=>?_,fun t ht=>?_,?_,?_,iY,dw,fun q hq hl=>?_,ah I.sw th,by simpa using I.ls,fun j hj i hi=>?_,fun j hj=>?_,fun j hj=>?_,fun i hi hl=>?_,fun i j hi hj Nx Xb hij=>?_⟩
 ·rw[hput];rcases r9 j hj with rfl | hj'
  ·rw[Qj] at hd;rw[hd,jn];have:=(c4 d hd).1;rw[<-I.sz] at this
   simp[this]
  rw[jo _ _ (hne j hj')]
  cases Ar:o.dst with
  | none=>exact I.tm j d hj' hd
  | some e =>
   by_cases hde:e=d
   ·subst hde;exact absurd (hds j e hd Ar) (hne j hj')
   simp only[];rw[Array.getElem?_setIfInBounds_ne hde];exact I.tm j d hj' hd
 ·rw[hput];have h1:a.tmps[t]?=t0[t]?:=I.pre t fun j hj=>ht j (by rw[eJ hks];simp only[hj,nK])
  cases Ar:o.dst with
  | none=>exact h1
  | some e =>
   have:=ht k (by rw[eJ hks];simp);rw[Qj,Ar] at this;simp only[];rw[Array.getElem?_setIfInBounds_ne (fun h=>this (by rw[h]))];exact h1
 ·rw[hput,<-I.sz];cases o.dst<;>simp
 ·rw[<-I.df];cases o.dst<;>rfl
 ·rw[<-I.od q hq fun k' hk'=>hl k' (by rw[eJ hks];simp only[hk',nK])];have hlt:=ik q hq
  cases ji:own st k with
  | none=>exact (hN.bw ji).block _ (by have:=I.sw;omega)
  | some i =>
   obtain⟨g,hg,hp,hc⟩:=IS i ji;refine hp.block _ (by have:=I.sw;omega) ?_;rcases hc with ⟨_,hc⟩ | ⟨hi,h1,hc⟩
   ·omega
   rw[hc];refine Ar q _ hq h1 (fun e=>hl k (by rw[eJ hks];simp) ?_);rw[ji,e];congr 1;omega
 ·rw[eJ hks];rcases r9 j hj with rfl | hj'
  ·simp only[aH i hi,nK]
  simp only[I.dn j hj' i hi,nK]
 ·rcases r9 j hj with rfl | hj'
  ·exact hkm
  exact I.lt j hj'
 ·rcases r9 j hj with rfl | hj'
  ·rw[rZ _ KF,jn];exact hN.is
  rw[jo _ _ (hne j hj'),rZ]
  ·cases ji:own st k with
   | none=>exact (hst j (I.lt j hj')).1 _ _ _ _ (I.fa j hj') (hN.bw ji)
   | some i =>
    obtain⟨g,hg,hp,hc⟩:=IS i ji;obtain⟨h1,h2,h3⟩:=hsp i ji;refine (hst j (I.lt j hj')).2 (fun e=>by subst e;cases ji) _ _ _ _ g (I.fa j hj') (fun i' hi'=>?_) (by rcases hc with ⟨hx,_⟩ | ⟨_,hx,hy⟩;exact absurd hx (C9 k i ji);exact⟨_,hx,hy⟩) hp;have lN:j<ops.length:=by have:=I.lt j hj';have:=rX hok;omega
    obtain⟨h4,h5,h6⟩:=uR ur lN i' hi';have NB:i'≠i:=fun e=>by subst e;exact h3 j lN (hne j hj') hi'
    rw[uM (fun h=>(h4 h).1)]
    by_cases vY:i'<1000
    ·obtain⟨g',e',q1,q2⟩:=I.pt i' (h4 vY).2 (I.dn j hj' i' (h4 vY).1);have ht:tv og x i'=x i':=if_pos vY;rw[ht];rcases hc with ⟨qm,hc⟩ | ⟨qm,hq2,hc⟩
     ·have Ns:tv og x i=x i:=if_pos qm;rw[Ns] at hg;exact fun e=>I.ne i' i (h4 vY).2 (h1 qm).2 (I.dn j hj' i' (h4 vY).1) (aH i (h1 qm).1) NB (e.trans hg.symm)
     intro e;rw[e'] at e;injection e with e;injection e with e;injection e with e;have:=ik _ hq2;omega
    have ht:tv og x i'=.pointer (some ⟨og (i' - 1000),0,none⟩):=if_neg vY;rw[ht];intro e;injection e with e;injection e with e;injection e with e;have hl':=ik _ (h5 vY);rcases hc with ⟨qm,hc⟩ | ⟨qm,hq2,hc⟩
    ·omega
    exact Ar _ _ (h5 vY) hq2 (by omega) (e.trans hc)
  cases h:(dep D j).contains k with
  | false=>rfl
  | true=>have:=I.dn j hj' k h;rw[hun] at this;cases this
 ·rcases r9 i hl with rfl | hl'
  ·obtain⟨g,h1,h2,h3⟩:=hN.al hi;exact⟨g,by rw[jn];exact h1,by have:=I.sw;omega,h3⟩
  obtain⟨g,h1,h2,h3⟩:=I.pt i hi hl';exact⟨g,by rw[jo _ _ (hne i hl')];exact h1,h2,by omega⟩
 rcases r9 i Nx with rfl | BS<;>rcases r9 j Xb with rfl | BR
 ·exact absurd rfl hij
 ·obtain⟨g,h1,h2,h3⟩:=hN.al hi;obtain⟨g',L0,OW,XN⟩:=I.pt j hj BR;rw[jn,jo _ _ (hne j BR),h1,L0];intro e;injection e with e;injection e with e;injection e with e;omega
 ·obtain⟨g,h1,h2,h3⟩:=hN.al hj;obtain⟨g',L0,OW,XN⟩:=I.pt i hi BS;rw[jn,jo _ _ (hne i BS),h1,L0];intro e;injection e with e;injection e with e;injection e with e;omega
 rw[jo _ _ (hne i BS),jo _ _ (hne j BR)];exact I.ne i j hi hj BS BR hij
def Rest (P:tG) (ops:List fL) (Q:Exit->Act->ag->Prop) (t0:Array aq) (ds:List Deferred) (m:Nat) (x:Nat->aq) (w:ag):Prop:=
 wpAny P .any ops.toArray Q (ops.length - m) (bJ m true++bJ (ops.length - m) false).toArray ⟨fill (ops.take m) x 0 t0,ds⟩ w
theorem oI {m j:Nat} (h:j<m):dL (ops.take m) j=dL ops j:=by
 unfold dL;rw[List.getElem?_take_of_lt h]
theorem pM {m j:Nat} (h:m<=j):dL (ops.take m) j=none:=by
 unfold dL;rw[List.getElem?_eq_none (by simp;omega)];rfl
theorem finish (hml:m<=ops.length) {listed:Array Bool} {a:Act} {w:ag} {x:Nat->aq}
  (I:Inv (ops:=ops) (D:=D) (al:=al) (st:=st) (og:=og) (nq:=nq) (t0:=t0) (ds:=ds) (w0:=w0) H m listed a w x) (hall:∀ j,j<m->listed.getD j false=true)
  (hG:∀ x w,Left D al og nq w0 H m x w->Rest P ops Q t0 ds m x w):wpAny P .any ops.toArray Q (listed.toList.count false) listed a w:=by
 have h:=hG x w ⟨⟨I.be,I.bl⟩,fun j hj=>I.fa j (hall j hj),fun i hi DK=>I.pt i hi (hall i DK),fun i j hi hj DK BV hij=>I.ne i j hi hj (hall i DK) (hall j BV) hij⟩
 have hl:listed=(bJ m true++bJ (ops.length - m) false).toArray:=by
  apply Array.ext
  ·rw[I.ls];simp;omega
  intro i h1 h2;rw[I.ls] at h1
  by_cases hi:i<m
  ·have:=hall i hi;rw[Array.getD_eq_getD_getElem?,Array.getElem?_eq_getElem (by rw[I.ls];exact h1)] at this;simp only[jb] at this;rw[this]
   simp[tR,hi]
  have h3:listed.getD i false=false:=by
   cases h:listed.getD i false with
   | false=>rfl
   | true=>exact absurd (I.lt i h) hi
  rw[Array.getD_eq_getD_getElem?,Array.getElem?_eq_getElem (by rw[I.ls];exact h1)] at h3;simp only[jb] at h3;rw[h3]
  simp[List.getElem_append,hi]
 have ha:a=⟨fill (ops.take m) x 0 t0,ds⟩:=by
  have e:fill (ops.take m) x 0 t0=a.tmps:=by
   refine fill_eq _ x 0 t0 a.tmps I.sz (fun j d hd=>?_) (fun t ht=>?_)
   ·rcases Nat.lt_or_ge j m with hj | hj
    ·rw[oI hj] at hd;rw[fM];exact I.tm j d (hall j hj) hd
    rw[pM hj] at hd;cases hd
   refine I.pre t fun j hj=>?_
   have:=ht j
   rwa [oI (I.lt j hj)] at this
  rw[e,<-I.df]
 have hc:listed.toList.count false=ops.length - m:=by rw[hl];simp[List.count_replicate]
 rw[hc,hl,ha];exact h
theorem main (hok:ok ops D m t0.size=true) (ur:xL ops D al st nq=true) (C9:∀ k i,own st k=some i->¬ i<1000) (ik:∀ q,q<nq->og q<w0.heap.size) (Ar:∀ q q',q<nq->q'<nq->q≠q'->og q≠og q') (hst:∀ j,j<m->sL st og nq j (H j)) (hrun:∀ j,j<m->∃ o,ops[j]?=some o/\Ce P ops D al st og nq t0 ds w0 H j o (H j))
  (hG:∀ x w,Left D al og nq w0 H m x w->Rest P ops Q t0 ds m x w) :
  ∀ (fuel:Nat) (listed:Array Bool) (a:Act) (w:ag) (x:Nat->aq),listed.toList.count false=fuel->Inv (ops:=ops) (D:=D) (al:=al) (st:=st) (og:=og) (nq:=nq) (t0:=t0) (ds:=ds) (w0:=w0) H m listed a w x->wpAny P .any ops.toArray Q fuel listed a w:=by
 have hml:=rX hok;intro fuel
 induction fuel with
 | zero =>
  intro listed a w x hc I;rw[<-hc];refine finish hml I (fun j hj=>?_) hG;rw[Array.getD_eq_getD_getElem?,Array.getElem?_eq_getElem (by rw[I.ls];omega)];simp only[jb];have h0:=List.count_eq_zero.1 hc
  cases h:listed[j]'(by rw[I.ls];omega) with
  | true=>rfl
  | false=>exact absurd (by rw[<-h];simp) h0
 | succ fuel ih =>
  intro listed a w x hc I
  by_cases hall:∀ j,j<m->listed.getD j false=true
  ·rw[<-hc];exact finish hml I hall hG
  -- what may come up is one of the first m
  have En:∀ i,i ∈ rP .any ops.toArray listed->listed.getD i false=false/\∃ o,ops[i]?=some o/\(∀ j,(dep D i).contains j=true->listed.getD j false=true)/\i<m:=by
   intro i hi;obtain⟨h1,o,ho,h2⟩:=mem_ready.1 hi;have ji:ops[i]?=some o:=by simpa using ho
   have hlt:i<ops.length:=(List.getElem?_eq_some_iff.1 ji).1;obtain⟨c1,c2,c3,c4⟩:=n_ hok ji
   have hd:∀ j,(dep D i).contains j=true->listed.getD j false=true:=fun j hj=>by
    obtain⟨⟨e,he,hb,h3⟩,_⟩:=c2 j hj;rcases h3 with rfl | h3
    ·exact h2 e he hb
    exact I.dn _ (h2 e he hb) j h3
   refine⟨?_,o,ji,hd,c3.resolve_right fun h=>hall fun j hj=>hd j (h j hj)⟩;rw[Array.getD_eq_getD_getElem?,Array.getElem?_eq_getElem (by rw[I.ls];exact hlt)] at h1 ⊢;exact h1
  refine⟨fun hr=>?_,fun i hi=>?_⟩
  ·-- the least that has not come up may come up
   exfalso
   have hex:∃ j,listed.getD j false=false/\j<m:=by
    refine Classical.byContradiction fun h=>hall fun j hj=>?_
    cases h2:listed.getD j false with
    | true=>rfl
    | false=>exact absurd ⟨j,h2,hj⟩ h
   have hmin:∃ j,(listed.getD j false=false/\j<m)/\∀ i,i<j->listed.getD i false=true:=by
    obtain⟨j,h1,h2⟩:=hex
    induction j using Nat.strongRecOn with
    | ind j ihj =>
     by_cases vU:∃ i,i<j/\listed.getD i false=false
     ·obtain⟨i,h3,h4⟩:=vU;exact ihj i h3 h4 (by omega)
     refine⟨j,⟨h1,h2⟩,fun i hi=>?_⟩
     cases h5:listed.getD i false with
     | true=>rfl
     | false=>exact absurd ⟨i,hi,h5⟩ vU
   obtain⟨j,⟨h1,h2⟩,h3⟩:=hmin;have Ti:ops[j]?=some (ops[j]'(by omega)):=List.getElem?_eq_getElem (by omega)
   have:j ∈ rP .any ops.toArray listed:=mem_ready.2 ⟨by
    rw[Array.getD_eq_getD_getElem?,Array.getElem?_eq_getElem (by rw[I.ls];omega)] at h1 ⊢
    exact h1,_,by rw[g_];exact Ti,fun e he hb=>h3 _ ((n_ hok Ti).1 e he hb)⟩
   rw[hr] at this;cases this
  obtain⟨hun,o,ho,hd,DK⟩:=En i hi;obtain⟨o',ji,hR⟩:=hrun i DK;obtain rfl:o=o':=by rw[ho] at ji;exact Option.some.inj ji
  have qO:i<ops.length:=(List.getElem?_eq_some_iff.1 ho).1
  have hA:At ops D st og nq t0 w0 H i a.tmps (mask (dep D i) x) w:=by
   obtain⟨c1,c2,c3,c4⟩:=n_ hok ho;refine⟨I.be,I.bl,fun q hq hk'=>I.od q hq fun k' hlk Qb=>?_,fun j d hj hd'=>?_,fun j hj=>?_,fun t ht=>I.pre t fun j hj DI=>?_⟩
   ·rcases hk' k' Qb with e | e
    ·subst e;rw[hun] at hlk;cases hlk
    have:=I.dn k' hlk i e;rw[hun] at this;cases this
   ·rw[an hj];exact I.tm j d (hd j hj) hd'
   ·have e:mask (dep D j) (mask (dep D i) x)=mask (dep D j) x:=by
     funext q
     unfold mask
     by_cases hq:(dep D j).contains q=true
     ·rw[if_pos hq,if_pos hq,if_pos ((c2 j hj).2.1 q hq)]
     rw[if_neg hq,if_neg hq]
    rw[e,an hj];exact I.fa j (hd j hj)
   have lN:j<ops.length:=by have:=I.lt j hj;omega
   unfold R7.pre at ht;rw[dF] at ht;have h1:=ht j (List.mem_range.2 lN);simp only[e_,bne_iff_ne,ne_eq,beq_iff_eq] at h1;rcases h1 with (h1 | h1) | h1
   ·exact h1 DI
   ·subst h1;rw[hun] at hj;cases hj
   have:=I.dn j hj i h1;rw[hun] at this;cases this
  have r_:=hR a.tmps (mask (dep D i) x) w hA (fun a' w'=>∃ v,a'=(a.put o.dst v)/\Next al st og (H i) i (mask (dep D i) x) w v w') (fun v w' hN=>⟨v,by rw[<-I.df],hN⟩);have Qh:i<listed.size:=by rw[I.ls];exact qO
  have Ew:(listed.setIfInBounds i true).toList.count false=fuel:=by
   have h1:listed.toList[i]?=some false:=by
    rw[Array.getD_eq_getD_getElem?,Array.getElem?_eq_getElem (by rw[I.ls];exact qO)] at hun;rw[List.getElem?_eq_getElem (by simpa using Qh)]
    simpa using hun
   have:=pF h1;rw[hc] at this;rw[pU]
   omega
  have dD:∀ a' w',(∃ v,a'=(a.put o.dst v)/\Next al st og (H i) i (mask (dep D i) x) w v w')->wpAny P .any ops.toArray Q fuel (listed.setIfInBounds i true) a' w':=by
   rintro a' w' ⟨v,rfl,hN⟩;exact ih _ _ _ _ Ew (I.step hok ur C9 ik Ar hst ho DK hun hd hN)
  unfold wpOp;rw[show ops.toArray[i]?=some o by simpa using ho];simp only[];have XE:(⟨a.tmps,ds⟩:Act)=a:=by rw[<-I.df]
  rw[XE] at r_
  split
  ·rename_i hw
   rw[if_pos hw] at r_;exact Or.inl (Oper.DT (Go.Oper.wp_mono dD r_))
  rename_i hw
  rw[if_neg hw] at r_;exact dD _ _ r_
theorem MX {st:List (Nat × Nat)} (h:(st.all fun p=>decide (1000<=p.2))=true):∀ k i,own st k=some i->¬ i<1000:=by
 intro k i hi;unfold own at hi
 induction st with
 | nil=>cases hi
 | cons p l ih =>
  obtain⟨a,b⟩:=p;rw[List.all_cons,cV,decide_eq_true_eq] at h;rw[List.lookup_cons] at hi
  split at hi
  ·injection hi with hi;subst hi;have:=h.1;omega
  exact ih h.2 hi
theorem region {id:Nat} {w:ag} (hm:P.follows .mixedOrders=true) (D:List (List Nat)) (al:List Nat) (st:List (Nat × Nat)) (og:Nat->Nat) (nq:Nat) (m:Nat) (hok:ok ops D m t0.size=true) (ur:xL ops D al st nq=true) (C9:(st.all fun p=>decide (1000<=p.2))=true) (ik:∀ q,q<nq->og q<w.heap.size) (Ar:∀ q q',q<nq->q'<nq->q≠q'->og q≠og q')
  (h:aB P ops D al st og nq t0 ds w.drew m (Rest P ops Q t0 ds m) ops 0 []):(Code.region id ops.toArray true).wp P Q ⟨t0,ds⟩ w:=by
 refine wp_region_any hm ?_;have hml:=rX hok;obtain⟨H,_,h2,h3⟩:=aB.all (fun k j hk hj=>JM hok hj (by omega)) ops 0 [] rfl (au _) (fun j=>by rw[fM]) h;have hc:(nT ops.toArray.size false).toList.count false=ops.toArray.size:=by simp
 refine main (w0:=w.drew) hok ur (MX C9) ik Ar (fun j hj=>(h2 j (au _) hj).1) (fun j hj=>(h2 j (au _) hj).2) h3 _ _ _ _ (fun _=>undef) hc ?_
 have hno:∀ j,(nT ops.toArray.size false).getD j false=true->False:=fun j hj=>by
  rw[Array.getD_eq_getD_getElem?] at hj
  by_cases h:j<ops.length<;>simp[h] at hj
 exact⟨fun j _ hj=>(hno j hj).elim,fun _ _=>rfl,rfl,rfl,fun B _ _=>ax _ _,fun _ _ _=>rfl,fun _ _ _=>rfl,ai _,by simp,fun j hj=>(hno j hj).elim,fun j hj=>(hno j hj).elim,fun j hj=>(hno j hj).elim,fun j _ hj=>(hno j hj).elim,fun i j _ _ hj=>(hno i hj).elim⟩
theorem jE {x:Nat->aq} {w:ag} (h:Q .normal ⟨fill ops x 0 t0,ds⟩ w):Rest P ops Q t0 ds ops.length x w:=by
 unfold Rest;rw[Nat.sub_self,bK];refine⟨?_,h⟩;simp only[List.replicate_zero,List.append_nil];refine List.eq_nil_iff_forall_not_mem.2 (fun i hi=>?_);obtain⟨h1,o,ho,_⟩:=mem_ready.1 hi;have hlt:i<ops.length:=by have:=(Array.getElem?_eq_some_iff.1 ho).1;simpa using this
 simp[Array.getD_eq_getD_getElem?,hlt] at h1
end
end
def AV (n m:Nat):Array Bool:=(bJ m true++bJ (n - m) false).toArray
def uW (ops:List fL) (m:Nat):Bool:=(gR ops.length).all fun i=>decide (i<m) || rP .any ops.toArray (AV ops.length i)==[i]
theorem M7 {n m:Nat} (h:m<n):(AV n m).setIfInBounds m true=AV n (m+1):=by
 unfold AV
 apply Array.ext'
 rw[pU]
 show (bJ m true++bJ (n - m) false).set m true=bJ (m+1) true++bJ (n - (m+1)) false
 rw[List.set_append_right _ _ (by simp)];simp only[gI,Nat.sub_self];obtain⟨r,hr⟩:∃ r,n - m=r+1:=⟨n - m - 1,by omega⟩
 rw[hr,show n - (m+1)=r by omega,List.replicate_succ,List.set_cons_zero,List.replicate_succ',List.append_assoc]
 rfl
theorem Eb (ops:List fL):rP .any ops.toArray (AV ops.length ops.length)=[]:=by
 refine List.eq_nil_iff_forall_not_mem.2 (fun i hi=>?_);obtain⟨h1,o,ho,_⟩:=mem_ready.1 hi;have hlt:i<ops.length:=by have:=(Array.getElem?_eq_some_iff.1 ho).1;simpa using this
 simp[AV,Array.getD_eq_getD_getElem?,hlt] at h1
theorem yO {P:tG} {ops:List fL} {Q:Exit->Act->ag->Prop}:∀ (r m:Nat),m+r=ops.length->(∀ i,m<=i->i<ops.length->rP .any ops.toArray (AV ops.length i)=[i])->∀ a w,qy P ops.toArray Q (ops.drop m) a w->wpAny P .any ops.toArray Q r (AV ops.length m) a w
 | 0,m,hm,_,a,w,h=>by
  have e:m=ops.length:=by omega
  subst e;rw[List.drop_length] at h;exact⟨Eb ops,h⟩
 | r+1,m,hm,hr,a,w,h=>by
  have hlt:m<ops.length:=by omega
  have h0:=hr m (ai _) hlt;refine⟨(fun hn=>by rw[h0] at hn;cases hn),fun i hi=>?_⟩;rw[h0,aZ] at hi;subst hi;rw[List.drop_eq_getElem_cons hlt] at h;have ho:ops.toArray[i]?=some ops[i]:=by simp[hlt]
  have ih:=yO (P:=P) (Q:=Q) r (i+1) (by omega) (fun j hj hj'=>hr j (by omega) hj');unfold wpOp;rw[ho,M7 hlt];simp only[qy] at h ⊢
  split
  ·rename_i hw
   rw[if_pos hw] at h;rcases h with h | h
   ·exact .inl (Go.Oper.wp_mono (fun a' w' h'=>ih a' w' h') h)
   exact .inr h
  rename_i hw
  rw[if_neg hw] at h;exact ih _ _ h
theorem jD {P:tG} {ops:List fL} {Q:Exit->Act->ag->Prop} {t0:Array aq} {ds:List Deferred} {m:Nat} {x:Nat->aq} {w:ag} (hm:m<=ops.length) (hi:uW ops m=true)
  (h:qy P ops.toArray Q (ops.drop m) ⟨fill (ops.take m) x 0 t0,ds⟩ w):Rest P ops Q t0 ds m x w:=by
 unfold Rest;refine yO (ops.length - m) m (by omega) (fun i h1 h2=>?_) _ _ h;unfold uW at hi;have:=List.all_eq_true.1 hi i (List.mem_range.2 h2);simp only[e_,decide_eq_true_eq,beq_iff_eq] at this;exact this.resolve_left (by omega)
section
variable {P:tG} {ops:List fL} {D:List (List Nat)} {al:List Nat} {st:List (Nat × Nat)} {og:Nat → Nat} {nq:Nat} {t0:Array aq} {ds:List Deferred} {w0:ag}
theorem mi {L:List Nat} {x:Nat → aq} {j:Nat} (h:L.contains j=true):mask L x j=x j:=an h
theorem cd {m k:Nat} {G:(Nat → aq) → ag → Prop} {o:fL} {l:List fL} {F:List Fact} (f:(Nat → aq) → aq) (hr:∀ (T:Array aq) (x:Nat → aq) (w:ag),At ops D st og nq t0 w0 (fact F) k T x w → (execOp (Act.eval ⟨T,ds⟩) o).run P w=.ok (.value (f x)) w)
    (h:aB P ops D al st og nq t0 ds w0 m G l (k+1) ((fun x v _=>v=f x)::F)) (hp:plain al st k=true:=by rfl) (hw:∀ T:Array aq,lK o (yielded ops.toArray T)=true:=by (intro T;rfl)):aB P ops D al st og nq t0 ds w0 m G (o::l) k F:=aB.da f hp (fun T x w hA=>⟨hw T,hr T x w hA⟩) h
theorem At.tq {F:Nat → Fact} {k:Nat} {T:Array aq} {x:Nat → aq} {w:ag} (h:At ops D st og nq t0 w0 F k T x w) (j d:Nat) (h1:(dep D k).contains j=true:=by rfl) (h2:dL ops j=some d:=by rfl):T[d]?=some (x j):=h.tm j d h1 h2
theorem At.fq {F:Nat → Fact} {k:Nat} {T:Array aq} {x:Nat → aq} {w:ag} (h:At ops D st og nq t0 w0 F k T x w) (j:Nat) (h1:(dep D k).contains j=true:=by rfl):F j (mask (dep D j) x) (x j) w:=h.fa j h1
theorem At.pq {F:Nat → Fact} {k:Nat} {T:Array aq} {x:Nat → aq} {w:ag} (h:At ops D st og nq t0 w0 F k T x w) (t:Nat) (h1:R7.pre ops D k t=true:=by kernel_rfl):T[t]?=t0[t]?:=h.pre t h1
theorem b0_ {cur new:ag} (h:∀ B,B ≤ cur.drew.heap.size → (∀ q,q<0 → B ≤ og q) → aA B cur.drew new):aA cur.heap.size cur new:=(fun k:aA cur.heap.size cur.drew new=>⟨k.os,k.tape,k.output,k.size,k.block⟩) (h cur.heap.size (ai _) (fun _ h=>absurd h (ay _)))
theorem r0 {id:Nat} {w:ag} {Q:Exit → Act → ag → Prop} (D:List (List Nat)) (m:Nat) (h:aB P ops D [] [] (fun _=>0) 0 t0 ds w.drew m (Rest P ops Q t0 ds m) ops 0 []) (hm:P.follows .mixedOrders=true:=by kernel_rfl) (hok:ok ops D m t0.size=true:=by kernel_rfl) (ur:xL ops D [] [] 0=true:=by kernel_rfl):(Code.region id ops.toArray true).wp P Q ⟨t0,ds⟩ w:=
  region hm D [] [] (fun _=>0) 0 m hok ur rfl (fun q h=>absurd h (ay _)) (fun q q' h=>absurd h (ay _)) h
end
end R7
set_option linter.unusedVariables false
set_option linter.unusedSimpArgs false
theorem cI (a:cB) (i:Nat):(a.add i).block=a.block:=by unfold Addr.add;split<;>rfl
theorem lD (g o i:Nat):(⟨g,o,none⟩:cB).add i=⟨g,o+i,none⟩:=by simp[Addr.add]
theorem vn (a:cB) (i j:Nat):(a.add i).add j=a.add (i+j):=vm a i j
def pQ (l:List aq):Prop:=∀ u ∈ l,∀ z,u ≠ .int .u32 z
theorem nI {w w':ag} (h:aA w.heap.size w w') (row:Option Nat):w.grownBy w' row:=⟨h.os,h.tape,h.output,h.size,fun k hk _=>h.block k hk⟩
theorem pQ.app {a b:List aq} (h:pQ a) (k:pQ b):pQ (a++b):=fun u hu=>by
 rcases List.mem_append.1 hu with hu | hu
 ·exact h u hu
 exact k u hu
theorem pQ.take {a:List aq} (h:pQ a) (n:Nat):pQ (a.take n):=fun u hu=>h u (List.mem_of_mem_take hu)
theorem pQ.drop {a:List aq} (h:pQ a) (n:Nat):pQ (a.drop n):=fun u hu=>h u (List.mem_of_mem_drop hu)
theorem pQ.Fl {c:Array aq} (h:pQ c.toList) (n:Nat):pQ (jA c n).toList:=by
 intro u hu;unfold jA at hu;rw[Array.mem_toList_iff,Array.mem_map] at hu;obtain⟨i,hi,rfl⟩:=hu;rw[Array.mem_range] at hi
 have h0:0<c.size:=by
  rcases Nat.eq_zero_or_pos c.size with h0 | h0
  ·rw[h0] at hi;omega
  exact h0
 have hl:=dZ i h0;rw[getElem!_pos c _ hl];exact h _ (Array.mem_toList_iff.2 (Array.getElem_mem hl))
theorem pQ.flat {α:Type} {f:α->List aq} {l:List α} (h:∀ a,pQ (f a)):pQ (l.flatMap f):=fun u hu=>by
 obtain⟨a,_,ha⟩:=List.mem_flatMap.1 hu;exact h a u ha
structure Fr (e:bn) (w w':ag):Prop where
 block:∀ (g:Nat) (c:Array aq) (T:bn),w.heap[g]?=some (.cells c T (0,0))->T≠e->w'.heap[g]?=some (.cells c T (0,0))
 num:∀ (a:cB) (z:Int),w.cell? a=some (.int .u32 z)->w'.cell? a=some (.int .u32 z)
theorem Fr.refl (e:bn) (w:ag):Fr e w w:=⟨fun _ _ _ h _=>h,fun _ _ h=>h⟩
theorem Fr.aN {e:bn} {w w':ag} (h:aA w.heap.size w w'):Fr e w w':=
 ⟨fun g c T hg _=>by rw[h.block g (ae hg)];exact hg,fun a z hc=>by rw[h.cell (World.block_lt_of_cell? w a hc)];exact hc⟩
theorem vj {w:ag} {g:Nat} {c:Array aq} {T:bn} {fz:Nat × Nat} (h:w.heap[g]?=some (.cells c T fz)) (h32:pQ c.toList) {a:cB} (ha:a.block=g) (z:Int):w.cell? a≠some (.int .u32 z):=by
 intro hc;unfold World.cell? at hc;rw[ha,h] at hc;simp only at hc
 split at hc
 ·cases hc
 exact h32 _ (Array.mem_toList_iff.2 (Array.mem_of_getElem? hc)) z rfl
theorem Fr.aL {e:bn} {w w':ag} {r:Option Nat} (hg:w.grownBy w' r) (hr:∀ g,r=some g->∃ c,w.heap[g]?=some (.cells c e (0,0))/\pQ c.toList):Fr e w w':=
 ⟨fun g x T hx hT=>by
  rw[hg.block g (ae hx) (fun h=>by
   obtain⟨c,hc,-⟩:=hr g h.symm
   rw[hx] at hc;injection hc with hc;injection hc with _ hc;exact hT hc)];exact hx,
  fun a z hc=>by
  refine hg.cell hc (fun h=>?_);obtain⟨c,tj,h32⟩:=hr _ h.symm
  exact vj tj h32 rfl z hc⟩
theorem Sl.fr {e:bn} {w w':ag} {v:aq} {xs:List Nat} (h:Sl w .u32 v xs) (k:Fr e w w'):Sl w' .u32 v xs:=by
 obtain⟨ao,cap,e1,h1,h2,h3,h4⟩:=h;refine⟨ao,cap,e1,h1,h2,h3,fun i hi=>?_⟩;obtain⟨a,ha,hc⟩:=h4 i hi;exact⟨a,ha,k.num _ _ hc⟩
theorem CI.fr {e:bn} {w w':ag} {v:aq} {z:Int} {k:Nat} (h:CI w v z k) (f:Fr e w w'):CI w' v z k:=by
 obtain⟨va,h1,h2,h3⟩:=h;exact⟨va,h1,h2.fr f,h3⟩
theorem CI.mono {w:ag} {v:aq} {z:Int} {k k':Nat} (h:CI w v z k) (hk:k<=k'):CI w v z k':=by
 obtain⟨va,h1,h2,h3⟩:=h;exact⟨va,h1,h2,eT h3 hk⟩
structure El (α:Type) where
 e:bn
 t:bn
 n:Nat
 b:Nat
 z:aq
 f:α->List aq
 R:ag->α->Prop
 ok:bn->Prop
 pos:0<n
 I2:b<=1000
 zs:z.cells.size=n
 z32:pQ z.cells.toList
 ht:Tryz.prog.underlying t=some (.slice e)
 info:(Tryz.prog.info? e).map (fun i=>(i.zero,i.size,i.bytes))=some (some z,n,b)
 len:∀ a,(f a).length=n
 one:∀ a,∀ u ∈ f a,u.oneCell'=true
 n32:∀ a,pQ (f a)
 fr:∀ {e':bn} {w w':ag} {a:α},ok e'->Fr e' w w'->R w a->R w' a
 own:ok e
section
variable {α:Type} (E:El α)
theorem El.below {w w':ag} {a:α} (h:E.R w a) (hb:aA w.heap.size w w'):E.R w' a:=E.fr E.own (Fr.aN hb) h
theorem lB {α:Type} {n:Nat} (f:α->List aq) (hf:∀ a,(f a).length=n):∀ (l:List α) (i j:Nat) (hi:i<l.length),j<n->(l.flatMap f)[i*n+j]?=(f l[i])[j]?:=by
 intro l
 induction l with
 | nil=>intro i j hi;simp at hi
 | cons a l ih =>
  intro i j hi hj;rw[fI]
  cases i with
  | zero=>rw[Nat.zero_mul,fM,List.getElem?_append_left (by rw[hf];exact hj)];rfl
  | succ i =>
   rw[List.getElem?_append_right (by rw[hf,dH];omega),hf,show (i+1)*n+j - n=i*n+j by rw[dH];omega,List.getElem_cons_succ];exact ih i j (by simpa using hi) hj
theorem jI {α:Type} {n:Nat} (f:α->List aq) (hf:∀ a,(f a).length=n):∀ l:List α,(l.flatMap f).length=l.length*n:=by
 intro l
 induction l with
 | nil=>simp
 | cons a l ih=>rw[fI,eY,ih,hf,mS,dH];omega
structure El.Row (w:ag) (B:Nat) (v:aq) (el:List α):Prop where
 own:w.ownsRow B E.e E.n v el.length (el.flatMap E.f)
 n32:∀ g,v.ownBlock=some g->∃ c,w.heap[g]?=some (.cells c E.e (0,0))/\pQ c.toList
 rd:∀ a ∈ el,E.R w a
def El.At (w:ag) (v:aq) (el:List α):Prop:=∃ ko kc,v=.slice ko el.length kc/\(el.length<=kc/\kc<=bI/\(ko=none->kc=0)) /\
 ∀ i (h:i<el.length),∃ a,ko=some a/\(∃ c,w.heap[a.block]?=some (.cells c E.e (0,0)))/\(∀ j u,(E.f el[i])[j]?=some u->w.cell? (a.add (i*E.n+j))=some u)/\E.R w el[i]
variable {E}
theorem El.Row.nil (w:ag) (B:Nat):E.Row w B (.slice none 0 0) []:=⟨World.ownsRow_nil _ _ _ _,fun _ h=>(by cases h),fun q h=>(by cases h)⟩
theorem El.Row.form {w:ag} {B:Nat} {v:aq} {el:List α} (h:E.Row w B v el):∃ ko kc,v=.slice ko el.length kc/\el.length<=kc/\kc<=bI/\(ko=none->kc=0):=by
 rcases h.own.2 with ⟨rfl,h1⟩ | ⟨g,cap,cur,rfl,_,_,h1,h2,_⟩
 ·rw[h1];exact⟨_,_,rfl,ai _,au _,fun _=>rfl⟩
 exact⟨_,_,rfl,h1,h2,fun h=>by cases h⟩
theorem El.Row.ge {w:ag} {B:Nat} {v:aq} {el:List α} (h:E.Row w B v el) {j:Nat} (hj:v.ownBlock=some j):B<=j/\j<w.heap.size:=World.ownsRow.lt h.own j hj
theorem El.Row.below {w w':ag} {B:Nat} {v:aq} {el:List α} (h:E.Row w B v el) (hb:aA w.heap.size w w'):E.Row w' B v el:=by
 refine⟨?_,fun g hg=>?_,fun q hq=>E.below (h.rd q hq) hb⟩
 ·rcases hr:v.ownBlock with _ | j
  ·exact lG h.own (nI hb none) (.inl hr)
  exact lG h.own (nI hb none) (.inr (by rw[hr];intro e;cases e))
 obtain⟨c,hc,h32⟩:=h.n32 g hg;exact⟨c,by rw[hb.block g (ae hc)];exact hc,h32⟩
theorem El.Row.at {w:ag} {B:Nat} {v:aq} {el:List α} (h:E.Row w B v el):E.At w v el:=by
 obtain⟨ko,kc,rfl,h1⟩:=h.form;refine⟨ko,kc,rfl,h1,fun i hi=>?_⟩;rcases h.own.2 with ⟨hv,h0⟩ | ⟨g,cap,cur,hv,_,hg,h2,h3,h4,h5⟩
 ·omega
 injection hv with e1 e2 e3;subst e1;subst e3;refine⟨_,rfl,⟨cur,hg⟩,fun j u hu=>?_,h.rd _ (ct hi)⟩;have hj:j<E.n:=by have:=(List.getElem?_eq_some_iff.1 hu).1;rwa [E.len] at this
 rw[lD,fM,lU h.own (i*E.n+j) (by
  calc i*E.n+j<i*E.n+E.n:=by omega
   _=(i+1)*E.n:=by rw[dH];omega
   _<=el.length*E.n:=aV _ hi),lB E.f E.len el i j hi hj]
 exact hu
theorem El.At.nil (w:ag):E.At w (.slice none 0 0) []:=(El.Row.nil w 0).at
theorem El.At.fr {e':bn} {w w':ag} {v:aq} {el:List α} (h:E.At w v el) (hok:E.ok e') (hne:E.e≠e') (f:Fr e' w w'):E.At w' v el:=by
 obtain⟨ko,kc,rfl,h1,h2⟩:=h;refine⟨ko,kc,rfl,h1,fun i hi=>?_⟩;obtain⟨a,ha,⟨c,hc⟩,h3,h4⟩:=h2 i hi;have qB:=f.block _ _ _ hc hne;refine⟨a,ha,⟨c,qB⟩,fun j u hu=>?_,E.fr hok f h4⟩;rw[World.cell?_of_block (w:=w) (by rw[cI,hc,qB])];exact h3 j u hu
theorem El.At.below {w w':ag} {v:aq} {el:List α} (h:E.At w v el) (hb:aA w.heap.size w w'):E.At w' v el:=by
 obtain⟨ko,kc,rfl,h1,h2⟩:=h;refine⟨ko,kc,rfl,h1,fun i hi=>?_⟩;obtain⟨a,ha,⟨c,hc⟩,h3,h4⟩:=h2 i hi;have qB:=hb.block _ (ae hc);refine⟨a,ha,⟨c,by rw[qB];exact hc⟩,fun j u hu=>?_,E.below h4 hb⟩;rw[World.cell?_of_block (w:=w) (by rw[cI,qB])];exact h3 j u hu
theorem El.At.block {w:ag} {g:Nat} {el:List α} (h:w.heap[g]?=some (.cells (el.flatMap E.f).toArray E.e (0,0))) (hl:el.length<=bI) (hR:∀ a ∈ el,E.R w a):E.At w (.slice (some ⟨g,0,none⟩) el.length el.length) el:=by
 refine⟨_,_,rfl,⟨ai _,hl,fun h=>by cases h⟩,fun i hi=>⟨_,rfl,⟨_,h⟩,fun j u hu=>?_,hR _ (ct hi)⟩⟩;have hj:j<E.n:=by have:=(List.getElem?_eq_some_iff.1 hu).1;rwa [E.len] at this
 rw[lD,fM,eK w g _ _ _ _ h,g_,lB E.f E.len el i j hi hj];exact hu
theorem El.At.sub {w:ag} {ko:Option cB} {n kc:Nat} {el:List α} (h:E.At w (.slice ko n kc) el) {i j:Nat} (hij:i<=j) (hj:j<=el.length) :
  E.At w (sliced ko i j kc E.n) ((el.drop i).take (j - i)):=by
 obtain⟨AX,A2,e,⟨h1,h2,h3⟩,h4⟩:=h;injection e with e1 e2 e3;subst e1;subst e3;have hlen:((el.drop i).take (j - i)).length=j - i:=by simp;omega
 unfold sliced;refine⟨if kc=i then ko else ko.map (·.add (i*E.n)),kc - i,by rw[hlen],⟨by omega,by omega,fun h=>?_⟩,fun q hq=>?_⟩
 ·split at h
  ·omega
  cases ko with
  | none=>have:=h3 rfl;omega
  | some a=>cases h
 have hq':i+q<el.length:=by omega
 obtain⟨a,rfl,hc,h5,h6⟩:=h4 (i+q) hq';have hne:¬ kc=i:=by omega
 have hel:((el.drop i).take (j - i))[q]=el[i+q]:=by rw[List.getElem_take,List.getElem_drop]
 rw[if_neg hne,hel];refine⟨a.add (i*E.n),rfl,by rw[cI];exact hc,fun p u hu=>?_,h6⟩;rw[vn,show i*E.n+(q*E.n+p)=(i+q)*E.n+p by rw[dH];omega];exact h5 p u hu
theorem El.At.news {w:ag} {a:cB} {n kc:Nat} {el:List α} (h:E.At w (.slice (some a) n kc) el):∀ j u,(el.flatMap E.f)[j]?=some u->w.cell? (a.add j)=some u:=by
 intro j u hu;obtain⟨AX,A2,e,h1,h4⟩:=h;injection e with e1 e2 e3;have lN:j<el.length*E.n:=by have:=(List.getElem?_eq_some_iff.1 hu).1;rwa [jI E.f E.len] at this
 have hp:=E.pos;have hi:j / E.n<el.length:=(Nat.div_lt_iff_lt_mul hp).2 lN;have hm:j % E.n<E.n:=dZ _ hp;have hd:j / E.n*E.n+j % E.n=j:=by rw[Nat.mul_comm];exact Nat.div_add_mod j E.n
 obtain⟨b,hb,-,h5,-⟩:=h4 _ hi;rw[<-e1] at hb;injection hb with hb;subst hb;have:=h5 (j % E.n) u (by rw[<-lB E.f E.len el (j / E.n) (j % E.n) hi hm,hd];exact hu)
 rwa [hd] at this
theorem El.Row.run {w:ag} {B:Nat} {v x:aq} {el ns:List α} (h:E.Row w B v el) (hx:E.At w x ns) (ty:bn) (hlen:el.length+ns.length<=1000000) (hB:B<=w.heap.size) :
  ∃ v' w',(jv #[E.t,E.t] ty #[v,x]).run aj w=.ok v' w'/\E.Row w' B v' (el++ns)/\Fr E.e w w'/\aA B w w'/\w.grownBy w' v.ownBlock:=by
 obtain⟨i,hi,hz,gV,pJ⟩:=pS E.info;have ht:=E.ht;have hzs:=E.zs;have hbyte:=E.I2;have hsz:=E.pos;rcases x with _ | _ | _ | _ | _ | _ | ⟨ao,m,c⟩ | _ | _ | _ | _ | _ | _ | _ | _ | _<;>first | (obtain⟨_,_,e,_⟩:=hx;cases e;done) | skip
 have hm:m=ns.length:=by obtain⟨_,_,e,_⟩:=hx;injection e
 have fin:∀ v' w',E.Row w' B v' (el++ns)->w.grownBy w' v.ownBlock->E.Row w' B v' (el++ns)/\Fr E.e w w'/\aA B w w'/\w.grownBy w' v.ownBlock:=fun v' w' h1 h2 =>
  ⟨h1,.aL h2 h.n32,⟨h2.os,h2.tape,h2.output,h2.size,fun k hk=>h2.block k (by omega) (fun e=>by have:=(h.ge e.symm).1;omega)⟩,h2⟩
 cases ao with
 | none =>
  have h0:ns=[]:=by
   cases ns with
   | nil=>rfl
   | cons a l=>obtain⟨_,_,e,_,h4⟩:=hx;injection e with e1 e2 e3;subst e1;obtain⟨_,hb,_⟩:=h4 0 (by simp);cases hb
  have hc:c=0:=by obtain⟨_,_,e,⟨_,_,h3⟩,_⟩:=hx;injection e with e1 e2 e3;subst e1;subst e3;exact h3 rfl
  subst h0;subst hc;subst hm;refine⟨v,w,run_append_owned_none w B E.t ty E.e i E.n ht hi v el.length _ h.own,?_⟩;rw[List.append_nil];exact⟨h,Fr.refl _ _,ax _ _,aI _ _⟩
 | some a =>
  subst hm;have hnews:=hx.news;have hl:=jI E.f E.len ns
  have h1:∀ u ∈ ns.flatMap E.f,u.oneCell'=true:=fun u hu=>by
   obtain⟨b,_,hb⟩:=List.mem_flatMap.1 hu;exact E.one b u hb
  have h32:pQ (ns.flatMap E.f):=pQ.flat E.n32
  have dI:(el.length+ns.length)*i.bytes<=140737488355328:=by
   rw[pJ];exact ah (iU hlen hbyte) (by decide)
  have rL:el.length+ns.length<=bI:=by unfold bI;omega
  obtain⟨v',w',hr,h2,h3,h4⟩:=run_append_own (P:=aj) w B E.t ty E.e i E.z E.n E.b ht hi hz gV pJ hzs hsz v el.length _ h.own a ns.length c _ hl hnews h1 rL (by rw[<-pJ];exact dI) hB;refine⟨v',w',hr,fin v' w' ⟨?_,?_,?_⟩ h3⟩
  ·rw[eY,List.flatMap_append];exact h2
  ·rw[<-gV] at hl;have tV:(el.flatMap E.f).length=el.length*i.size:=by rw[gV];exact h.own.1
   intro g hg;rcases h.own.2 with ⟨rfl,h0⟩ | ⟨q,cap,cur,rfl,hbg,hgq,hnc,NG,hcs,htake⟩
   ·by_cases hm:ns.length=0
    ·have hnone:=h4.2 ⟨rfl,hm⟩;rw[hnone] at hg;cases hg
    have uB:=run_append_nil (P:=aj) w E.t ty E.e i E.z ht hi hz a ns.length c _ hl hnews (by omega) (by omega) (by have kH:=aV i.bytes (Nat.le_add_left ns.length el.length);omega);rw[hr] at uB;injection uB with e1 e2;subst e1 e2;injection hg with hg;subst hg;exact⟨_,bT w.drew _,by simp only[Array.toList_append,List.toList_toArray];exact h32.app (pQ.Fl E.z32 _)⟩
   obtain⟨cc,tj,Tu⟩:=h.n32 q rfl;rw[hgq] at tj;injection tj with tj;injection tj with tj;subst tj
   by_cases hroom:el.length+ns.length<=cap
   ·have hfit:el.length*i.size+(ns.flatMap E.f).length<=cur.size:=by rw[hl,hcs,<-gV,<-dH];exact aV _ hroom
    have uB:=run_append_room (P:=aj) w E.t ty E.e i ht hi q el.length cap cur hgq a ns.length c _ hl hnews h1 hroom hfit;rw[hr] at uB;injection uB with e1 e2;subst e1 e2;injection hg with hg;subst hg;exact⟨_,setRow_heap w q cur _ E.e _ hgq,by simp only[List.toList_toArray];exact ((Tu.take _).app h32).app (Tu.drop _)⟩
   have uB:=run_append_grow (P:=aj) w E.t ty E.e i E.z ht hi hz ⟨q,0,none⟩ el.length cap _ tV (h.own.cells (g:=q) rfl) a ns.length c _ hl hnews (by omega) (by omega) (growslice_fits (by omega) dI);rw[hr] at uB;injection uB with e1 e2;subst e1 e2;injection hg with hg;subst hg;exact⟨_,bT w.drew _,by simp only[Array.toList_append,List.toList_toArray];exact ((pQ.flat E.n32).app h32).app (pQ.Fl E.z32 _)⟩
  have f:Fr E.e w w':=.aL h3 h.n32;intro q hq;rcases List.mem_append.1 hq with hq | hq
  ·exact E.fr E.own f (h.rd q hq)
  obtain⟨k,hk,rfl⟩:=List.getElem_of_mem hq;obtain⟨_,_,_,_,h5⟩:=hx;obtain⟨_,_,_,_,h6⟩:=h5 k hk;exact E.fr E.own f h6
theorem El.Row.append {w:ag} {B:Nat} {v x:aq} {el ns:List α} (h:E.Row w B v el) {ops:Array fL} {rest:List fL} {o:fL} {a:Act} {Q:Exit->Act->ag->Prop} (hgd:o.guard=none) (s y:Operand)
  (ho:o.op=.call { callee:=.builtin .append,args:=#[s,y],argTypes:=#[E.t,E.t] }) (hs:a.eval s=v) (hx:a.eval y=x) (hxs:E.At w x ns) (hlen:el.length+ns.length<=1000000) (hB:B<=w.heap.size)
  (hK:∀ v' w',E.Row w' B v' (el++ns)->Fr E.e w w'->aA B w w'->w.grownBy w' v.ownBlock->qy aj ops Q rest (a.put o.dst v') w'):qy aj ops Q (o::rest) a w:=by
 refine wpList_plain hgd fun K hk=>?_
 obtain⟨v',w',hr,h1,h2,h3,h4⟩:=h.run hxs o.type hlen hB;unfold Oper.wp execOp;simp only[ho,resolve,invoke,builtin,Sem.run_bind,Sem.run_pure,rA,uz,aO,List.map_nil,hs,hx,hr];exact hk _ _ (hK v' w' h1 h2 h3 h4)
end
inductive V where
 | I (z:Int)
 | B (b:Bool)
 | L (l:List Int)
 deriving DecidableEq
def Kb (z:Int):List Int:=if z=0 then [] else 0::(if Int.tdiv z 2=0 then [] else [Int.tdiv z 2])
def shorter (l:List Int):List (List Int):=(gR l.length).map fun i=>l.take i++l.drop (i+1)
def MH (l:List Int):List (List Int):=(gR l.length).flatMap fun i=>(Kb (l.getD i 0)).map fun m=>l.take i++[m]++l.drop (i+1)
def Wu:V->List V
 | .I z=>(Kb z).map .I
 | .B _=>[]
 | .L l=>(shorter l).map .L++(MH l).map .L
structure NU where
 o:Option cB
 l:Nat
 c:Nat
 z:Int
def nC (n:NU):List aq:=[.bool (decide (n.z<0)),.slice n.o n.l n.c]
def nV (n:NU):aq:=.agg #[.bool (decide (n.z<0)),.slice n.o n.l n.c]
def NR (w:ag) (n:NU):Prop:=CI w (nV n) n.z 600
theorem Gh {w:ag} {v:aq} {z:Int} {k:Nat} (h:CI w v z k) (hk:k<=600):∃ n:NU,v=nV n/\n.z=z/\NR w n:=by
 have h0:=h;obtain⟨b,o,l,c,rfl⟩:=h.shape;obtain⟨va,e,_⟩:=h;injection e with e;have e0:=congrArg (fun t:Array aq=>t[0]?) e;injection e0 with e0;injection e0 with e0;refine⟨⟨o,l,c,z⟩,?_,rfl,?_⟩
 ·simp only[nV,e0]
 unfold NR nV;simp only;rw[<-e0];exact h0.mono hk
theorem Ks:(Tryz.prog.info? 26).map (fun i=>(i.zero,i.size,i.bytes))=some (some (.agg #[.bool false,.slice none 0 0]),2,32):=by kernel_rfl
theorem Ni:(Tryz.prog.info? 41).map (fun i=>(i.zero,i.size,i.bytes))=some (some (.agg #[.int .i64 0,.bool false,.slice none 0 0,.bool false,.slice none 0 0]),5,72):=by kernel_rfl
def nE:El NU where
 e:=26
 t:=39
 n:=2
 b:=32
 z:=.agg #[.bool false,.slice none 0 0]
 f:=nC
 R:=NR
 ok _:=True
 pos:=by decide
 I2:=by decide
 zs:=rfl
 z32:=by intro u hu z;simp only[Value.cells,bz,aU,or_false] at hu;rcases hu with rfl | rfl<;>(intro h;cases h)
 ht:=Tryz.underlying39
 info:=Ks
 len _:=rfl
 one n:=by
  intro u hu;simp only[nC,bz,aU,or_false] at hu;rcases hu with rfl | rfl<;>rfl
 n32 n:=by
  intro u hu z;simp only[nC,bz,aU,or_false] at hu;rcases hu with rfl | rfl<;>(intro h;cases h)
 fr _ f h:=CI.fr h f
 own:=trivial
structure VU where
 k:Int
 n:NU
 b:Bool
 lo:Option cB
 ll:Nat
 lc:Nat
 x:V
def vC (u:VU):List aq:=[.int .i64 u.k,.bool (decide (u.n.z<0)),.slice u.n.o u.n.l u.n.c,.bool u.b,.slice u.lo u.ll u.lc]
def vV (u:VU):aq:=.agg #[.int .i64 u.k,.bool (decide (u.n.z<0)),.slice u.n.o u.n.l u.n.c,.bool u.b,.slice u.lo u.ll u.lc]
def n0:NU:=⟨none,0,0,0⟩
def NL (w:ag) (v:aq) (zs:List Int):Prop:=∃ ns,nE.At w v ns/\ns.map (·.z)=zs
def VR (w:ag) (u:VU):Prop:=
 match u.x with
 | .I z=>u.k=0/\u.n.z=z/\NR w u.n/\u.b=false/\u.lo=none/\u.ll=0/\u.lc=0
 | .B b=>u.k=1/\u.n=n0/\u.b=b/\u.lo=none/\u.ll=0/\u.lc=0
 | .L zs=>u.k=2/\u.n=n0/\u.b=false/\NL w (.slice u.lo u.ll u.lc) zs
theorem NL.fr {e':bn} {w w':ag} {v:aq} {zs:List Int} (h:NL w v zs) (hne:26≠e') (f:Fr e' w w'):NL w' v zs:=by
 obtain⟨ns,h1,h2⟩:=h;exact⟨ns,h1.fr trivial hne f,h2⟩
theorem NL.below {w w':ag} {v:aq} {zs:List Int} (h:NL w v zs) (hb:aA w.heap.size w w'):NL w' v zs:=by
 obtain⟨ns,h1,h2⟩:=h;exact⟨ns,h1.below hb,h2⟩
theorem VR.fr {e':bn} {w w':ag} {u:VU} (h:VR w u) (hne:26≠e') (f:Fr e' w w'):VR w' u:=by
 unfold VR at h ⊢
 split at h
 ·obtain⟨h1,h2,h3,h4⟩:=h;exact⟨h1,h2,CI.fr h3 f,h4⟩
 ·exact h
 obtain⟨h1,h2,h3,h4⟩:=h;exact⟨h1,h2,h3,h4.fr hne f⟩
theorem VR.below {w w':ag} {u:VU} (h:VR w u) (hb:aA w.heap.size w w'):VR w' u:=h.fr (e':=153) (by decide) (Fr.aN hb)
def vE:El VU where
 e:=41
 t:=30
 n:=5
 b:=72
 z:=.agg #[.int .i64 0,.bool false,.slice none 0 0,.bool false,.slice none 0 0]
 f:=vC
 R:=VR
 ok e':=26≠e'
 pos:=by decide
 I2:=by decide
 zs:=rfl
 z32:=by intro u hu z;simp only[Value.cells,bz,aU,or_false] at hu;rcases hu with rfl | rfl | rfl | rfl | rfl<;>(intro h;cases h)
 ht:=Tryz.underlying30
 info:=Ni
 len _:=rfl
 one n:=by
  intro u hu;simp only[vC,bz,aU,or_false] at hu;rcases hu with rfl | rfl | rfl | rfl | rfl<;>rfl
 n32 n:=by
  intro u hu z;simp only[vC,bz,aU,or_false] at hu;rcases hu with rfl | rfl | rfl | rfl | rfl<;>(intro h;cases h)
 fr ok f h:=VR.fr h ok f
 own:=by decide
def VC (w:ag) (v:aq) (x:V):Prop:=∃ u:VU,v=vV u/\u.x=x/\VR w u
theorem VC.fr {e':bn} {w w':ag} {v:aq} {x:V} (h:VC w v x) (hne:26≠e') (f:Fr e' w w'):VC w' v x:=by
 obtain⟨u,h1,h2,h3⟩:=h;exact⟨u,h1,h2,h3.fr hne f⟩
theorem VC.below {w w':ag} {v:aq} {x:V} (h:VC w v x) (hb:aA w.heap.size w w'):VC w' v x:=by
 obtain⟨u,h1,h2,h3⟩:=h;exact⟨u,h1,h2,h3.below hb⟩
def VL (w:ag) (v:aq) (xs:List V):Prop:=∃ us,vE.At w v us/\us.map (·.x)=xs
theorem VC.int {w:ag} {v:aq} {z:Int} (h:VC w v (.I z)):∃ o l c,v=.agg #[.int .i64 0,.bool (decide (z<0)),.slice o l c,.bool false,.slice none 0 0]/\CI w (.agg #[.bool (decide (z<0)),.slice o l c]) z 600:=by
 obtain⟨u,rfl,h1,h2⟩:=h;unfold VR at h2;rw[h1] at h2;obtain⟨h3,h4,h5,h6,h7,h8,h9⟩:=h2;refine⟨u.n.o,u.n.l,u.n.c,?_,?_⟩
 ·unfold vV;rw[h3,h4,h6,h7,h8,h9]
 unfold NR nV at h5;rw[h4] at h5;exact h5
theorem VC.bool {w:ag} {v:aq} {b:Bool} (h:VC w v (.B b)):v=.agg #[.int .i64 1,.bool false,.slice none 0 0,.bool b,.slice none 0 0]:=by
 obtain⟨u,rfl,h1,h2⟩:=h;unfold VR at h2;rw[h1] at h2;obtain⟨h3,h4,h5,h7,h8,h9⟩:=h2;unfold vV;rw[h3,h4,h5,h7,h8,h9];rfl
theorem VC.list {w:ag} {v:aq} {zs:List Int} (h:VC w v (.L zs)):∃ o l c,v=.agg #[.int .i64 2,.bool false,.slice none 0 0,.bool false,.slice o l c]/\NL w (.slice o l c) zs:=by
 obtain⟨u,rfl,h1,h2⟩:=h;unfold VR at h2;rw[h1] at h2;obtain⟨h3,h4,h5,h6⟩:=h2;refine⟨u.lo,u.ll,u.lc,?_,h6⟩;unfold vV;rw[h3,h4,h5];rfl
theorem VC.mkI {w:ag} {v:aq} {z:Int} {k:Nat} (h:CI w v z k) (hk:k<=600):∃ o l c,v=.agg #[.bool (decide (z<0)),.slice o l c]/\VC w (.agg #[.int .i64 0,.bool (decide (z<0)),.slice o l c,.bool false,.slice none 0 0]) (.I z):=by
 obtain⟨n,rfl,rfl,hn⟩:=Gh h hk;exact⟨n.o,n.l,n.c,rfl,⟨0,n,false,none,0,0,.I n.z⟩,rfl,rfl,rfl,rfl,hn,rfl,rfl,rfl,rfl⟩
theorem VC.mkB (w:ag) (b:Bool):VC w (.agg #[.int .i64 1,.bool false,.slice none 0 0,.bool b,.slice none 0 0]) (.B b):=⟨⟨1,n0,b,none,0,0,.B b⟩,rfl,rfl,rfl,rfl,rfl,rfl,rfl,rfl⟩
theorem VC.mkL {w:ag} {o:Option cB} {l c:Nat} {zs:List Int} (h:NL w (.slice o l c) zs):VC w (.agg #[.int .i64 2,.bool false,.slice none 0 0,.bool false,.slice o l c]) (.L zs):=⟨⟨2,n0,false,o,l,c,.L zs⟩,rfl,rfl,rfl,rfl,rfl,h⟩
theorem NL.form {w:ag} {v:aq} {zs:List Int} (h:NL w v zs):∃ ko kc,v=.slice ko zs.length kc/\(zs.length<=kc/\kc<=bI)/\∀ i (hi:i<zs.length),∃ a o l c,ko=some a/\w.cell? (a.add (i*2))=some (.bool (decide (zs[i]<0)))/\w.cell? ⟨(a.add (i*2)).block,(a.add (i*2)).off+1,none⟩=some (.slice o l c)/\CI w (.agg #[.bool (decide (zs[i]<0)),.slice o l c]) zs[i] 600:=by
 obtain⟨ns,⟨ko,kc,rfl,⟨h1,h2,_⟩,h3⟩,rfl⟩:=h;refine⟨ko,kc,by simp,⟨by simpa using h1,h2⟩,fun i hi=>?_⟩;obtain⟨a,ha,-,h4,h5⟩:=h3 i (by simpa using hi);simp only[gp];exact⟨a,_,_,_,ha,h4 0 _ rfl,by have:=h4 1 _ rfl;rw[<-vn] at this;exact this,h5⟩
theorem VL.form {w:ag} {v:aq} {xs:List V} (h:VL w v xs):∃ ko kc,v=.slice ko xs.length kc/\(xs.length<=kc/\kc<=bI)/\∀ i (hi:i<xs.length),∃ a k b o l c d p m q,ko=some a /\
  (w.cell? (a.add (i*5))=some (.int .i64 k)/\w.cell? ⟨(a.add (i*5)).block,(a.add (i*5)).off+1,none⟩=some (.bool b)/\w.cell? ⟨(a.add (i*5)).block,(a.add (i*5)).off+2,none⟩=some (.slice o l c)/\w.cell? ⟨(a.add (i*5)).block,(a.add (i*5)).off+3,none⟩=some (.bool d)/\w.cell? ⟨(a.add (i*5)).block,(a.add (i*5)).off+4,none⟩=some (.slice p m q)) /\
  VC w (.agg #[.int .i64 k,.bool b,.slice o l c,.bool d,.slice p m q]) xs[i]:=by
 obtain⟨us,⟨ko,kc,rfl,⟨h1,h2,_⟩,h3⟩,rfl⟩:=h;refine⟨ko,kc,by simp,⟨by simpa using h1,h2⟩,fun i hi=>?_⟩;obtain⟨a,ha,-,h4,h5⟩:=h3 i (by simpa using hi);have hi':i<us.length:=by simpa using hi
 have g:∀ j q,(vC us[i])[j]?=some q->w.cell? ((a.add (i*5)).add j)=some q:=fun j q hj=>by rw[vn];exact h4 j q hj
 simp only[gp];exact⟨a,_,_,_,_,_,_,_,_,_,ha,⟨g 0 _ rfl,g 1 _ rfl,g 2 _ rfl,g 3 _ rfl,g 4 _ rfl⟩,_,rfl,rfl,h5⟩
theorem mA {w:ag} {k:Nat} (v0 v1:aq):w.grownBy ((w.setCell ⟨k,0,none⟩ v0).setCell ⟨k,1,none⟩ v1) (some k):=by
 refine aF ?_ _;refine aF ?_ _;exact aI _ _
theorem bR {w:ag} {k:Nat} (v0 v1 v2 v3 v4:aq):w.grownBy (((((w.setCell ⟨k,0,none⟩ v0).setCell ⟨k,1,none⟩ v1).setCell ⟨k,2,none⟩ v2).setCell ⟨k,3,none⟩ v3).setCell ⟨k,4,none⟩ v4) (some k):=by
 refine aF ?_ _;refine aF ?_ _;refine aF ?_ _;refine aF ?_ _;refine aF ?_ _;exact aI _ _
theorem jH {w w':ag} {B g:Nat} (h:w.grownBy w' (some g)) (hB:B<=w.heap.size) (hg:B<=g):aA B w w':=
 ⟨h.os,h.tape,h.output,h.size,fun k hk=>h.block k (by omega) (fun e=>by injection e with e;omega)⟩
theorem gG {w0 w:ag} {k:Nat} {c:Array aq} (hb:aA w0.heap.size w0 w) (hB:w.heap[k]?=some (.cells c 41 (0,0))) (h32:pQ c.toList) (hk:w0.heap.size<=k) (v0 v1 v2 v3 v4:aq) :
  Fr 41 w (((((w.setCell ⟨k,0,none⟩ v0).setCell ⟨k,1,none⟩ v1).setCell ⟨k,2,none⟩ v2).setCell ⟨k,3,none⟩ v3).setCell ⟨k,4,none⟩ v4)/\aA w0.heap.size w0 (((((w.setCell ⟨k,0,none⟩ v0).setCell ⟨k,1,none⟩ v1).setCell ⟨k,2,none⟩ v2).setCell ⟨k,3,none⟩ v3).setCell ⟨k,4,none⟩ v4):=
 ⟨.aL (bR v0 v1 v2 v3 v4) (fun g hg=>by injection hg with hg;subst hg;exact⟨_,hB,h32⟩),hb.trans ((jH (bR v0 v1 v2 v3 v4) (Nat.le_of_lt (by have:=ae hB;omega)) hk).mono (ai _))⟩
theorem AM {w0 w:ag} {k:Nat} {c:Array aq} (hb:aA w0.heap.size w0 w) (hB:w.heap[k]?=some (.cells c 26 (0,0))) (h32:pQ c.toList) (hk:w0.heap.size<=k) (v0 v1:aq) :
  Fr 26 w ((w.setCell ⟨k,0,none⟩ v0).setCell ⟨k,1,none⟩ v1)/\aA w0.heap.size w0 ((w.setCell ⟨k,0,none⟩ v0).setCell ⟨k,1,none⟩ v1):=
 ⟨.aL (mA v0 v1) (fun g hg=>by injection hg with hg;subst hg;exact⟨_,hB,h32⟩),hb.trans ((jH (mA v0 v1) (Nat.le_of_lt (by have:=ae hB;omega)) hk).mono (ai _))⟩
theorem qb {b:Bool} {o:Option cB} {l c:Nat}:pQ (#[Value.bool b,.slice o l c]:Array aq).toList:=by
 intro u hu z;simp only[bz,aU,or_false] at hu;rcases hu with rfl | rfl<;>(intro h;cases h)
theorem fb {k:Int} {b d:Bool} {o p:Option cB} {l c m q:Nat}:pQ (#[Value.int .i64 k,.bool b,.slice o l c,.bool d,.slice p m q]:Array aq).toList:=by
 intro u hu z;simp only[bz,aU,or_false] at hu;rcases hu with rfl | rfl | rfl | rfl | rfl<;>(intro h;cases h)
theorem aM (w:ag) (c:Array aq) (T:bn):∃ w1 k,w.alloc (.cells c T)=w1/\w.heap.size=k/\Hid (aA w.heap.size w w1)/\Hid (w.heap.size<=k)/\Hid (w1.heap[k]?=some (.cells c T (0,0))):=
 ⟨_,_,rfl,rfl,aa ((ax _ _).alloc (ai _) _),aa (ai _),aa (bT w _)⟩
theorem aS {w w':ag} {k:Nat} {o:Obj} (hb:aA w.heap.size w w') (h:Hid (w.heap[k]?=some o)):Hid (w'.heap[k]?=some o):=aa ((hb.block _ (ae h.out)).trans h.out)
theorem cO {w:ag} {g:Nat} {T:bn} {a b:aq} (h:w.heap[g]?=some (.cells #[a,b] T (0,0))) :
  w.cell? ⟨g,0,none⟩=some a/\w.cell? ⟨g,1,none⟩=some b/\w.frozen? ⟨g,0,none⟩=false/\w.frozen? ⟨g,1,none⟩=false:=
 ⟨af h 0 rfl,af h 1 rfl,aP h 0,aP h 1⟩
theorem ak {w:ag} {g:Nat} {T:bn} {a b c d e:aq} (h:w.heap[g]?=some (.cells #[a,b,c,d,e] T (0,0))) :
  (w.cell? ⟨g,0,none⟩=some a/\w.cell? ⟨g,1,none⟩=some b/\w.cell? ⟨g,2,none⟩=some c/\w.cell? ⟨g,3,none⟩=some d/\w.cell? ⟨g,4,none⟩=some e) /\
  w.frozen? ⟨g,0,none⟩=false/\w.frozen? ⟨g,1,none⟩=false/\w.frozen? ⟨g,2,none⟩=false/\w.frozen? ⟨g,3,none⟩=false/\w.frozen? ⟨g,4,none⟩=false:=
 ⟨⟨af h 0 rfl,af h 1 rfl,af h 2 rfl,af h 3 rfl,af h 4 rfl⟩,aP h 0,aP h 1,aP h 2,aP h 3,aP h 4⟩
theorem Dn (va:aq) (z:Int) (k:Nat) (w:ag) (hx:GI w va z k) (hk:k<=600) :
  aW aj 108 #[va] w fun e w'=>∃ v,e=.returned v/\CI w' v z k/\aA w.heap.size w w':=by
 obtain⟨b,ao,l,c,n,rfl,hg,rfl⟩:=hx.shape;go_enter Tryz.func108,Tryz.ntmps108;obtain⟨w1,k1,e1,F3,eH,iM,jl⟩:=aM w #[.bool b,.slice ao l c] 26;obtain⟨w2,k2,e2,Ir,dI,ff,nj⟩:=aM w1 #[.bool false,.slice none 0 0] 26;replace jl:=aS dI.out jl;have dm:=aa (eH.out.trans (dI.out.mono eH.out.size));have pe:w.heap.size<=k2:=ah eH.out.size ff.out;have HK:=aa pe;have fK:=aa (hg.below dm.out);clear pe hg hx;obtain⟨c0,c1,f0,f1⟩:=cO jl.out;go_wp2_with fail;refine (nH b _ n k w2 fK.out (by omega)).mono ?_;rintro e w3 ⟨v,rfl,hc,kH⟩;obtain⟨b2,o2,l2,d2,rfl⟩:=hc.shape;replace nj:=aS kH nj;replace dm:=aa (dm.out.trans (kH.mono dm.out.size));have HC:=aa hc;clear hc kH c0 c1 f0 f1;obtain⟨c0,c1,f0,f1⟩:=cO nj.out
 go_wp2_with fail;obtain⟨r1,r2⟩:=AM dm.out nj.out qb HK.out (.bool b2) (.slice o2 l2 d2);exact aD (v:=.agg #[.bool b2,.slice o2 l2 d2]) (by simp[results,Tryz.results108,go_sem,c0,c1]) rfl ⟨_,rfl,HC.out.fr r1,r2⟩
theorem nt (va:aq) (z:Int) (k:Nat) (w:ag) (hx:GI w va z k) (hk:k<=600) :
  aW aj 54 #[va] w fun e w'=>∃ v,e=.returned v/\VC w' v (.I z)/\aA w.heap.size w w':=by
 obtain⟨b,ao,l,c,n,rfl,hg,rfl⟩:=hx.shape;go_enter Tryz.func54,Tryz.ntmps54;obtain⟨w1,k1,e1,F3,eH,iM,jl⟩:=aM w #[.bool b,.slice ao l c] 26;obtain⟨w2,k2,e2,Ir,dI,ff,nj⟩:=aM w1 #[.int .i64 0,.bool false,.slice none 0 0,.bool false,.slice none 0 0] 41;replace jl:=aS dI.out jl;have dm:=aa (eH.out.trans (dI.out.mono eH.out.size));have pe:w.heap.size<=k2:=ah eH.out.size ff.out;have HK:=aa pe;have r7:=aa (hx.below dm.out);clear pe hg hx;obtain⟨c0,c1,f0,f1⟩:=cO jl.out;go_wp2_with fail;refine (Dn _ _ k w2 r7.out hk).mono ?_;rintro e w3 ⟨v,rfl,hc,kH⟩;obtain⟨o2,l2,d2,rfl,hv⟩:=VC.mkI hc hk;replace nj:=aS kH nj;replace dm:=aa (dm.out.trans (kH.mono dm.out.size));have HC:=aa hv;clear hc kH hv c0 c1 f0 f1
 obtain⟨⟨c0,c1,c2,c3,c4⟩,f0,f1,f2,f3,f4⟩:=ak nj.out;go_wp2_with fail;obtain⟨r1,r2⟩:=gG dm.out nj.out fb HK.out (.int .i64 0) (.bool (decide (sg b n<0))) (.slice o2 l2 d2) (.bool false) (.slice none 0 0);exact aD (v:=.agg #[.int .i64 0,.bool (decide (sg b n<0)),.slice o2 l2 d2,.bool false,.slice none 0 0]) (by simp[results,Tryz.results54,go_sem,c0,c1,c2,c3,c4]) rfl ⟨_,rfl,HC.out.fr (by decide) r1,r2⟩
theorem iR (b:Bool) (w:ag) :
  aW aj 62 #[.bool b] w fun e w'=>∃ v,e=.returned v/\VC w' v (.B b)/\aA w.heap.size w w':=by
 go_enter Tryz.func62,Tryz.ntmps62;obtain⟨w2,k2,e2,Ir,dI,ff,nj⟩:=aM w #[.int .i64 0,.bool false,.slice none 0 0,.bool false,.slice none 0 0] 41;obtain⟨⟨c0,c1,c2,c3,c4⟩,f0,f1,f2,f3,f4⟩:=ak nj.out;go_wp2_with fail;obtain⟨r1,r2⟩:=gG dI.out nj.out fb ff.out (.int .i64 1) (.bool false) (.slice none 0 0) (.bool b) (.slice none 0 0);exact aD (v:=.agg #[.int .i64 1,.bool false,.slice none 0 0,.bool b,.slice none 0 0]) (by simp[results,Tryz.results62,go_sem,c0,c1,c2,c3,c4]) rfl ⟨_,rfl,VC.mkB _ _,r2⟩
theorem vN (va vb:aq) (y z:Int) (k1 k2:Nat) (w:ag) (hx:GI w va y k1) (hy:GI w vb z k2) (h1:k1<=1000) (h2:k2<=1000) :
  aW aj 88 #[va,vb] w fun e w'=>e=.returned (.bool (decide (y=z)))/\aA w.heap.size w w':=by
 obtain⟨b,ao,l,c,n,rfl,hg,rfl⟩:=hx.shape;obtain⟨d,bo,m,q,p,rfl,uZ,rfl⟩:=hy.shape;go_enter Tryz.func88,Tryz.ntmps88;obtain⟨w1,k1,e1,F3,eH,iM,jl⟩:=aM w #[.bool b,.slice ao l c] 26;obtain⟨w2,k2,e2,Ir,dI,ff,nj⟩:=aM w1 #[.bool d,.slice bo m q] 26;replace jl:=aS dI.out jl;have dm:=aa (eH.out.trans (dI.out.mono eH.out.size));have r7:=aa (hx.below dm.out);have Rx:=aa (hy.below dm.out);clear hg uZ hx hy;obtain⟨c0,c1,f0,f1⟩:=cO jl.out;obtain⟨d0,d1,g0,g1⟩:=cO nj.out;go_wp2_with fail;refine (yA _ _ _ _ _ _ w2 r7.out Rx.out (by omega) (by omega)).mono ?_;rintro e w3 ⟨rfl,kH⟩;replace dm:=aa (dm.out.trans (kH.mono dm.out.size));have hs:(eX (sg b n - sg d p)==0)=decide (sg b n=sg d p):=by
  unfold eX;by_cases h:sg b n=sg d p
  ·rw[if_pos (by omega),decide_eq_true h];rfl
  rw[if_neg (by omega),decide_eq_false h];split<;>rfl
 go_wp2_with fail;go_ret;exact⟨by simp only[decide_eq_true_eq] at hs ⊢;rw[<-hs];rfl,dm.out⟩
theorem sV (w:ag):NR w n0:=⟨.slice none 0 0,rfl,by
 rw[show fJ aG n0.z.natAbs=[] from by simp[n0,fD]]
 exact⟨none,0,rfl,ai _,au _,fun _=>rfl,fun i hi=>absurd hi (ay _)⟩,eT (k:=0) (k':=600) (by decide) (by decide)⟩
def v0:VU:=⟨0,n0,false,none,0,0,.I 0⟩
theorem Wk (w:ag):VR w v0:=⟨rfl,rfl,sV w,rfl,rfl,rfl,rfl⟩
section
variable {α:Type} {E:El α}
theorem AT (E:El α) (a:α) (ha:E.f a=E.z.cells.toList) (n:Nat):(madeCells E.z.cells (n*E.n)).toList=(bJ n a).flatMap E.f:=by
 apply List.ext_getElem?;intro j;have hp:=E.pos;have hl:=jI E.f E.len (bJ n a);rw[gI] at hl;by_cases hj:j<n*E.n
 ·have hi:j / E.n<n:=(Nat.div_lt_iff_lt_mul hp).2 hj;have hm:j % E.n<E.n:=dZ _ hp;have hd:j / E.n*E.n+j % E.n=j:=by rw[Nat.mul_comm];exact Nat.div_add_mod j E.n
  have h1:=lB E.f E.len (bJ n a) (j / E.n) (j % E.n) (by simpa using hi) hm;rw[hd,List.getElem_replicate,ha] at h1;rw[h1];have W8:j % E.z.cells.size<E.z.cells.size:=dZ _ (by rw[E.zs];exact hp);rw[Array.getElem?_toList];simp only[madeCells,Array.getElem?_map,Array.getElem?_range,hj,if_true,Option.map_some];rw[getElem!_pos E.z.cells _ W8];simp only[<-E.zs];simp
 rw[List.getElem?_eq_none (by simp[size_madeCells];omega),List.getElem?_eq_none (by rw[hl];omega)]
theorem kX (E:El α) (a0:α) (ha:E.f a0=E.z.cells.toList) (hR:∀ w,E.R w a0) (w:ag) {ops:Array fL} {rest:List fL} {o:fL} {a:Act} {Q:Exit->Act->ag->Prop}
  (hg:o.guard=none) (l c:Operand) (hop:o.op=Op.makeSlice E.t l c) (B:Nat) (kl kc:IntKind) (L C:Int) (n:Nat) (hl:a.eval l=.int kl L) (hc:a.eval c=.int kc C) (hL:L=(n:Int)) (hC:C=(n:Int)) (hn:n<=1000000) (hB:B<=w.heap.size)
  (hK:∀ w',E.Row w' B (.slice (some ⟨w.heap.size,0,none⟩) n n) (bJ n a0)->aA w.heap.size w w'->qy aj ops Q rest (a.put o.dst (.slice (some ⟨w.heap.size,0,none⟩) n n)) w') :
  qy aj ops Q (o::rest) a w:=by
 obtain⟨i,hi,hz,gV,pJ⟩:=pS E.info;have hby:=E.I2;refine wpList_make_full w hg l c E.t hop B E.e i E.z E.n E.ht hi hz gV kl kc L C n hl hc hL hC (by rw[pJ];exact ah (iU hby hn) (by decide)) (by unfold bI;omega) hB ?_;intro w' h1 h2;have h3:=h1;rw[AT E a0 ha] at h3;refine hK w' ⟨?_,?_,?_⟩ ⟨h2.os,h2.tape,h2.output,h2.size,fun k hk=>h2.block k hk (by intro e;cases e)⟩
 ·rw[gI];exact h3
 ·intro g hg;rcases h1.2 with ⟨h,_⟩ | ⟨q,cap,cur,hv,_,hq,_,_,hcs,zj⟩
  ·cases h
  injection hv with e1 e2 e3;injection e1 with e1;subst e3;injection hg with hg;have hqg:q=g:=by rw[<-hg,e1]
  subst hqg;refine⟨cur,hq,?_⟩;rw[List.take_of_length_le (by rw[Array.length_toList,hcs];exact ai _),AT E a0 ha] at zj;rw[zj];exact pQ.flat E.n32
 intro q hq;rw[List.eq_of_mem_replicate hq];exact hR w'
theorem GU (l:List NU) (i:Nat) (a:NU) (hi:i<l.length):((l.flatMap nC).set (i*2) (.bool (decide (a.z<0)))).set (i*2+1) (.slice a.o a.l a.c)=(l.set i a).flatMap nC:=by
 induction l generalizing i with
 | nil=>simp at hi
 | cons b l ih =>
  cases i with
  | zero=>rfl
  | succ i =>
   have h1:=ih i (by simpa using hi);simp only[fI,nC,aR,List.nil_append,List.set_cons_succ,dH,LO,show i*2+2=i*2+1+1 from rfl,show i*2+1+1+1=(i*2+1)+1+1 from rfl];rw[<-h1]
theorem nB {c:Array aq} (h:pQ c.toList) (i:Nat) {v:aq} (hv:∀ z,v ≠ .int .u32 z):pQ (c.setIfInBounds i v).toList:=by
 intro u hu;rw[pU] at hu;rcases DC hu with hu | rfl
 ·exact h u hu
 exact hv
theorem El.Row.put {w:ag} {B g n kc:Nat} {el:List α} (h:E.Row w B (.slice (some ⟨g,0,none⟩) n kc) el) {w':ag} (i:Nat) (a:α) (hg:w.grownBy w' (some g)) (hown:w'.ownsRow B E.e E.n (.slice (some ⟨g,0,none⟩) n kc) n ((el.set i a).flatMap E.f))
  (h32:∃ c,w'.heap[g]?=some (.cells c E.e (0,0))/\pQ c.toList) (hn:n=el.length) (ha:E.R w a):E.Row w' B (.slice (some ⟨g,0,none⟩) n kc) (el.set i a)/\Fr E.e w w':=by
 have f:Fr E.e w w':=.aL hg (fun q hq=>by injection hq with hq;subst hq;exact h.n32 g rfl);refine⟨⟨by rw[List.length_set,<-hn];exact hown,fun q hq=>?_,fun q hq=>?_⟩,f⟩
 ·injection hq with hq;subst hq;exact h32
 rcases DC hq with hq | rfl
 ·exact E.fr E.own f (h.rd q hq)
 exact E.fr E.own f ha
end
theorem Row.xK {w:ag} {B g n kc:Nat} {el:List NU} (h:nE.Row w B (.slice (some ⟨g,0,none⟩) n kc) el) (i:Nat) (hi:i<el.length) (hn:n=el.length) (a:NU) (ha:NR w a) :
  nE.Row ((w.setCell ⟨g,i*2,none⟩ (.bool (decide (a.z<0)))).setCell ⟨g,i*2+1,none⟩ (.slice a.o a.l a.c)) B (.slice (some ⟨g,0,none⟩) n kc) (el.set i a)/\Fr nE.e w ((w.setCell ⟨g,i*2,none⟩ (.bool (decide (a.z<0)))).setCell ⟨g,i*2+1,none⟩ (.slice a.o a.l a.c))/\w.grownBy ((w.setCell ⟨g,i*2,none⟩ (.bool (decide (a.z<0)))).setCell ⟨g,i*2+1,none⟩ (.slice a.o a.l a.c)) (some g):=by
 have hg:w.grownBy ((w.setCell ⟨g,i*2,none⟩ (.bool (decide (a.z<0)))).setCell ⟨g,i*2+1,none⟩ (.slice a.o a.l a.c)) (some g):=by
  refine aF ?_ _;refine aF ?_ _;exact aI _ _
 have h0:=h.own;rw[<-hn] at h0;have h1:=(fG (fG h0 (i*2) (.bool (decide (a.z<0)))).1 (i*2+1) (.slice a.o a.l a.c)).1;have h2:=GU el i a hi;have e:nE.f=nC:=rfl;rw[e,h2] at h1;obtain⟨c,hc,h32⟩:=h.n32 g rfl;obtain⟨q1,q2⟩:=h.put i a hg h1 ⟨_,aC _ g _ _ _ _ (aC _ g _ _ _ _ hc),nB (nB h32 _ (by intro z e;cases e)) _ (by intro z e;cases e)⟩ hn ha;exact⟨q1,q2,hg⟩
theorem NL.cells {w:ag} {ko:Option cB} {n kc:Nat} {zs:List Int} (h:NL w (.slice ko n kc) zs):(n=zs.length/\n<=kc/\kc<=bI)/\∀ i (hi:i<zs.length),∃ a o l c,ko=some a/\w.cell? (a.add (i*2))=some (.bool (decide (zs[i]<0)))/\w.cell? ⟨(a.add (i*2)).block,(a.add (i*2)).off+1,none⟩=some (.slice o l c)/\CI w (.agg #[.bool (decide (zs[i]<0)),.slice o l c]) zs[i] 600:=by
 obtain⟨AX,A2,e,⟨h1,h2⟩,h3⟩:=h.form;injection e with e1 e2 e3;subst e1;subst e2;subst e3;exact⟨⟨rfl,h1,h2⟩,h3⟩
theorem Br {el:List NU} {zs:List Int} {j:Nat} {n:NU} (h:(el.take j).map (·.z)=zs.take j) (hj:j<el.length) (hz:j<zs.length) (hn:n.z=zs[j]):((el.set j n).take (j+1)).map (·.z)=zs.take (j+1):=by
 rw[bH (by simpa using hj),List.take_set_of_le (ai _),List.getElem_set_self,cn,h,bH hz]
 simp[hn]
theorem Row.at2 {w:ag} {B g n kc:Nat} {el:List NU} (h:nE.Row w B (.slice (some ⟨g,0,none⟩) n kc) el) (hn:n=el.length) {i:Nat} (hi:i<n):∃ q:NU,w.cell? ⟨g,i*2,none⟩=some (.bool (decide (q.z<0)))/\w.cell? ⟨g,i*2+1,none⟩=some (.slice q.o q.l q.c)/\w.frozen? ⟨g,i*2,none⟩=false/\w.frozen? ⟨g,i*2+1,none⟩=false:=by
 have h0:=h.own;rw[<-hn] at h0;refine⟨el[i]'(by omega),?_,?_,World.ownsRow.frozenAt h0 _,World.ownsRow.frozenAt h0 _⟩
 ·rw[lU h0 (i*2) (by show i*2<n*2;omega)];exact lB (n:=2) nC (fun _=>rfl) el i 0 (by omega) (by decide)
 rw[lU h0 (i*2+1) (by show i*2+1<n*2;omega)];exact lB (n:=2) nC (fun _=>rfl) el i 1 (by omega) (by decide)
def Uv (w:ag) (k1 k2 k3 n:Nat) (zs:List Int) (i:aq) (wr:ag):Prop:=
 ∃ (j:Nat) (el:List NU),i=.int .i64 (j:Nat)/\j<=n/\Hid (el.length=n/\(el.take j).map (·.z)=zs.take j)/\Hid (nE.Row wr w.heap.size (.slice (some ⟨k2,0,none⟩) n n) el) /\
  Hid (wr.heap[k1]?=some (.cells #[.int .i64 0,.bool false,.slice none 0 0,.bool false,.slice none 0 0] 41 (0,0)))/\Hid (wr.heap[k3]?=some (.cells #[.int .i64 2,.bool false,.slice none 0 0,.bool false,.slice (some ⟨k2,0,none⟩) n n] 41 (0,0)))/\Hid (aA w.heap.size w wr)
theorem rY (va:aq) (zs:List Int) (w:ag) (hx:NL w va zs) (hlen:zs.length<=100000) :
  aW aj 61 #[va] w fun e w'=>∃ v,e=.returned v/\VC w' v (.L zs)/\aA w.heap.size w w':=by
 obtain⟨ko,kc,rfl,⟨hq1,hq2⟩,-⟩:=hx.form;have HX:=aa hx;clear hx;obtain⟨n,hn⟩:∃ n,n=zs.length:=⟨_,rfl⟩;rw[<-hn] at hlen hq1 HX ⊢;have rL:kc<=9223372036854775807:=hq2;have HN:=aa hn;clear hn;go_enter Tryz.func61,Tryz.ntmps61;obtain⟨x1,k1,e1,F3,eH,iM,jl⟩:=aM w #[.int .i64 0,.bool false,.slice none 0 0,.bool false,.slice none 0 0] 41;obtain⟨k2,KT⟩:∃ k,x1.heap.size=k:=⟨_,rfl⟩;have Xd:w.heap.size<=k2:=by rw[<-KT];exact eH.out.size
 have aJq:k1<k2:=by rw[<-KT];exact ae jl.out
 go_wp2_with (first | (at_make;refine kX nE n0 rfl sV _ rfl _ _ rfl w.heap.size _ _ _ _ n rfl rfl (by first | rfl | simp) (by first | rfl | simp) (by omega) eH.out.size ?_;intro y2 hrow dI) | fail);rw[KT] at hrow dI;replace dI:aA x1.heap.size x1 y2:=by rw[KT];exact dI
 obtain⟨x3,k3,e3,XY,kH,tW,Cr⟩:=aM y2 #[.int .i64 2,.bool false,.slice none 0 0,.bool false,.slice (some ⟨k2,0,none⟩) n n] 41;replace jl:=aS kH.out (aS dI jl);have HW:=aa (eH.out.trans ((dI.trans (kH.out.mono dI.size)).mono eH.out.size));have HR:=aa (hrow.below kH.out);skip;have h23:k2<k3:=by rw[<-XY];exact (hrow.ge rfl).2
 have h23:=h23;clear hrow dI;try rw[KT]
 rw[e3,XY];clear e3 XY e1 F3;go_loopw [12] (Uv w k1 k2 k3 n zs) (fun i _=>n - (ei i).toNat)
 case atStart=>exact⟨0,_,rfl,au _,aa ⟨gI,rfl⟩,HR,jl,Cr,HW⟩
 case round =>
  clear HR jl Cr HW eH kH;obtain⟨j,el,rfl,hj,HE,HR,jl,Cr,HW⟩:=hrel;by_cases hlt:j<n
  ·have hz:j<zs.length:=by rw[<-HN.out];exact hlt
   obtain⟨a,o,l,c,rfl,c0,c1,hc⟩:=(HX.out.below HW.out).cells.2 j hz;obtain⟨z,Hr⟩:∃ z,z=zs[j]:=⟨_,rfl⟩;rw[<-Hr] at c0 hc;have HZ:=aa Hr;have HC:=aa hc;clear Hr hc;obtain⟨AD,k5,e5,ek5,we,hk5,wI⟩:=aM wr #[.bool (decide (z<0)),.slice o l c] 26;replace jl:=aS we.out jl;replace Cr:=aS we.out Cr;replace HC:=aa (HC.out.below we.out);replace HR:=aa (HR.out.below we.out);replace HW:=aa (HW.out.trans (we.out.mono HW.out.size));go_upto_region 5 with fail;clear c0 c1;have OK:=ae Cr.out;have OJ:=ae wI.out;have ik:Hid (∀ q,q<0->(fun q=>0) q<AD.heap.size):=aa (fun q h=>absurd h (ay _))
   refine R7.region (by kernel_rfl) [[],[0],[],[],[3],[0,1,2,3,4],[0,1,2,3,4,5]] [] [] (fun q=>0) 0 6 (by kernel_rfl) (by kernel_rfl) (by rfl) ik.out (fun q q' h h' hn=>absurd hn (by omega)) ?_;refine R7.aB.da ?_ (by rfl) (fun T xs wr hA=>?_) ?_;rotate_left 1
   ·have e3:=hA.pre 3 (by kernel_rfl);simp only[g_,iC,iz] at e3;clear hA;refine⟨(by rfl),?_⟩;go_simp<;>(try with_reducible rfl)
   refine R7.aB.da ?_ (by rfl) (fun T xs wr hA=>?_) ?_;rotate_left 1
   ·have QJ:=hA.tm 0 17 (by rfl) (by rfl);have f17:xs 0=_:=hA.fa 0 (by rfl);(try simp (disch:=first | rfl | decide) only [R7.an] at f17);rw[f17] at QJ;clear f17;have bx:wr.heap[k3]?=_:=(hA.bl _ OK (fun q h=>absurd h (ay _))).trans Cr.out;have q0:=af (v:=.int .i64 2) bx 0 rfl;have q1:=af (v:=.bool false) bx 1 rfl;have q2:=af (v:=.slice none 0 0) bx 2 rfl;have q3:=af (v:=.bool false) bx 3 rfl;have q4:=af (v:=.slice (some ⟨k2,0,none⟩) n n) bx 4 rfl;clear bx;clear hA;refine⟨(by rfl),?_⟩;go_simp<;>(try with_reducible rfl)
   refine R7.aB.da ?_ (by rfl) (fun T xs wr hA=>?_) ?_;rotate_left 1
   ·have e4:=hA.pre 4 (by kernel_rfl);simp only[g_,iC,iz] at e4;clear hA;refine⟨(by rfl),?_⟩;go_simp<;>(try with_reducible rfl)
   refine R7.aB.da ?_ (by rfl) (fun T xs wr hA=>?_) ?_;rotate_left 1
   ·have e5:=hA.pre 5 (by kernel_rfl);simp only[g_,iC,iz] at e5;have bx:wr.heap[k5]?=_:=(hA.bl _ OJ (fun q h=>absurd h (ay _))).trans wI.out;have q0:=af (v:=.bool (decide (z<0))) bx 0 rfl;have q1:=af (v:=.slice o l c) bx 1 rfl;clear bx;clear hA;refine⟨(by rfl),?_⟩;go_simp<;>(try with_reducible rfl)
   refine R7.aB.call (fun xs v w=>∃ m:NU,v=nV m/\m.z=z/\NR w m) (fun _ _ _ _ h hb=>by obtain⟨m,h1,h2,h3⟩:=h;exact⟨m,h1,h2,nE.below h3 hb⟩) (fun _ _ _ _ _ _ h _=>by obtain⟨q,hq,_⟩:=h;exact absurd hq (ay _)) (by rfl) (fun T xs wr hA=>?_) ?_
   ·have th:=(hA.be 0 (au _) (fun _ _=>au _)).size;have Lj:=hA.tm 3 20 (by rfl) (by rfl);have f20:xs 3=_:=hA.fa 3 (by rfl);(try simp (disch:=first | rfl | decide) only [R7.an] at f20);rw[f20] at Lj;clear f20;have kD:=cm (hA.be AD.heap.size (ai _) (fun q h=>absurd h (ay q)));clear hA;refine⟨(by rfl),fun K hK=>?_⟩;go_simp;refine (Dn _ z 600 wr (HC.out.below kD).gi (by decide)).mono ?_;rintro e w' ⟨v,rfl,hc,hb'⟩;exact hK.out _ _ (Gh hc (by decide)) hb'
   refine R7.aB.da ?_ (by rfl) (fun T xs wr hA=>?_) ?_;rotate_left 1
   ·have QI:=hA.tm 1 18 (by rfl) (by rfl);have f18:xs 1=_:=hA.fa 1 (by rfl);(try simp (disch:=first | rfl | decide) only [R7.an] at f18);rw[f18] at QI;clear f18;have Dh:=hA.tm 2 19 (by rfl) (by rfl);have f19:xs 2=_:=hA.fa 2 (by rfl);(try simp (disch:=first | rfl | decide) only [R7.an] at f19);rw[f19] at Dh;clear f19;clear hA;refine⟨(by rfl),?_⟩;go_simp<;>(try with_reducible rfl)
   refine R7.aB.done (fun xs Vp hL=>?_);obtain⟨⟨iY,dw⟩,hf,-,-⟩:=hL;have f0:xs 0=_:=hf 0 (by decide);(try simp (disch:=first | rfl | decide) only [R7.an] at f0);have f1:xs 1=_:=hf 1 (by decide);(try simp (disch:=first | rfl | decide) only [R7.an] at f1);have f2:xs 2=_:=hf 2 (by decide);(try simp (disch:=first | rfl | decide) only [R7.an] at f2);have f3:xs 3=_:=hf 3 (by decide);(try simp (disch:=first | rfl | decide) only [R7.an] at f3);have F4:∃ m:NU,(xs 4)=nV m/\m.z=z/\NR Vp m:=hf 4 (by decide);have f5:xs 5=_:=hf 5 (by decide);(try simp (disch:=first | rfl | decide) only [R7.an] at f5);have hb0:aA 0 AD Vp:=cm (iY 0 (au _) (fun _ _=>au _));have mP:∀ j,j<AD.heap.size->(∀ q,q<0->(fun q=>0) q≠j)->Vp.heap[j]?=AD.heap[j]?:=dw
   clear iY dw hf;have hb:aA AD.heap.size AD Vp:=⟨hb0.os,hb0.tape,hb0.output,hb0.size,fun q hq=>mP q hq (fun q h=>absurd h (ay _))⟩;refine R7.jD (by decide) (by kernel_rfl) ?_;simp only[R7.fill,Jo,Jn,Jm,Jl,GG,GF,GD,f0,f1,f2,f3,f5];clear hb0 mP ik OK OJ f0 f1 f2 f3 f5;replace jl:=aS hb jl;replace Cr:=aS hb Cr;replace HR:=aa (HR.out.below hb);replace HW:=aa (HW.out.trans (hb.mono HW.out.size));replace hb:=aa hb;obtain⟨m,hv,hm,hr⟩:=F4;rw[show (0+1+1+1+1:Nat)=4 from rfl,hv];have HM:=aa hm;have HMR:=aa hr;have hel:=HE.out.1;have Mi:=aa hel;obtain⟨q,g0,g1,g2,g3⟩:=Row.at2 HR.out hel.symm hlt;clear hv hm hr hel;simp only[nV];go_wp2_with fail;go_roundw
   case rel =>
    obtain⟨r1,r2,r3⟩:=Row.xK HR.out j (by rw[Mi.out];exact hlt) Mi.out.symm m HMR.out;skip;refine⟨j+1,el.set j m,by go_num,hlt,aa ⟨by rw[List.length_set];exact Mi.out,Br HE.out.2 (by rw[Mi.out];exact hlt) hz (by rw[HM.out,HZ.out])⟩,aa r1,aa ((r3.block _ (ae jl.out) (fun e=>by injection e with e;omega)).trans jl.out),aa ((r3.block _ (ae Cr.out) (fun e=>by injection e with e;omega)).trans Cr.out),aa (HW.out.trans ((jH r3 HW.out.size Xd).mono (ai _)))⟩
   case measure=>simp[ei];omega
  have e:j=n:=by omega
  subst e;clear hlt;obtain⟨⟨c0,c1,c2,c3,c4⟩,cA,cG,cF,cE,cC⟩:=ak jl.out;obtain⟨⟨d0,d1,d2,d3,d4⟩,tK,A_,Ik,Ij,Ii⟩:=ak Cr.out;go_wp2_with fail;obtain⟨r1,r2⟩:=gG HW.out jl.out fb iM.out (.int .i64 2) (.bool false) (.slice none 0 0) (.bool false) (.slice (some ⟨k2,0,none⟩) j j);have ht:NL wr (.slice (some ⟨k2,0,none⟩) j j) zs:=⟨el,HR.out.at,by have e:=HE.out.2;rwa [<-HE.out.1,bK,HE.out.1,HN.out,bK] at e⟩;exact aD (v:=.agg #[.int .i64 2,.bool false,.slice none 0 0,.bool false,.slice (some ⟨k2,0,none⟩) j j]) (by simp[results,Tryz.results61,go_sem,c0,c1,c2,c3,c4]) rfl ⟨_,rfl,(VC.mkL ht).fr (by decide) r1,r2⟩
theorem yF {α:Type} {L M:List α} {k:Nat} (h:L.take k=M.take k) (h1:k<L.length) (h2:k<M.length) (e:L[k]=M[k]):L.take (k+1)=M.take (k+1):=by
 rw[bH h1,bH h2,h,e]
theorem Le (va vb:aq) (L M:List Int) (w:ag) (h1:NL w va L) (h2:NL w vb M) :
  aW aj 89 #[va,vb,.func (.func 88) #[] #[]] w fun e w'=>e=.returned (.bool (decide (L=M)))/\aA w.heap.size w w':=by
 obtain⟨ko,kc,rfl,⟨hq1,hq2⟩,-⟩:=h1.form;obtain⟨po,pc,rfl,⟨hr1,uB⟩,-⟩:=h2.form;have rL:kc<=9223372036854775807:=hq2;have hmy:pc<=9223372036854775807:=uB;have HX:=aa h1;have HY:=aa h2;clear h1 h2 hq2 uB;by_cases hl:L.length=M.length
 ·have hne:(((L.length:Nat):Int) != ((M.length:Nat):Int))=false:=by rw[hl];exact bne_self_eq_false _
  have HL:=aa hl;obtain⟨n,hn⟩:∃ n,n=L.length:=⟨_,rfl⟩;rw[<-hn] at HL hne hq1 HX ⊢;obtain⟨n',hn'⟩:∃ n,n=M.length:=⟨_,rfl⟩;rw[<-hn'] at HL hne hr1 HY ⊢;have HN:=aa hn;have UQ:=aa hn';clear hl hn hn';go_enter Tryz.func89,Tryz.ntmps89;go_wp2_with fail;clear hne;go_loopw [17] (fun i wr=>∃ j:Nat,i=.int .i64 (j:Nat)/\j<=n/\Hid (L.take j=M.take j)/\Hid (aA w.heap.size w wr)) (fun i _=>n - (ei i).toNat)
  case atStart=>exact⟨0,rfl,au _,aa rfl,aa (ax _ _)⟩
  case round =>
   obtain⟨j,rfl,hj,HT,HW⟩:=hrel;by_cases hlt:j<n
   ·have hz:j<L.length:=by rw[<-HN.out];exact hlt
    have pJ:j<M.length:=by rw[<-UQ.out,<-HL.out];exact hlt
    have Hz:j<n':=by rw[<-HL.out];exact hlt
    obtain⟨a,o,l,c,rfl,c0,c1,hc⟩:=(HX.out.below HW.out).cells.2 j hz;obtain⟨b,p,m,q,rfl,d0,d1,hd⟩:=(HY.out.below HW.out).cells.2 j pJ;obtain⟨x,vA⟩:∃ x,x=L[j]:=⟨_,rfl⟩;obtain⟨y,Em⟩:∃ y,y=M[j]:=⟨_,rfl⟩;rw[<-vA] at c0 hc;rw[<-Em] at d0 hd;obtain⟨sx,zk⟩:∃ s,s=decide (x<0):=⟨_,rfl⟩;obtain⟨sy,Zr⟩:∃ s,s=decide (y<0):=⟨_,rfl⟩;rw[<-zk] at c0 hc;rw[<-Zr] at d0 hd;clear zk Zr;have UB:=aa vA;have UA:=aa Em;have HC:=aa hc;have HD:=aa hd;clear vA Em hc hd;obtain⟨x1,k8,e8,VP,Ae,Qf,Aj⟩:=aM wr #[.bool sx,.slice o l c] 26;replace HC:=aa (HC.out.below Ae.out);replace HD:=aa (HD.out.below Ae.out);replace HW:=aa (HW.out.trans (Ae.out.mono HW.out.size));rw[<-Ae.out.cell (by have:=cu d0;exact this)] at d0
    rw[<-Ae.out.cell (by have:=cu d1;exact this)] at d1;obtain⟨x2,k9,e9,ek9,OT,LV,IJ⟩:=aM x1 #[.bool sy,.slice p m q] 26;replace Aj:=aS OT.out Aj;replace HC:=aa (HC.out.below OT.out);replace HD:=aa (HD.out.below OT.out);replace HW:=aa (HW.out.trans (OT.out.mono HW.out.size));obtain⟨g0,g1,ni,nh⟩:=cO Aj.out;obtain⟨i0,i1,fi0,fi1⟩:=cO IJ.out;by_cases he:x=y
    ·have KX:decide (x=y)=true:=by simp[he]
     have HE:=aa he;clear he;go_wp2_with fail;refine (vN _ _ x y 600 600 x2 HC.out.gi HD.out.gi (by decide) (by decide)).mono ?_;rintro e w3 ⟨rfl,hb⟩;rw[KX];replace HW:=aa (HW.out.trans (hb.mono HW.out.size));clear hb KX;go_wp2_with fail;go_roundw
     case rel=>exact⟨j+1,by go_num,hlt,aa (yF HT.out hz pJ (by rw[<-UB.out,<-UA.out];exact HE.out)),HW⟩
     case measure=>simp[ei];omega
    have KX:decide (x=y)=false:=by simp[he]
    have HE:=aa he;clear he;go_wp2_with fail;refine (vN _ _ x y 600 600 x2 HC.out.gi HD.out.gi (by decide) (by decide)).mono ?_;rintro e w3 ⟨rfl,hb⟩;rw[KX];replace HW:=aa (HW.out.trans (hb.mono HW.out.size));clear hb KX;go_wp2_with fail;go_ret;refine⟨?_,HW.out⟩;rw[decide_eq_false (fun e=>HE.out (by rw[UB.out,UA.out];subst e;rfl))];rfl
   go_wp2_with fail;go_ret;refine⟨?_,HW.out⟩;have e:=HT.out;rw[show j=n by omega,HN.out,bK,<-HN.out,HL.out,UQ.out,bK] at e;rw[decide_eq_true e];rfl
 have hne:(((L.length:Nat):Int) != ((M.length:Nat):Int))=true:=by rw[bne_iff_ne];omega
 have HL:=aa hl;clear hl;go_enter Tryz.func89,Tryz.ntmps89;go_wp2_with fail;go_ret;refine⟨?_,ax _ _⟩;rw[decide_eq_false (fun e=>HL.out (by rw[e]))];rfl
theorem Cw {w:ag} {v:aq} {x:V} (h:VC w v x):(∃ z o l c,x=.I z/\v=.agg #[.int .i64 0,.bool (decide (z<0)),.slice o l c,.bool false,.slice none 0 0]/\CI w (.agg #[.bool (decide (z<0)),.slice o l c]) z 600)\/(∃ b,x=.B b/\v=.agg #[.int .i64 1,.bool false,.slice none 0 0,.bool b,.slice none 0 0]) \/
  (∃ l o n c,x=.L l/\v=.agg #[.int .i64 2,.bool false,.slice none 0 0,.bool false,.slice o n c]/\NL w (.slice o n c) l):=by
 cases x with
 | I z=>obtain⟨o,l,c,h1,h2⟩:=h.int;exact .inl ⟨z,o,l,c,rfl,h1,h2⟩
 | B b=>exact .inr (.inl ⟨b,rfl,h.bool⟩)
 | L l=>obtain⟨o,n,c,h1,h2⟩:=h.list;exact .inr (.inr ⟨l,o,n,c,rfl,h1,h2⟩)
theorem JB (va vb:aq) (x y:V) (w:ag) (h1:VC w va x) (h2:VC w vb y) :
  aW aj 37 #[va,vb] w fun e w'=>e=.returned (.bool (decide (x=y)))/\aA w.heap.size w w':=by
 rcases Cw h1 with ⟨z,o,l,c,rfl,rfl,hx⟩ | ⟨b,rfl,rfl⟩ | ⟨zs,o,n,c,rfl,rfl,hx⟩<;>rcases Cw h2 with ⟨z',o',l',c',rfl,rfl,hy⟩ | ⟨b',rfl,rfl⟩ | ⟨ys,o',n',c',rfl,rfl,hy⟩
 ·clear h1 h2;have HX:=aa hx;have HY:=aa hy;clear hx hy;go_enter jZ,ja;have HW:=aa (ax w.heap.size w);obtain⟨x1,k1,e1,F3,eH,iM,jl⟩:=aM w #[.int .i64 0,.bool (decide (z<0)),.slice o l c,.bool false,.slice none 0 0] 41;replace HX:=aa (HX.out.below eH.out);replace HY:=aa (HY.out.below eH.out);replace HW:=aa (HW.out.trans (eH.out.mono HW.out.size));obtain⟨x2,k2,e2,Ir,dI,ff,nj⟩:=aM x1 #[.int .i64 0,.bool (decide (z'<0)),.slice o' l' c',.bool false,.slice none 0 0] 41;replace jl:=aS dI.out jl;replace HX:=aa (HX.out.below dI.out);replace HY:=aa (HY.out.below dI.out);replace HW:=aa (HW.out.trans (dI.out.mono HW.out.size));obtain⟨⟨c0,c1,c2,c3,c4⟩,cA,cG,cF,cE,cC⟩:=ak jl.out
  obtain⟨⟨d0,d1,d2,d3,d4⟩,tK,A_,Ik,Ij,Ii⟩:=ak nj.out;go_wp2_with fail;refine (vN _ _ z z' 600 600 x2 HX.out.gi HY.out.gi (by decide) (by decide)).mono ?_;rintro e x3 ⟨rfl,hb⟩;clear c0 cA c1 cG c2 cF c3 cE c4 cC d0 tK d1 A_ d2 Ik d3 Ij d4 Ii;replace HW:=aa (HW.out.trans (hb.mono HW.out.size));go_wp2_with fail;go_ret;refine⟨?_,HW.out⟩;congr 2;simp
 ·clear h1 h2;try clear hx
  try clear hy
  go_enter jZ,ja;have HW:=aa (ax w.heap.size w);obtain⟨x1,k1,e1,F3,eH,iM,jl⟩:=aM w #[.int .i64 0,.bool (decide (z<0)),.slice o l c,.bool false,.slice none 0 0] 41;replace HW:=aa (HW.out.trans (eH.out.mono HW.out.size));obtain⟨x2,k2,e2,Ir,dI,ff,nj⟩:=aM x1 #[.int .i64 1,.bool false,.slice none 0 0,.bool b',.slice none 0 0] 41;replace jl:=aS dI.out jl;replace HW:=aa (HW.out.trans (dI.out.mono HW.out.size));obtain⟨⟨c0,c1,c2,c3,c4⟩,cA,cG,cF,cE,cC⟩:=ak jl.out;obtain⟨⟨d0,d1,d2,d3,d4⟩,tK,A_,Ik,Ij,Ii⟩:=ak nj.out;go_wp2_with fail;go_ret;have hh:decide (V.I z=V.B b')=false:=decide_eq_false (by intro e;cases e);exact⟨by rw[hh];rfl,HW.out⟩
 ·clear h1 h2;try clear hx
  try clear hy
  go_enter jZ,ja;have HW:=aa (ax w.heap.size w);obtain⟨x1,k1,e1,F3,eH,iM,jl⟩:=aM w #[.int .i64 0,.bool (decide (z<0)),.slice o l c,.bool false,.slice none 0 0] 41;replace HW:=aa (HW.out.trans (eH.out.mono HW.out.size));obtain⟨x2,k2,e2,Ir,dI,ff,nj⟩:=aM x1 #[.int .i64 2,.bool false,.slice none 0 0,.bool false,.slice o' n' c'] 41;replace jl:=aS dI.out jl;replace HW:=aa (HW.out.trans (dI.out.mono HW.out.size));obtain⟨⟨c0,c1,c2,c3,c4⟩,cA,cG,cF,cE,cC⟩:=ak jl.out;obtain⟨⟨d0,d1,d2,d3,d4⟩,tK,A_,Ik,Ij,Ii⟩:=ak nj.out;go_wp2_with fail;go_ret;have hh:decide (V.I z=V.L ys)=false:=decide_eq_false (by intro e;cases e);exact⟨by rw[hh];rfl,HW.out⟩
 ·clear h1 h2;try clear hx
  try clear hy
  go_enter jZ,ja;have HW:=aa (ax w.heap.size w);obtain⟨x1,k1,e1,F3,eH,iM,jl⟩:=aM w #[.int .i64 1,.bool false,.slice none 0 0,.bool b,.slice none 0 0] 41;replace HW:=aa (HW.out.trans (eH.out.mono HW.out.size));obtain⟨x2,k2,e2,Ir,dI,ff,nj⟩:=aM x1 #[.int .i64 0,.bool (decide (z'<0)),.slice o' l' c',.bool false,.slice none 0 0] 41;replace jl:=aS dI.out jl;replace HW:=aa (HW.out.trans (dI.out.mono HW.out.size));obtain⟨⟨c0,c1,c2,c3,c4⟩,cA,cG,cF,cE,cC⟩:=ak jl.out;obtain⟨⟨d0,d1,d2,d3,d4⟩,tK,A_,Ik,Ij,Ii⟩:=ak nj.out;go_wp2_with fail;go_ret;have hh:decide (V.B b=V.I z')=false:=decide_eq_false (by intro e;cases e);exact⟨by rw[hh];rfl,HW.out⟩
 ·clear h1 h2;try clear hx
  try clear hy
  go_enter jZ,ja;have HW:=aa (ax w.heap.size w);obtain⟨x1,k1,e1,F3,eH,iM,jl⟩:=aM w #[.int .i64 1,.bool false,.slice none 0 0,.bool b,.slice none 0 0] 41;replace HW:=aa (HW.out.trans (eH.out.mono HW.out.size));obtain⟨x2,k2,e2,Ir,dI,ff,nj⟩:=aM x1 #[.int .i64 1,.bool false,.slice none 0 0,.bool b',.slice none 0 0] 41;replace jl:=aS dI.out jl;replace HW:=aa (HW.out.trans (dI.out.mono HW.out.size));obtain⟨⟨c0,c1,c2,c3,c4⟩,cA,cG,cF,cE,cC⟩:=ak jl.out;obtain⟨⟨d0,d1,d2,d3,d4⟩,tK,A_,Ik,Ij,Ii⟩:=ak nj.out;go_wp2_with fail;go_ret;refine⟨?_,HW.out⟩;cases b<;>cases b'<;>rfl
 ·clear h1 h2;try clear hx
  try clear hy
  go_enter jZ,ja;have HW:=aa (ax w.heap.size w);obtain⟨x1,k1,e1,F3,eH,iM,jl⟩:=aM w #[.int .i64 1,.bool false,.slice none 0 0,.bool b,.slice none 0 0] 41;replace HW:=aa (HW.out.trans (eH.out.mono HW.out.size));obtain⟨x2,k2,e2,Ir,dI,ff,nj⟩:=aM x1 #[.int .i64 2,.bool false,.slice none 0 0,.bool false,.slice o' n' c'] 41;replace jl:=aS dI.out jl;replace HW:=aa (HW.out.trans (dI.out.mono HW.out.size));obtain⟨⟨c0,c1,c2,c3,c4⟩,cA,cG,cF,cE,cC⟩:=ak jl.out;obtain⟨⟨d0,d1,d2,d3,d4⟩,tK,A_,Ik,Ij,Ii⟩:=ak nj.out;go_wp2_with fail;go_ret;have hh:decide (V.B b=V.L ys)=false:=decide_eq_false (by intro e;cases e);exact⟨by rw[hh];rfl,HW.out⟩
 ·clear h1 h2;try clear hx
  try clear hy
  go_enter jZ,ja;have HW:=aa (ax w.heap.size w);obtain⟨x1,k1,e1,F3,eH,iM,jl⟩:=aM w #[.int .i64 2,.bool false,.slice none 0 0,.bool false,.slice o n c] 41;replace HW:=aa (HW.out.trans (eH.out.mono HW.out.size));obtain⟨x2,k2,e2,Ir,dI,ff,nj⟩:=aM x1 #[.int .i64 0,.bool (decide (z'<0)),.slice o' l' c',.bool false,.slice none 0 0] 41;replace jl:=aS dI.out jl;replace HW:=aa (HW.out.trans (dI.out.mono HW.out.size));obtain⟨⟨c0,c1,c2,c3,c4⟩,cA,cG,cF,cE,cC⟩:=ak jl.out;obtain⟨⟨d0,d1,d2,d3,d4⟩,tK,A_,Ik,Ij,Ii⟩:=ak nj.out;go_wp2_with fail;go_ret;have hh:decide (V.L zs=V.I z')=false:=decide_eq_false (by intro e;cases e);exact⟨by rw[hh];rfl,HW.out⟩
 ·clear h1 h2;try clear hx
  try clear hy
  go_enter jZ,ja;have HW:=aa (ax w.heap.size w);obtain⟨x1,k1,e1,F3,eH,iM,jl⟩:=aM w #[.int .i64 2,.bool false,.slice none 0 0,.bool false,.slice o n c] 41;replace HW:=aa (HW.out.trans (eH.out.mono HW.out.size));obtain⟨x2,k2,e2,Ir,dI,ff,nj⟩:=aM x1 #[.int .i64 1,.bool false,.slice none 0 0,.bool b',.slice none 0 0] 41;replace jl:=aS dI.out jl;replace HW:=aa (HW.out.trans (dI.out.mono HW.out.size));obtain⟨⟨c0,c1,c2,c3,c4⟩,cA,cG,cF,cE,cC⟩:=ak jl.out;obtain⟨⟨d0,d1,d2,d3,d4⟩,tK,A_,Ik,Ij,Ii⟩:=ak nj.out;go_wp2_with fail;go_ret;have hh:decide (V.L zs=V.B b')=false:=decide_eq_false (by intro e;cases e);exact⟨by rw[hh];rfl,HW.out⟩
 clear h1 h2;have HX:=aa hx;have HY:=aa hy;clear hx hy;go_enter jZ,ja;have HW:=aa (ax w.heap.size w);obtain⟨x1,k1,e1,F3,eH,iM,jl⟩:=aM w #[.int .i64 2,.bool false,.slice none 0 0,.bool false,.slice o n c] 41;replace HX:=aa (HX.out.below eH.out);replace HY:=aa (HY.out.below eH.out);replace HW:=aa (HW.out.trans (eH.out.mono HW.out.size));obtain⟨x2,k2,e2,Ir,dI,ff,nj⟩:=aM x1 #[.int .i64 2,.bool false,.slice none 0 0,.bool false,.slice o' n' c'] 41;replace jl:=aS dI.out jl;replace HX:=aa (HX.out.below dI.out);replace HY:=aa (HY.out.below dI.out);replace HW:=aa (HW.out.trans (dI.out.mono HW.out.size));obtain⟨⟨c0,c1,c2,c3,c4⟩,cA,cG,cF,cE,cC⟩:=ak jl.out
 obtain⟨⟨d0,d1,d2,d3,d4⟩,tK,A_,Ik,Ij,Ii⟩:=ak nj.out;go_wp2_with fail;refine (Le _ _ zs ys x2 HX.out HY.out).mono ?_;rintro e x3 ⟨rfl,hb⟩;clear c0 cA c1 cG c2 cF c3 cE c4 cC d0 tK d1 A_ d2 Ik d3 Ij d4 Ii;replace HW:=aa (HW.out.trans (hb.mono HW.out.size));go_wp2_with fail;go_ret;refine⟨?_,HW.out⟩;congr 2;simp
def ux (w:ag) (v:aq):Prop:=∃ xs,Sl w .u32 v xs/\eV aG xs
theorem ux.below {w w':ag} {v:aq} (h:ux w v) (hb:aA w.heap.size w w'):ux w' v:=by obtain⟨xs,h1,h2⟩:=h;exact⟨xs,h1.below hb,h2⟩
def tZ (w:ag) (ko:Option cB) (n kc:Nat):Prop:=(n<=kc/\kc<=bI)/\∀ i,i<n->∃ a b o l c,ko=some a/\w.cell? (a.add (i*2))=some (.bool b)/\w.cell? ⟨(a.add (i*2)).block,(a.add (i*2)).off+1,none⟩=some (.slice o l c)/\ux w (.slice o l c)
theorem tZ.below {w w':ag} {ko:Option cB} {n kc:Nat} (h:tZ w ko n kc) (hb:aA w.heap.size w w'):tZ w' ko n kc:=by
 refine⟨h.1,fun i hi=>?_⟩;obtain⟨a,b,o,l,c,h1,h2,h3,h4⟩:=h.2 i hi;exact⟨a,b,o,l,c,h1,by rw[hb.cell (cu h2)];exact h2,by rw[hb.cell (by have:=cu h3;exact this)];exact h3,h4.below hb⟩
def rz (w:ag) (ko:Option cB) (n kc:Nat):Prop:=(n<=kc/\kc<=bI)/\∀ i,i<n->∃ a k b o l c d p m q,ko=some a /\
  (w.cell? (a.add (i*5))=some (.int .i64 k)/\w.cell? ⟨(a.add (i*5)).block,(a.add (i*5)).off+1,none⟩=some (.bool b)/\w.cell? ⟨(a.add (i*5)).block,(a.add (i*5)).off+2,none⟩=some (.slice o l c)/\w.cell? ⟨(a.add (i*5)).block,(a.add (i*5)).off+3,none⟩=some (.bool d)/\w.cell? ⟨(a.add (i*5)).block,(a.add (i*5)).off+4,none⟩=some (.slice p m q)) /\
  (-9223372036854775808<=k/\k<=9223372036854775807)/\ux w (.slice o l c)/\tZ w p m q
theorem rz.below {w w':ag} {ko:Option cB} {n kc:Nat} (h:rz w ko n kc) (hb:aA w.heap.size w w'):rz w' ko n kc:=by
 refine⟨h.1,fun i hi=>?_⟩;obtain⟨a,k,b,o,l,c,d,p,m,q,h0,⟨h1,h2,h3,h4,h5⟩,h6,h7,h8⟩:=h.2 i hi;exact⟨a,k,b,o,l,c,d,p,m,q,h0,⟨by rw[hb.cell (cu h1)];exact h1,by rw[hb.cell (by have:=cu h2;exact this)];exact h2,by rw[hb.cell (by have:=cu h3;exact this)];exact h3,by rw[hb.cell (by have:=cu h4;exact this)];exact h4,by rw[hb.cell (by have:=cu h5;exact this)];exact h5⟩,h6,h7.below hb,h8.below hb⟩
theorem Fu (b:Bool) (o:Option cB) (l c:Nat) (w:ag) (hx:ux w (.slice o l c)) :
  aW aj 109 #[.agg #[.bool b,.slice o l c]] w fun e w'=>∃ v z,e=.returned v/\CI w' v z 4/\aA w.heap.size w w':=by
 obtain⟨m,hm⟩:∃ m,m=min l 4:=⟨_,rfl⟩;have hmin:min (l:Int) 4=(m:Int):=by omega
 have hm4:m<=4:=by omega
 have hml:m<=l:=by omega
 have r7:∃ n,GN w (.slice o m c) n 4/\l<=c/\c<=9223372036854775807:=by
  obtain⟨xs,hs,hd⟩:=hx;have hl:=rT hs;obtain⟨_,_,e,h1,h2,_⟩:=id hs;injection e with e1 e2 e3;subst e3;exact⟨_,⟨xs.take m,hs.take m (by omega),hd.take m,rfl,by rw[List.length_take];omega⟩,by omega,h2⟩
 obtain⟨n,hn,hlc,hc⟩:=r7;have LU:m<=c:=by omega
 have HX:=aa hn;clear hn hx hm;have HW:=aa (ax w.heap.size w);go_enter Tryz.func109,Tryz.ntmps109;obtain⟨x1,k1,e1,F3,eH,iM,jl⟩:=aM w #[.bool b,.slice o l c] 26;replace HX:=aa (HX.out.below eH.out);replace HW:=aa (HW.out.trans (eH.out.mono HW.out.size));obtain⟨x2,k2,e2,Ir,dI,ff,nj⟩:=aM x1 #[.bool false,.slice none 0 0] 26;replace jl:=aS dI.out jl;replace HX:=aa (HX.out.below dI.out);replace HW:=aa (HW.out.trans (dI.out.mono HW.out.size));have pe:w.heap.size<=k2:=ah eH.out.size ff.out;go_upto_region 1 with fail;have FV:=ae jl.out;have ik:Hid (∀ q,q<0->(fun q=>0) q<x2.heap.size):=aa (fun q h=>absurd h (ay _))
 refine R7.region (by kernel_rfl) [[],[0],[],[2],[],[4],[4,5],[4,5,6],[2,3,4,5,6,7],[0,1,2,3,4,5,6,7,8],[0,1,2,3,4,5,6,7,8,9]] [] [] (fun q=>0) 0 10 (by kernel_rfl) (by kernel_rfl) (by rfl) ik.out (fun q q' h h' hn=>absurd hn (by omega)) ?_;refine R7.aB.da ?_ (by rfl) (fun T xs wr hA=>?_) ?_;rotate_left 1
 ·have e1:=hA.pre 1 (by kernel_rfl);simp only[g_,iC,iz] at e1;clear hA;refine⟨(by rfl),?_⟩;go_simp<;>(try with_reducible rfl)
 refine R7.aB.da ?_ (by rfl) (fun T xs wr hA=>?_) ?_;rotate_left 1
 ·have e3:=hA.tm 0 3 (by rfl) (by rfl);have f3:xs 0=_:=hA.fa 0 (by rfl);(try simp (disch:=first | rfl | decide) only [R7.an] at f3);rw[f3] at e3;clear f3;have bx:wr.heap[k1]?=_:=(hA.bl _ FV (fun q h=>absurd h (ay _))).trans jl.out;have q0:=af (v:=.bool b) bx 0 rfl;have q1:=af (v:=.slice o l c) bx 1 rfl;clear bx;clear hA;refine⟨(by rfl),?_⟩;go_simp<;>(try with_reducible rfl)
 refine R7.aB.da ?_ (by rfl) (fun T xs wr hA=>?_) ?_;rotate_left 1
 ·have e1:=hA.pre 1 (by kernel_rfl);simp only[g_,iC,iz] at e1;clear hA;refine⟨(by rfl),?_⟩;go_simp<;>(try with_reducible rfl)
 refine R7.aB.da ?_ (by rfl) (fun T xs wr hA=>?_) ?_;rotate_left 1
 ·have e5:=hA.tm 2 5 (by rfl) (by rfl);have f5:xs 2=_:=hA.fa 2 (by rfl);(try simp (disch:=first | rfl | decide) only [R7.an] at f5);rw[f5] at e5;clear f5;have bx:wr.heap[k1]?=_:=(hA.bl _ FV (fun q h=>absurd h (ay _))).trans jl.out;have q0:=af (v:=.bool b) bx 0 rfl;have q1:=af (v:=.slice o l c) bx 1 rfl;clear bx;clear hA;refine⟨(by rfl),?_⟩;go_simp<;>(try with_reducible rfl)
 refine R7.aB.da ?_ (by rfl) (fun T xs wr hA=>?_) ?_;rotate_left 1
 ·have e1:=hA.pre 1 (by kernel_rfl);simp only[g_,iC,iz] at e1;clear hA;refine⟨(by rfl),?_⟩;go_simp<;>(try with_reducible rfl)
 refine R7.aB.da ?_ (by rfl) (fun T xs wr hA=>?_) ?_;rotate_left 1
 ·have e7:=hA.tm 4 7 (by rfl) (by rfl);have f7:xs 4=_:=hA.fa 4 (by rfl);(try simp (disch:=first | rfl | decide) only [R7.an] at f7);rw[f7] at e7;clear f7;have bx:wr.heap[k1]?=_:=(hA.bl _ FV (fun q h=>absurd h (ay _))).trans jl.out;have q0:=af (v:=.bool b) bx 0 rfl;have q1:=af (v:=.slice o l c) bx 1 rfl;clear bx;clear hA;refine⟨(by rfl),?_⟩;go_simp<;>(try with_reducible rfl)
 refine R7.aB.da ?_ (by rfl) (fun T xs wr hA=>?_) ?_;rotate_left 1
 ·have e8:=hA.tm 5 8 (by rfl) (by rfl);have f8:xs 5=_:=hA.fa 5 (by rfl);(try simp (disch:=first | rfl | decide) only [R7.an] at f8);rw[f8] at e8;clear f8;clear hA;refine⟨(by rfl),?_⟩;go_simp<;>(try with_reducible rfl)
 refine R7.aB.da ?_ (by rfl) (fun T xs wr hA=>?_) ?_;rotate_left 1
 ·have e9:=hA.tm 6 9 (by rfl) (by rfl);have f9:xs 6=_:=hA.fa 6 (by rfl);(try simp (disch:=first | rfl | decide) only [R7.an] at f9);rw[f9] at e9;clear f9;clear hA;refine⟨(by rfl),?_⟩;go_simp<;>(try with_reducible rfl)
 refine R7.aB.da ?_ (by rfl) (fun T xs wr hA=>?_) ?_;rotate_left 1
 ·have e6:=hA.tm 3 6 (by rfl) (by rfl);have f6:xs 3=_:=hA.fa 3 (by rfl);(try simp (disch:=first | rfl | decide) only [R7.an] at f6);rw[f6] at e6;clear f6;have ER:=hA.tm 7 10 (by rfl) (by rfl);have f10:xs 7=_:=hA.fa 7 (by rfl);(try simp (disch:=first | rfl | decide) only [R7.an] at f10);rw[f10] at ER;clear f10;clear hA;refine⟨(by rfl),?_⟩;go_simp<;>(try with_reducible rfl)
 refine R7.aB.call (fun xs v w=>∃ z,CI w v z 4) (fun _ _ _ _ h hb=>by obtain⟨z,h2⟩:=h;exact⟨z,h2.below hb⟩) (fun _ _ _ _ _ _ h _=>by obtain⟨q,hq,_⟩:=h;exact absurd hq (ay _)) (by rfl) (fun T xs wr hA=>?_) ?_
 ·have th:=(hA.be 0 (au _) (fun _ _=>au _)).size;have e4:=hA.tm 1 4 (by rfl) (by rfl);have f4:xs 1=_:=hA.fa 1 (by rfl);(try simp (disch:=first | rfl | decide) only [R7.an] at f4);rw[f4] at e4;clear f4;have Ll:=hA.tm 8 11 (by rfl) (by rfl);have f11:xs 8=_:=hA.fa 8 (by rfl);(try simp (disch:=first | rfl | decide) only [R7.an] at f11);rw[f11] at Ll;clear f11;have kD:=cm (hA.be x2.heap.size (ai _) (fun q h=>absurd h (ay q)));clear hA;refine⟨(by rfl),fun K hK=>?_⟩;go_simp;refine (nH b _ n 4 wr (HX.out.below kD) (by omega)).mono ?_;rintro e w' ⟨v,rfl,hc,hb'⟩;exact hK.out _ _ ⟨_,hc⟩ hb'
 refine R7.aB.done (fun xs x3 hL=>?_);obtain⟨⟨iY,dw⟩,hf,-,-⟩:=hL;have f0:xs 0=_:=hf 0 (by decide);(try simp (disch:=first | rfl | decide) only [R7.an] at f0);have f1:xs 1=_:=hf 1 (by decide);(try simp (disch:=first | rfl | decide) only [R7.an] at f1);have f2:xs 2=_:=hf 2 (by decide);(try simp (disch:=first | rfl | decide) only [R7.an] at f2);have f3:xs 3=_:=hf 3 (by decide);(try simp (disch:=first | rfl | decide) only [R7.an] at f3);have f4:xs 4=_:=hf 4 (by decide);(try simp (disch:=first | rfl | decide) only [R7.an] at f4);have f5:xs 5=_:=hf 5 (by decide);(try simp (disch:=first | rfl | decide) only [R7.an] at f5);have f6:xs 6=_:=hf 6 (by decide);(try simp (disch:=first | rfl | decide) only [R7.an] at f6);have f7:xs 7=_:=hf 7 (by decide)
 (try simp (disch:=first | rfl | decide) only [R7.an] at f7);have f8:xs 8=_:=hf 8 (by decide);(try simp (disch:=first | rfl | decide) only [R7.an] at f8);have F9:∃ z,CI x3 (xs 9) z 4:=hf 9 (by decide);have hb0:aA 0 x2 x3:=cm (iY 0 (au _) (fun _ _=>au _));have mP:∀ j,j<x2.heap.size->(∀ q,q<0->(fun q=>0) q≠j)->x3.heap[j]?=x2.heap[j]?:=dw;clear iY dw hf;have hb:aA x2.heap.size x2 x3:=⟨hb0.os,hb0.tape,hb0.output,hb0.size,fun q hq=>mP q hq (fun q h=>absurd h (ay _))⟩;refine R7.jD (by decide) (by kernel_rfl) ?_;simp only[R7.fill,Jo,Jn,Jm,Jl,GG,GF,GD,f0,f1,f2,f3,f4,f5,f6,f7,f8];clear hb0 mP ik FV f0 f1 f2 f3 f4 f5 f6 f7 f8;replace nj:=aS hb nj;replace HW:=aa (HW.out.trans (hb.mono HW.out.size));replace hb:=aa hb
 obtain⟨z,tI⟩:=F9;obtain⟨bb,oo,ll,cc,hv⟩:=tI.shape;rw[hv] at tI;rw[show (0+1+1+1+1+1+1+1+1+1:Nat)=9 from rfl,hv];have HC:=aa tI;clear tI hv;obtain⟨d0,d1,tK,A_⟩:=cO nj.out;go_wp2_with fail;obtain⟨r1,r2⟩:=AM HW.out nj.out qb pe (.bool bb) (.slice oo ll cc);exact aD (v:=.agg #[.bool bb,.slice oo ll cc]) (by simp[results,Tryz.results109,go_sem,d0,d1]) rfl ⟨_,_,rfl,HC.out.fr r1,r2⟩
theorem VC.unit {w:ag} {v:aq} {x:V} (h:VC w v x):∃ (u:VU) (k:Int) (b:Bool) (o:Option cB) (l c:Nat) (d:Bool) (p:Option cB) (m q:Nat),v=.agg #[.int .i64 k,.bool b,.slice o l c,.bool d,.slice p m q]/\vC u=[.int .i64 k,.bool b,.slice o l c,.bool d,.slice p m q]/\u.x=x/\VR w u:=by
 obtain⟨u,rfl,h1,h2⟩:=h;exact⟨u,_,_,_,_,_,_,_,_,_,rfl,rfl,h1,h2⟩
theorem CI.unit {w:ag} {v:aq} {z:Int} {k:Nat} (h:CI w v z k) (hk:k<=600):∃ (u:NU) (b:Bool) (o:Option cB) (l c:Nat),v=.agg #[.bool b,.slice o l c]/\nC u=[.bool b,.slice o l c]/\u.z=z/\NR w u:=by
 obtain⟨u,rfl,h1,h2⟩:=Gh h hk;exact⟨u,_,_,_,_,rfl,rfl,h1,h2⟩
theorem BA {w:ag} {g:Nat} {u:VU} {k:Int} {b d:Bool} {o p:Option cB} {l c m q:Nat} (hB:w.heap[g]?=some (.cells #[.int .i64 k,.bool b,.slice o l c,.bool d,.slice p m q] 41 (0,0))) (hu:vC u=[.int .i64 k,.bool b,.slice o l c,.bool d,.slice p m q]) (hR:VR w u):vE.At w (.slice (some ⟨g,0,none⟩) 1 1) [u]:=
 El.At.block (E:=vE) (el:=[u]) (by show _=some (Obj.cells (([u]:List VU).flatMap vC).toArray _ _);rw[fI,hu];exact hB) (by simp[bI]) (fun a ha=>by rw[aZ] at ha;subst ha;exact hR)
theorem MY {w:ag} {g:Nat} {u:NU} {b:Bool} {o:Option cB} {l c:Nat} (hB:w.heap[g]?=some (.cells #[.bool b,.slice o l c] 26 (0,0))) (hu:nC u=[.bool b,.slice o l c]) (hR:NR w u):nE.At w (.slice (some ⟨g,0,none⟩) 1 1) [u]:=
 El.At.block (E:=nE) (el:=[u]) (by show _=some (Obj.cells (([u]:List NU).flatMap nC).toArray _ _);rw[fI,hu];exact hB) (by simp[bI]) (fun a ha=>by rw[aZ] at ha;subst ha;exact hR)
def TV:V->Prop
 | .I z=>z.natAbs<aG ^ 4
 | .B _=>True
 | .L l=>l.length<=6/\∀ z ∈ l,z.natAbs<aG ^ 4
theorem CI.lt {w:ag} {v:aq} {z:Int} {k:Nat} (h:CI w v z k):z.natAbs<aG ^ k:=by obtain⟨_,_,_,h3⟩:=h;exact h3
def fQ:V->Int
 | .I _=>0
 | .B _=>1
 | .L _=>2
def KS (w:ag) (ko:Option cB) (xs:List V):Prop:=∀ i (h:i<xs.length) a k,ko=some a->w.cell? (a.add (i*5))=some (.int .i64 k)->fQ xs[i]=(k.tmod 3+3).tmod 3
theorem KS.snoc {w:ag} {ko:Option cB} {xs:List V} {x:V} (h:KS w ko xs) (hx:∀ a k,ko=some a->w.cell? (a.add (xs.length*5))=some (.int .i64 k)->fQ x=(k.tmod 3+3).tmod 3):KS w ko (xs++[x]):=by
 intro i hi a k ha hc;by_cases hlt:i<xs.length
 ·rw[tR hlt];exact h i hlt a k ha hc
 have e:i=xs.length:=by simp at hi;omega
 subst e;rw[List.getElem_append_right (ai _)];simp only[Nat.sub_self,List.getElem_cons_zero];exact hx a k ha hc
def Ut (w:ag) (ko:Option cB) (N:Nat) (ov iv:aq) (wr:ag):Prop:=
 ∃ (j:Nat) (us:List VU),iv=.int .i64 (j:Nat)/\j<=N/\Hid (us.length=j)/\Hid (∀ u ∈ us,TV u.x)/\Hid (KS w ko (us.map (·.x)))/\Hid (vE.Row wr w.heap.size ov us)/\Hid (aA w.heap.size w wr)
def Uu (w wS:ag) (M:Nat) (mv iv:aq) (wr:ag):Prop:=
 ∃ (j:Nat) (ns:List NU),iv=.int .i64 (j:Nat)/\j<=M/\Hid (ns.length=j)/\Hid (∀ n ∈ ns,n.z.natAbs<aG ^ 4)/\Hid (nE.Row wr wS.heap.size mv ns)/\Hid (aA wS.heap.size wS wr)
theorem Jj (ko:Option cB) (n kc:Nat) (w:ag) (hx:rz w ko n kc) :
  aW aj 56 #[.slice ko n kc] w fun e w'=>∃ v xs,e=.returned v/\VL w' v xs/\xs.length=min n 5/\(∀ x ∈ xs,TV x)/\KS w ko xs/\aA w.heap.size w w':=by
 obtain⟨N,hN⟩:∃ N,N=min n 5:=⟨_,rfl⟩;have hmin:min (n:Int) 5=(N:Int):=by omega
 have hN5:N<=5:=by omega
 have hNn:N<=n:=by omega
 obtain⟨h1,h2⟩:=hx.1;have hNk:N<=kc:=by omega
 have rL:kc<=9223372036854775807:=h2;have HX:=aa hx;have Yr:=aa hN;clear hx hN h1 h2;go_enter Tryz.func56,Tryz.ntmps56;go_wp2_with fail;go_loopw [3,16] (Ut w ko N) (fun _ i _=>N - (ei i).toNat)
 case atStart=>exact⟨0,[],rfl,au _,aa rfl,aa (fun u hu=>by cases hu),aa (fun i h=>absurd h (ay i)),aa (El.Row.nil _ _),aa (ax _ _)⟩
 case round =>
  obtain⟨j,us,rfl,hj,HU,VZ,DL,HR,HW⟩:=hrel;obtain⟨oo,oc,rfl,SV,WZ,-⟩:=HR.out.form;have Ry:=HU.out;rw[Ry] at SV;by_cases hlt:j<N
  ·obtain⟨a,xk,b,o,l,c,d,p,m,q,rfl,⟨c0,c1,c2,c3,c4⟩,⟨xk1,xk2⟩,hn,hi⟩:=(HX.out.below HW.out).2 j (by omega);have UW:Hid (∀ a2 k2,some a=some a2->w.cell? (a2.add ((us.map (·.x)).length*5))=some (.int .i64 k2)->k2=xk):=aa (fun a2 k2 e hc=>by injection e with e;subst e;rw[cT,HU.out] at hc;have h2:=(HW.out.cell (World.block_lt_of_cell? w _ hc)).trans hc;rw[c0] at h2;injection h2 with h2;injection h2 with _ h2;exact h2.symm);have HN:=aa hn;have HI:=aa hi;clear hn hi Ry;have tm1:=Int.tmod_lt_of_pos xk (b:=3) (by decide);have tm2:=Int.lt_tmod_of_pos xk (b:=3) (by decide);have wr1:IntKind.i64.wrap (xk.tmod 3+3)=xk.tmod 3+3:=IntWalk.i64_in _ (by omega)
   have hK:(xk.tmod 3+3).tmod 3=0\/(xk.tmod 3+3).tmod 3=1\/(xk.tmod 3+3).tmod 3=2:=by rw[Int.tmod_eq_emod_of_nonneg (by omega)];omega
   clear tm1 tm2;obtain⟨x1,k5,e5,ek5,we,hk5,wI⟩:=aM wr #[.int .i64 xk,.bool b,.slice o l c,.bool d,.slice p m q] 41;replace HN:=aa (HN.out.below we.out);replace HI:=aa (HI.out.below we.out);replace HR:=aa (HR.out.below we.out);replace HW:=aa (HW.out.trans (we.out.mono HW.out.size));obtain⟨⟨g0,g1,g2,g3,g4⟩,ni,nh,oH,oG,oF⟩:=ak wI.out;rcases hK with hK | hK | hK
   ·go_wp2_with fail;refine (Fu b o l c x1 HN.out).mono ?_;rintro e x2 ⟨v,z,rfl,hz,hb⟩;clear g0 ni g1 nh g2 oH g3 oG g4 oF;replace HR:=aa (HR.out.below hb);replace HW:=aa (HW.out.trans (hb.mono HW.out.size));obtain⟨zb,zo,zl,zc,rfl⟩:=hz.shape;have HZ:=aa hz;clear hz hb;go_wp2_with fail;refine (nt _ z 4 x2 HZ.out.gi (by decide)).mono ?_;rintro e x3 ⟨v,rfl,hc,hb⟩;replace HR:=aa (HR.out.below hb);replace HW:=aa (HW.out.trans (hb.mono HW.out.size));replace HZ:=aa (HZ.out.below hb);clear hb;obtain⟨u,uk,ub,uo,ul,uc,ud,up,um,uq,rfl,FN,FK,FM⟩:=hc.unit;have N':=aa FN;have Dy:=aa FK;have Cg:=aa FM;clear hc FN FK FM;obtain⟨x4,kq,eq,zE,gQ,sk,jX⟩:=aM x3 #[.int .i64 uk,.bool ub,.slice uo ul uc,.bool ud,.slice up um uq] 41
    replace HR:=aa (HR.out.below gQ.out);replace HW:=aa (HW.out.trans (gQ.out.mono HW.out.size));replace HZ:=aa (HZ.out.below gQ.out);replace Cg:=aa (Cg.out.below gQ.out);have tB:=aa (BA jX.out N'.out Cg.out);go_wp2_with (at_builtin;refine El.Row.append (E:=vE) HR.out rfl (.tmp 51) (.tmp 56) rfl rfl rfl tB.out (by rw[HU.out];simp;omega) HW.out.size ?_;intro v9 w9 r1 r2 r3 r4);go_roundw
    case rel=>exact⟨j+1,us++[u],by go_num,hlt,aa (by rw[eY,HU.out];rfl),aa (fun y hy=>by rcases List.mem_append.1 hy with hy | hy;exact VZ.out y hy;rw[aZ] at hy;subst hy;rw[Dy.out];exact HZ.out.lt),aa (by rw[cn];exact DL.out.snoc (fun a2 k2 e hc=>by rw[UW.out a2 k2 e hc,hK];show fQ u.x=_;rw[Dy.out];rfl)),aa r1,aa (HW.out.trans r3)⟩
    case measure=>simp[ei];omega
   ·go_wp2_with fail;refine (iR d x1).mono ?_;rintro e x2 ⟨v,rfl,hc,hb⟩;clear g0 ni g1 nh g2 oH g3 oG g4 oF;replace HR:=aa (HR.out.below hb);replace HW:=aa (HW.out.trans (hb.mono HW.out.size));clear hb;obtain⟨u,uk,ub,uo,ul,uc,ud,up,um,uq,rfl,FN,FK,FM⟩:=hc.unit;have N':=aa FN;have Dy:=aa FK;have Cg:=aa FM;clear hc FN FK FM;obtain⟨x3,kq,eq,zE,gQ,sk,jX⟩:=aM x2 #[.int .i64 uk,.bool ub,.slice uo ul uc,.bool ud,.slice up um uq] 41;replace HR:=aa (HR.out.below gQ.out);replace HW:=aa (HW.out.trans (gQ.out.mono HW.out.size));replace Cg:=aa (Cg.out.below gQ.out);have tB:=aa (BA jX.out N'.out Cg.out)
    go_wp2_with (at_builtin;refine El.Row.append (E:=vE) HR.out rfl (.tmp 60) (.tmp 64) rfl rfl rfl tB.out (by rw[HU.out];simp;omega) HW.out.size ?_;intro v9 w9 r1 r2 r3 r4);go_roundw
    case rel=>exact⟨j+1,us++[u],by go_num,hlt,aa (by rw[eY,HU.out];rfl),aa (fun y hy=>by rcases List.mem_append.1 hy with hy | hy;exact VZ.out y hy;rw[aZ] at hy;subst hy;rw[Dy.out];exact trivial),aa (by rw[cn];exact DL.out.snoc (fun a2 k2 e hc=>by rw[UW.out a2 k2 e hc,hK];show fQ u.x=_;rw[Dy.out];rfl)),aa r1,aa (HW.out.trans r3)⟩
    case measure=>simp[ei];omega
   obtain⟨M,hM⟩:∃ M,M=min m 6:=⟨_,rfl⟩;have ZD:min (m:Int) 6=(M:Int):=by omega
   have hM6:M<=6:=by omega
   have hMm:M<=m:=by omega
   obtain⟨h1,h2⟩:=HI.out.1;have hMk:M<=q:=by omega
   have hmq:q<=9223372036854775807:=h2;clear hM h1 h2;go_wp2_with fail;clear g0 ni g1 nh g2 oH g3 oG g4 oF;go_loopw [7,34] (Uu w x1 M) (fun _ i _=>M - (ei i).toNat)
   case atStart=>exact⟨0,[],rfl,au _,aa rfl,aa (fun u hu=>by cases hu),aa (El.Row.nil _ _),aa (ax _ _)⟩
   case round =>
    obtain⟨i,ns,rfl,hi,zT,Ri,Of,HS⟩:=hrel;obtain⟨io,ic,rfl,qO,hic,-⟩:=Of.out.form;have S9:=zT.out;rw[S9] at qO;by_cases hil2:i<M
    ·obtain⟨ia,ib,Zc,il,Zd,rfl,i0,i1,hin⟩:=(HI.out.below HS.out).2 i (by omega);have DA:=aa hin;clear hin S9;obtain⟨Wj,k9,e9,ek9,OT,LV,IJ⟩:=aM wr #[.bool ib,.slice Zc il Zd] 26;replace DA:=aa (DA.out.below OT.out);replace Of:=aa (Of.out.below OT.out);replace HS:=aa (HS.out.trans (OT.out.mono HS.out.size));obtain⟨g0,g1,ni,nh⟩:=cO IJ.out;go_wp2_with fail;refine (Fu ib Zc il Zd Wj DA.out).mono ?_;rintro e YT ⟨v,z,rfl,hz,hb⟩;clear g0 ni g1 nh;replace Of:=aa (Of.out.below hb);replace HS:=aa (HS.out.trans (hb.mono HS.out.size));clear hb;obtain⟨nu,zb,zo,zl,zc,rfl,hne,SZ,S8⟩:=hz.unit (by decide);have lO:=aa hne;have Yp:=aa SZ;have Rj:=aa S8;have HZL:=aa hz.lt;clear hz hne SZ S8
     obtain⟨YS,kq,eq,zE,gQ,sk,jX⟩:=aM YT #[.bool zb,.slice zo zl zc] 26;replace Of:=aa (Of.out.below gQ.out);replace HS:=aa (HS.out.trans (gQ.out.mono HS.out.size));replace Rj:=aa (nE.below Rj.out gQ.out);have tB:=aa (MY jX.out lO.out Rj.out);go_wp2_with (at_builtin;refine El.Row.append (E:=nE) Of.out rfl (.tmp 38) (.tmp 41) rfl rfl rfl tB.out (by rw[zT.out];simp;omega) HS.out.size ?_;intro v9 w9 r1 r2 r3 r4);go_roundw
     case rel=>exact⟨i+1,ns++[nu],by go_num,hil2,aa (by rw[eY,zT.out];rfl),aa (fun y hy=>by rcases List.mem_append.1 hy with hy | hy;exact Ri.out y hy;rw[aZ] at hy;subst hy;rw[Yp.out];exact HZL.out),aa r1,aa (HS.out.trans r3)⟩
     case measure=>simp[ei];omega
    have eM:i=M:=by omega
    go_wp2_with fail;have Qc:NL wr (.slice io M ic) (ns.map (·.z)):=⟨ns,by have h:=Of.out.at;rw[zT.out,eM] at h;exact h,rfl⟩;replace HR:=aa (HR.out.below HS.out);replace HW:=aa (HW.out.trans (HS.out.mono HW.out.size));refine (rY _ (ns.map (·.z)) wr Qc (by simp;omega)).mono ?_;rintro e x41 ⟨v,rfl,hc,hb⟩;replace HR:=aa (HR.out.below hb);replace HW:=aa (HW.out.trans (hb.mono HW.out.size));clear hb;obtain⟨u,uk,ub,uo,ul,uc,ud,up,um,uq,rfl,FN,FK,FM⟩:=hc.unit;have N':=aa FN;have Dy:=aa FK;have Cg:=aa FM;clear hc FN FK FM;obtain⟨x42,kq,eq,zE,gQ,sk,jX⟩:=aM x41 #[.int .i64 uk,.bool ub,.slice uo ul uc,.bool ud,.slice up um uq] 41;replace HR:=aa (HR.out.below gQ.out);replace HW:=aa (HW.out.trans (gQ.out.mono HW.out.size))
    replace Cg:=aa (Cg.out.below gQ.out);have tB:=aa (BA jX.out N'.out Cg.out);go_wp2_with (at_builtin;refine El.Row.append (E:=vE) HR.out rfl (.tmp 44) (.tmp 47) rfl rfl rfl tB.out (by rw[HU.out];simp;omega) HW.out.size ?_;intro v9 w9 r1 r2 r3 r4);go_roundw
    case rel=>exact⟨j+1,us++[u],by go_num,hlt,aa (by rw[eY,HU.out];rfl),aa (fun y hy=>by rcases List.mem_append.1 hy with hy | hy;exact VZ.out y hy;rw[aZ] at hy;subst hy;rw[Dy.out];exact⟨by rw[cT,zT.out];omega,fun y hy=>by obtain⟨t,ht,rfl⟩:=List.mem_map.1 hy;exact Ri.out t ht⟩),aa (by rw[cn];exact DL.out.snoc (fun a2 k2 e hc=>by rw[UW.out a2 k2 e hc,hK];show fQ u.x=_;rw[Dy.out];rfl)),aa r1,aa (HW.out.trans r3)⟩
    case measure=>simp[ei];omega
  go_wp2_with fail;exact aD (results_tmp Tryz.results56 _ _ _) rfl ⟨_,us.map (·.x),rfl,⟨us,HR.out.at,rfl⟩,by rw[cT,HU.out,<-Yr.out];omega,fun x hx=>by obtain⟨t,ht,rfl⟩:=List.mem_map.1 hx;exact VZ.out t ht,DL.out,HW.out⟩
inductive F where
 | node (o z:Int) (nm:ByteArray) (ks:List F)
def F.op:F->Int | .node o _ _ _=>o
def F.num:F->Int | .node _ z _ _=>z
def F.name:F->ByteArray | .node _ _ nm _=>nm
def F.kids:F->List F | .node _ _ _ ks=>ks
def eI (o:Int):Int:=if 8<=o/\o<=11 then 2 else if 12<=o/\o<=20 then 1 else 0
def bF (o:Int) (ss:List Int):Bool:=
 if o=0\/o=1\/o=8\/o=9\/o=12\/o=13\/o=14 then decide (ss=[])
 else if o=3\/o=5 then decide (ss=[0])
 else if o=2\/o=4\/o=15 then decide (ss=[0,0])
 else if o=6\/o=7\/o=11 then decide (ss=[2])
 else if o=10 then decide (ss=[0,2])
 else if o=16 then decide (ss=[0,0]) || decide (ss=[2,2])
 else if o=17 then decide (ss=[1])
 else if o=18\/o=19 then ss.all (fun s=>decide (s=1))
 else if o=20 then decide (ss=[1,1])
 else false
def dP (o z:Int) (ss:List Int):Bool:=bF o ss && (decide (o≠5) || decide (1<=z))
def eR (ks:List F):List Int:=ks.map fun f=>eI f.op
mutual
def rt:F->Bool
 | .node o z _ ks=>dP o z (eR ks) && rts ks
def rts:List F->Bool
 | []=>true
 | f::l=>rt f && rts l
end
theorem nr:∀ l:List F,rts l=l.all rt
 | []=>rfl
 | f::l=>by rw[rts,List.all_cons,nr l]
mutual
def IQ:F->Nat
 | .node _ _ _ ks=>1+nW ks
def nW:List F->Nat
 | []=>0
 | f::l=>IQ f+nW l
end
theorem yG:∀ a b:List F,nW (a++b)=nW a+nW b
 | [],b=>by simp[nW]
 | f::a,b=>by rw[aR,nW,nW,yG a b];omega
theorem GH (ks:List F) (j:Nat) (h:j<ks.length):nW (ks.take (j+1))=nW (ks.take j)+IQ ks[j]:=by
 rw[bH h,yG,nW,nW];omega
theorem Bu (ks:List F) (j:Nat):nW (ks.take j)<=nW ks:=by
 have:=yG (ks.take j) (ks.drop j);rw[List.take_append_drop] at this;omega
def iq:V->Int
 | .I z=>z
 | _=>0
def gU:V->Bool
 | .B b=>b
 | _=>false
def mN:V->List Int
 | .L l=>l
 | _=>[]
def vF (vs:List V):V:=vs.getD 0 (.I 0)
def Gk (vs:List V):V:=vs.getD 1 (.I 0)
def Ec (r:ByteArray->V) (o z:Int) (nm:ByteArray) (vs:List V):V:=
 if o=0 then .I z
 else if o=1 then .I (iq (r nm))
 else if o=2 then .I (iq (vF vs)+iq (Gk vs))
 else if o=3 then .I (z*iq (vF vs))
 else if o=4 then .I (iq (vF vs)*iq (Gk vs))
 else if o=5 then .I (Int.fdiv (iq (vF vs)) z)
 else if o=6 then .I ((mN (vF vs)).length:Nat)
 else if o=7 then .I ((mN (vF vs)).headD 0)
 else if o=8 then .L (mN (r nm))
 else if o=9 then .L []
 else if o=10 then .L (iq (vF vs)::mN (Gk vs))
 else if o=11 then .L (mN (vF vs)).tail
 else if o=12 then .B true
 else if o=13 then .B false
 else if o=14 then .B (gU (r nm))
 else if o=15 then .B (decide (iq (vF vs)<=iq (Gk vs)))
 else if o=16 then .B (decide (vF vs=Gk vs))
 else if o=17 then .B (!gU (vF vs))
 else if o=18 then .B (vs.all gU)
 else if o=19 then .B (vs.any gU)
 else if o=20 then .B (gU (vF vs)==gU (Gk vs))
 else .I 0
mutual
def ev (r:ByteArray->V):F->V
 | .node o z nm ks=>Ec r o z nm (oW r ks)
def oW (r:ByteArray->V):List F->List V
 | []=>[]
 | f::l=>ev r f::oW r l
end
theorem ya (r:ByteArray->V):∀ l:List F,oW r l=l.map (ev r)
 | []=>rfl
 | f::l=>by rw[oW,aO,ya r l]
theorem CO (o:Int):(o=0\/o=1\/o=2\/o=3\/o=4\/o=5\/o=6\/o=7\/o=8\/o=9\/o=10\/o=11\/o=12\/o=13\/o=14\/o=15\/o=16\/o=17\/o=18\/o=19\/o=20)\/(o<0\/20<o):=by omega
theorem CP (r:ByteArray->V) (o z:Int) (nm:ByteArray) (vs:List V):fQ (Ec r o z nm vs)=eI o:=by
 rcases CO o with h | h
 ·rcases h with rfl | rfl | rfl | rfl | rfl | rfl | rfl | rfl | rfl | rfl | rfl | rfl | rfl | rfl | rfl | rfl | rfl | rfl | rfl | rfl | rfl<;>rfl
 unfold Ec eI;rw[if_neg (by omega),if_neg (by omega),if_neg (by omega),if_neg (by omega),if_neg (by omega),if_neg (by omega),if_neg (by omega),if_neg (by omega),if_neg (by omega),if_neg (by omega),if_neg (by omega),if_neg (by omega),if_neg (by omega),if_neg (by omega),if_neg (by omega),if_neg (by omega),if_neg (by omega),if_neg (by omega),if_neg (by omega),if_neg (by omega),if_neg (by omega),if_neg (by omega),if_neg (by omega)];rfl
theorem B2 (r:ByteArray->V):∀ f:F,fQ (ev r f)=eI f.op
 | .node o z nm ks=>by rw[ev];exact CP r o z nm _
theorem mo {r:ByteArray->V} {f:F} (h:eI f.op=0):ev r f=.I (iq (ev r f)):=by
 have:=B2 r f;rw[h] at this;cases he:ev r f with
 | I z=>rfl
 | B b=>rw[he] at this;cases this
 | L l=>rw[he] at this;cases this
theorem yd {r:ByteArray->V} {f:F} (h:eI f.op=1):ev r f=.B (gU (ev r f)):=by
 have:=B2 r f;rw[h] at this;cases he:ev r f with
 | I z=>rw[he] at this;cases this
 | B b=>rfl
 | L l=>rw[he] at this;cases this
theorem mC {r:ByteArray->V} {f:F} (h:eI f.op=2):ev r f=.L (mN (ev r f)):=by
 have:=B2 r f;rw[h] at this;cases he:ev r f with
 | I z=>rw[he] at this;cases this
 | B b=>rw[he] at this;cases this
 | L l=>rfl
def rO:V->Prop
 | .I z=>z.natAbs<aG ^ 600
 | .B _=>True
 | .L l=>l.length<=1000/\∀ z ∈ l,z.natAbs<aG ^ 600
mutual
def Sm (r:ByteArray->V):F->Prop
 | .node o z nm ks=>rO (Ec r o z nm (oW r ks))/\QZ r ks
def QZ (r:ByteArray->V):List F->Prop
 | []=>True
 | f::l=>Sm r f/\QZ r l
end
theorem QZ.get {r:ByteArray->V}:∀ {l:List F},QZ r l->∀ f ∈ l,Sm r f
 | [],_,f,hf=>by cases hf
 | a::l,h,f,hf=>by
  rw[QZ] at h;rcases List.mem_cons.1 hf with rfl | hf
  ·exact h.1
  exact h.2.get f hf
theorem Sm.val {r:ByteArray->V}:∀ {f:F},Sm r f->rO (ev r f)
 | .node o z nm ks,h=>by rw[Sm] at h;rw[ev];exact h.1
theorem Sm.pC {r:ByteArray->V} {o z:Int} {nm:ByteArray} {ks:List F} (h:Sm r (.node o z nm ks)):∀ f ∈ ks,Sm r f:=by
 rw[Sm] at h;exact h.2.get
def cR (env:List (ByteArray × V)) (nm:ByteArray):V:=env.foldl (fun a p=>if p.1=nm then p.2 else a) (.I 0)
theorem MP (env:List (ByteArray × V)) (p:ByteArray × V) (nm:ByteArray):cR (env++[p]) nm=if p.1=nm then p.2 else cR env nm:=by
 unfold cR;rw[List.foldl_append];rfl
theorem CL (env:List (ByteArray × V)) (nm:ByteArray) (j:Nat) (h:j<env.length):cR (env.take (j+1)) nm=if env[j].1=nm then env[j].2 else cR (env.take j) nm:=by
 rw[bH h,MP]
def mX (w:ag) (v v':aq):Prop:=∀ g,v'.ownBlock=some g->v.ownBlock=some g\/w.heap.size<=g
theorem pP {P:tG} {w w':ag} {t ty e:bn} {i:TypeInfo} {z:aq} (ht:P.underlying t=some (.slice e)) (hi:P.info? e=some i) (hz:i.zero=some z)
  {base n m c:Nat} {v v':aq} {xs news:List aq} (hown:w.ownsRow base e i.size v n xs) {a:cB} (hl:news.length=m*i.size) (hnews:∀ j u,news[j]?=some u->w.cell? (a.add j)=some u) (h1:∀ u ∈ news,u.oneCell'=true)
  (h63:n+m<=1000000000) (hbytes:(n+m)*i.bytes<=140737488355328) (hm:0<m) (hzs:z.cells.size=i.size) (hsz:0<i.size)
  (hr:(jv #[t,t] ty #[v,.slice (some a) m c]).run P w=.ok v' w'):mX w v v':=by
 have h0:=hown;rcases hown.2 with ⟨rfl,rfl⟩ | ⟨g,cap,cur,rfl,hbg,hg,hnc,NG,hcs,htake⟩
 ·have hx:xs=[]:=List.eq_nil_of_length_eq_zero (by simpa using hown.1);subst hx;obtain⟨v2,w2,uB,SW,_,_⟩:=run_append_own (P:=P) w w.heap.size t ty e i z i.size i.bytes ht hi hz rfl rfl hzs hsz (.slice none 0 0) 0 [] (World.ownsRow_nil w _ e i.size) a m c news hl hnews h1 (by unfold bI;omega) hbytes (ai _);rw[hr] at uB;injection uB with e1 e2;subst e1;exact fun g hg=>.inr (SW.lt g hg).1
 by_cases hroom:n+m<=cap
 ·have hfit:n*i.size+news.length<=cur.size:=by rw[hl,hcs,<-dH];exact aV _ hroom
  rw[run_append_room (P:=P) w t ty e i ht hi g n cap cur hg a m c news hl hnews h1 hroom hfit] at hr;injection hr with e1 e2;subst e1;exact fun q hq=>.inl hq
 rw[run_append_grow (P:=P) w t ty e i z ht hi hz ⟨g,0,none⟩ n cap xs h0.1 (h0.cells (g:=g) rfl) a m c news hl hnews (by omega) (by omega) (growslice_fits (by omega) hbytes)] at hr;injection hr with e1 e2;subst e1;intro q hq;injection hq with hq;exact .inr (by rw[<-hq];exact ai _)
theorem uH {P:tG} (w:ag) {ops:Array fL} {rest:List fL} {o:fL} {a:Act} {Q:Exit->Act->ag->Prop} (hgd:o.guard=none) (s x:Operand) (t:bn)
  (ho:o.op=.call { callee:=.builtin .append,args:=#[s,x],argTypes:=#[t,t] })
  (e:bn) (ht:P.underlying t=some (.slice e)) {z:aq} {size bytes:Nat} (hinfo:(P.info? e).map (fun i=>(i.zero,i.size,i.bytes))=some (some z,size,bytes)) (hzs:z.cells.size=size) (hsz:0<size) (hby:bytes<=1000)
  (base:Nat) (v:aq) (n:Nat) (xs:List aq) (hs:a.eval s=v) (hown:w.ownsRow base e size v n xs)
  (h:Nat) (T:bn) (cs:List aq) (hcs:cs.length=size) (h1:∀ u ∈ cs,u.oneCell'=true) (hx:a.eval x=.slice (some ⟨h,0,none⟩) 1 1) (hc:w.heap[h]?=some (.cells cs.toArray T (0,0)))
  (hlen:n<=1000000) (hbase:base<=w.heap.size)
  (hK:∀ v' w',w'.ownsRow base e size v' (n+1) (xs++cs)->w.grownBy w' v.ownBlock->mX w v v'->qy P ops Q rest (a.put o.dst v') w'):qy P ops Q (o::rest) a w:=by
 obtain⟨i,hi,hz,gV,pJ⟩:=pS hinfo;subst gV pJ;have hnews:∀ j u,cs[j]?=some u->w.cell? ((⟨h,0,none⟩:cB).add j)=some u:=fun j u hj=>World.news_of_block hc j u (by simpa using hj)
 have dI:(n+1)*i.bytes<=140737488355328:=ah (iU (show n+1<=1000001 by omega) hby) (by decide);refine wpList_plain hgd fun K hk=>?_
 obtain⟨v',w',hr,h2,h3,h4⟩:=run_append_own (P:=P) w base t o.type e i z i.size i.bytes ht hi hz rfl rfl hzs hsz v n xs hown ⟨h,0,none⟩ 1 1 cs (by rw[hcs,LO]) hnews h1 (by unfold bI;omega) dI hbase;have hf:=pP ht hi hz hown (c:=1) (m:=1) (by rw[hcs,LO]) hnews h1 (by omega) dI (by decide) hzs hsz hr;unfold Oper.wp execOp;simp only[ho,resolve,invoke,builtin,Sem.run_bind,Sem.run_pure,rA,uz,aO,List.map_nil,hs,hx,hr];exact hk _ _ (hK v' w' h2 h3 hf)
theorem dU {w w':ag} {p:cB} (h:w'.heap[p.block]?=w.heap[p.block]?):w'.cell? p=w.cell? p:=World.cell?_of_block h
def Mk (n:Nat) (w:ag) (ko:Option cB) (i:Nat) (cs:List aq):Prop:=∃ a,ko=some a/\∀ j v,cs[j]?=some v->w.cell? ((a.add (i*n)).add j)=some v
theorem Mk.keep {n:Nat} {w w':ag} {ko:Option cB} {i:Nat} {cs:List aq} (h:Mk n w ko i cs) (hk:∀ a,ko=some a->w'.heap[a.block]?=w.heap[a.block]?):Mk n w' ko i cs:=by
 obtain⟨a,rfl,h⟩:=h;refine⟨a,rfl,fun j v hv=>?_⟩;rw[dU (w:=w) (by rw[cI,cI];exact hk a rfl)];exact h j v hv
theorem Mk.lt {n:Nat} {w:ag} {ko:Option cB} {i:Nat} {c:aq} {cs:List aq} (h:Mk n w ko i (c::cs)):∀ a,ko=some a->a.block<w.heap.size:=by
 obtain⟨a,rfl,h⟩:=h;rintro _ ⟨⟩;have:=cu (h 0 _ rfl)
 rwa [cI,cI] at this
theorem Fy {n:Nat} {w:ag} {base:Nat} {e:bn} {ko:Option cB} {m kc:Nat} {α:Type} (f:α->List aq) (hf:∀ a,(f a).length=n) {ys:List α} (hm:m=ys.length) (h:w.ownsRow base e n (.slice ko m kc) m (ys.flatMap f)) (i:Nat) (hi:i<ys.length):Mk n w ko i (f ys[i]):=by
 have hfl:∀ (l:List α) (i j:Nat) (hi:i<l.length),j<n->(l.flatMap f)[i*n+j]?=(f l[i])[j]?:=by
  intro l;induction l with
  | nil=>intro i j hi;simp at hi
  | cons a l ih =>
   intro i j hi hj;rw[fI];cases i with
   | zero=>rw[Nat.zero_mul,fM,List.getElem?_append_left (by rw[hf];exact hj)];rfl
   | succ i =>
    rw[List.getElem?_append_right (by rw[hf,dH];omega),hf,show (i+1)*n+j - n=i*n+j by rw[dH];omega,List.getElem_cons_succ];exact ih i j (by simpa using hi) hj
 have hll:∀ l:List α,(l.flatMap f).length=l.length*n:=by
  intro l;induction l with
  | nil=>simp
  | cons a l ih=>rw[fI,eY,ih,hf,mS,dH];omega
 have h0:=h;rcases h.2 with ⟨hv,h1⟩ | ⟨g,cap,cur,hv,hb,hg,h1,h2,h3,h4⟩
 ·omega
 injection hv with e1 e2 e3;subst e1 e3;refine⟨_,rfl,fun j v hj=>?_⟩;have Tj:j<n:=by have:=(List.getElem?_eq_some_iff.1 hj).1;rwa [hf] at this
 rw[lD,lD,fM,lU h0 (i*n+j) (by
  rw[hm];calc i*n+j<i*n+n:=by omega
   _=(i+1)*n:=by rw[dH];omega
   _<=ys.length*n:=aV _ hi),hfl ys i j hi Tj]
 exact hj
theorem AO {w:ag} {base:Nat} {e:bn} {size:Nat} {v:aq} {n:Nat} {xs:List aq} (h:w.ownsRow base e size v n xs):∃ ko kc,v=.slice ko n kc/\n<=kc:=by
 rcases h.2 with ⟨rfl,rfl⟩ | ⟨g,cap,cur,rfl,_,_,h1,_⟩
 ·exact⟨_,_,rfl,ai _⟩
 exact⟨_,_,rfl,h1⟩
def KN (w w':ag):Prop:=∀ (a:cB) (z:Int),w.cell? a=some (.int .u32 z)->w'.cell? a=some (.int .u32 z)
theorem KN.aN {w w':ag} (h:aA w.heap.size w w'):KN w w':=fun a z hc=>by rw[h.cell (World.block_lt_of_cell? w a hc)];exact hc
theorem KN.gS {e:bn} {w w':ag} (h:Fr e w w'):KN w w':=h.num
theorem KN.trans {a b c:ag} (h:KN a b) (k:KN b c):KN a c:=fun p z hp=>k p z (h p z hp)
theorem Sl.kn {w w':ag} {v:aq} {xs:List Nat} (h:Sl w .u32 v xs) (k:KN w w'):Sl w' .u32 v xs:=by
 obtain⟨ao,cap,e1,h1,h2,h3,h4⟩:=h;refine⟨ao,cap,e1,h1,h2,h3,fun i hi=>?_⟩;obtain⟨a,ha,hc⟩:=h4 i hi;exact⟨a,ha,k _ _ hc⟩
theorem CI.kn {w w':ag} {v:aq} {z:Int} {k:Nat} (h:CI w v z k) (f:KN w w'):CI w' v z k:=by
 obtain⟨va,h1,h2,h3⟩:=h;exact⟨va,h1,h2.kn f,h3⟩
structure Es (α:Type) where
 e:bn
 n:Nat
 f:α->List aq
 R:ag->(Nat->Prop)->α->Prop
 pos:0<n
 len:∀ a,(f a).length=n
 one:∀ a,∀ u ∈ f a,u.oneCell'=true
 keep:∀ {w w':ag} {S:Nat->Prop} {a:α},(∀ g,S g->w'.heap[g]?=w.heap[g]?)->KN w w'->R w S a->R w' S a
 mono:∀ {w:ag} {S S':Nat->Prop} {a:α},(∀ g,S g->S' g)->R w S a->R w S' a
 lt:∀ {w:ag} {S:Nat->Prop} {a:α},R w S a->R w (fun g=>S g/\g<w.heap.size) a
section
variable {α:Type} (E:Es α)
theorem Es.below {w w':ag} {S:Nat->Prop} {a:α} (h:E.R w S a) (hb:aA w.heap.size w w'):E.R w' S a:=E.mono (fun _ h=>h.1) (E.keep (fun g hg=>hb.block g hg.2) (KN.aN hb) (E.lt h))
theorem Es.grown {w w':ag} {S:Nat->Prop} {a:α} {r:Option Nat} (h:E.R w S a) (hg:w.grownBy w' r) (hn:KN w w') (hS:∀ b,S b->r≠some b):E.R w' S a:=
 E.mono (fun _ h=>h.1) (E.keep (fun q hq=>hg.block q hq.2 (fun e=>hS q hq.1 e.symm)) hn (E.lt h))
variable {E}
def Es.At (E:Es α) (w:ag) (S:Nat->Prop) (v:aq) (el:List α):Prop:=∃ ko kc,v=.slice ko el.length kc/\(el.length<=kc/\kc<=bI/\(ko=none->kc=0))/\(el.length≠0->∀ a,ko=some a->S a.block)/\∀ i (h:i<el.length),Mk E.n w ko i (E.f el[i])/\E.R w S el[i]
theorem Es.At.keep {w w':ag} {S:Nat->Prop} {v:aq} {el:List α} (hk:∀ g,S g->w'.heap[g]?=w.heap[g]?) (hn:KN w w') (h:E.At w S v el):E.At w' S v el:=by
 obtain⟨ko,kc,rfl,h1,h2,h3⟩:=h;exact⟨ko,kc,rfl,h1,h2,fun i hi=>⟨(h3 i hi).1.keep fun a ha=>hk _ (h2 (by omega) a ha),E.keep hk hn (h3 i hi).2⟩⟩
theorem Es.At.mono {w:ag} {S S':Nat->Prop} {v:aq} {el:List α} (hs:∀ g,S g->S' g) (h:E.At w S v el):E.At w S' v el:=by
 obtain⟨ko,kc,rfl,h1,h2,h3⟩:=h;exact⟨ko,kc,rfl,h1,fun h0 a ha=>hs _ (h2 h0 a ha),fun i hi=>⟨(h3 i hi).1,E.mono hs (h3 i hi).2⟩⟩
theorem Es.At.lt {w:ag} {S:Nat->Prop} {v:aq} {el:List α} (h:E.At w S v el):E.At w (fun g=>S g/\g<w.heap.size) v el:=by
 obtain⟨ko,kc,rfl,h1,h2,h3⟩:=h;refine⟨ko,kc,rfl,h1,fun h0 a ha=>⟨h2 h0 a ha,?_⟩,fun i hi=>⟨(h3 i hi).1,E.lt (h3 i hi).2⟩⟩;have h:=(h3 0 (by omega)).1;cases hf:E.f (el[0]'(by omega)) with
 | nil=>have:=E.len (el[0]'(by omega));rw[hf] at this;have:=E.pos;simp at *;omega
 | cons c cs=>rw[hf] at h;exact h.lt a ha
theorem Es.At.below {w w':ag} {S:Nat->Prop} {v:aq} {el:List α} (h:E.At w S v el) (hb:aA w.heap.size w w'):E.At w' S v el:=(Es.At.keep (fun g hg=>hb.block g hg.2) (KN.aN hb) h.lt).mono fun _ h=>h.1
theorem Es.At.grown {w w':ag} {S:Nat->Prop} {v:aq} {el:List α} {r:Option Nat} (h:E.At w S v el) (hg:w.grownBy w' r) (hn:KN w w') (hS:∀ b,S b->r≠some b):E.At w' S v el:=
 (Es.At.keep (fun q hq=>hg.block q hq.2 (fun e=>hS q hq.1 e.symm)) hn h.lt).mono fun _ h=>h.1
end
theorem Kt:(Tryz.prog.info? 29).map (fun i=>(i.zero,i.size,i.bytes))=some (some (.agg #[.int .i64 0,.bool false,.slice none 0 0,.string ⟨#[]⟩,.slice none 0 0]),5,80):=by kernel_rfl
structure FU where
 k:Int
 n:NU
 nm:ByteArray
 ko:Option cB
 kl:Nat
 kc:Nat
def fC (u:FU):List aq:=[.int .i64 u.k,.bool (decide (u.n.z<0)),.slice u.n.o u.n.l u.n.c,.string u.nm,.slice u.ko u.kl u.kc]
def fV (u:FU):aq:=.agg #[.int .i64 u.k,.bool (decide (u.n.z<0)),.slice u.n.o u.n.l u.n.c,.string u.nm,.slice u.ko u.kl u.kc]
def IR (z:Int):Prop:=-9223372036854775808<=z/\z<=9223372036854775807
theorem NR.of {w:ag} {n:NU} (h:Sl w .u32 (.slice n.o n.l n.c) (fJ aG n.z.natAbs)) (hb:n.z.natAbs<aG ^ 600):NR w n:=⟨_,rfl,h,hb⟩
def FT (w:ag) (S:Nat->Prop):Nat->FU->F->Prop
 | 0,_,_=>False
 | d+1,u,t=>(u.k=t.op/\IR u.k/\u.n.z=t.num/\u.nm=t.name)/\NR w u.n/\∃ el:List (FU × F),el.map (·.2)=t.kids/\(u.kl=el.length/\el.length<=u.kc/\u.kc<=bI/\(u.ko=none->u.kc=0)) /\
   (el.length≠0->∀ a,u.ko=some a->S a.block)/\∀ i (h:i<el.length),Mk 5 w u.ko i (fC el[i].1)/\FT w S d el[i].1 el[i].2
theorem FT.keep {w w':ag} {S:Nat->Prop} (hk:∀ g,S g->w'.heap[g]?=w.heap[g]?) (hn:KN w w'):∀ {d:Nat} {u:FU} {t:F},FT w S d u t->FT w' S d u t
 | 0,_,_,h=>h
 | d+1,u,t,⟨h1,h2,el,h3,h4,h5,h6⟩=>⟨h1,CI.kn h2 hn,el,h3,h4,h5,fun i hi=>⟨(h6 i hi).1.keep fun a ha=>hk _ (h5 (by omega) a ha),(h6 i hi).2.keep hk hn⟩⟩
theorem FT.mono {w:ag} {S S':Nat->Prop} (hs:∀ g,S g->S' g):∀ {d:Nat} {u:FU} {t:F},FT w S d u t->FT w S' d u t
 | 0,_,_,h=>h
 | d+1,u,t,⟨h1,h2,el,h3,h4,h5,h6⟩=>⟨h1,h2,el,h3,h4,fun h0 a ha=>hs _ (h5 h0 a ha),fun i hi=>⟨(h6 i hi).1,(h6 i hi).2.mono hs⟩⟩
theorem FT.lt {w:ag} {S:Nat->Prop}:∀ {d:Nat} {u:FU} {t:F},FT w S d u t->FT w (fun g=>S g/\g<w.heap.size) d u t
 | 0,_,_,h=>h
 | d+1,u,t,⟨h1,h2,el,h3,h4,h5,h6⟩=>⟨h1,h2,el,h3,h4,fun h0 a ha=>⟨h5 h0 a ha,(h6 0 (by omega)).1.lt a ha⟩,fun i hi=>⟨(h6 i hi).1,(h6 i hi).2.lt⟩⟩
theorem FT.up {w:ag} {S:Nat->Prop}:∀ {d:Nat} {u:FU} {t:F},FT w S d u t->∀ {d':Nat},d<=d'->FT w S d' u t
 | 0,_,_,h,_,_=>absurd h id
 | d+1,u,t,⟨h1,h2,el,h3,h4,h5,h6⟩,0,hd=>by omega
 | d+1,u,t,⟨h1,h2,el,h3,h4,h5,h6⟩,d'+1,hd=>⟨h1,h2,el,h3,h4,h5,fun i hi=>⟨(h6 i hi).1,(h6 i hi).2.up (Nat.le_of_succ_le_succ hd)⟩⟩
def fE (d:Nat):Es (FU × F) where
 e:=29
 n:=5
 f q:=fC q.1
 R w S q:=FT w S d q.1 q.2
 pos:=by decide
 len _:=rfl
 one q:=by
  intro u hu;simp only[fC,bz,aU,or_false] at hu;rcases hu with rfl | rfl | rfl | rfl | rfl<;>rfl
 keep h n k:=k.keep h n
 mono h k:=k.mono h
 lt k:=k.lt
theorem FT.below {w w':ag} {S:Nat->Prop} {d:Nat} {u:FU} {t:F} (h:FT w S d u t) (hb:aA w.heap.size w w'):FT w' S d u t:=(fE d).below (a:=(u,t)) h hb
theorem FT.grown {w w':ag} {S:Nat->Prop} {d:Nat} {u:FU} {t:F} {r:Option Nat} (h:FT w S d u t) (hg:w.grownBy w' r) (hn:KN w w') (hS:∀ b,S b->r≠some b):FT w' S d u t:=(fE d).grown (a:=(u,t)) h hg hn hS
def FC (w:ag) (S:Nat->Prop) (d:Nat) (v:aq) (t:F):Prop:=∃ u:FU,v=fV u/\FT w S d u t
def FL (w:ag) (S:Nat->Prop) (d:Nat) (v:aq) (ts:List F):Prop:=∃ el:List (FU × F),(fE d).At w S v el/\el.map (·.2)=ts
theorem FC.below {w w':ag} {S:Nat->Prop} {d:Nat} {v:aq} {t:F} (h:FC w S d v t) (hb:aA w.heap.size w w'):FC w' S d v t:=by
 obtain⟨u,h1,h2⟩:=h;exact⟨u,h1,h2.below hb⟩
theorem FC.mono {w:ag} {S S':Nat->Prop} {d:Nat} {v:aq} {t:F} (hs:∀ g,S g->S' g) (h:FC w S d v t):FC w S' d v t:=by
 obtain⟨u,h1,h2⟩:=h;exact⟨u,h1,h2.mono hs⟩
theorem FC.up {w:ag} {S:Nat->Prop} {d d':Nat} {v:aq} {t:F} (h:FC w S d v t) (hd:d<=d'):FC w S d' v t:=by
 obtain⟨u,h1,h2⟩:=h;exact⟨u,h1,h2.up hd⟩
theorem FL.below {w w':ag} {S:Nat->Prop} {d:Nat} {v:aq} {ts:List F} (h:FL w S d v ts) (hb:aA w.heap.size w w'):FL w' S d v ts:=by
 obtain⟨el,h1,h2⟩:=h;exact⟨el,h1.below hb,h2⟩
theorem FL.mono {w:ag} {S S':Nat->Prop} {d:Nat} {v:aq} {ts:List F} (hs:∀ g,S g->S' g) (h:FL w S d v ts):FL w S' d v ts:=by
 obtain⟨el,h1,h2⟩:=h;exact⟨el,h1.mono hs,h2⟩
theorem FL.grown {w w':ag} {S:Nat->Prop} {d:Nat} {v:aq} {ts:List F} {r:Option Nat} (h:FL w S d v ts) (hg:w.grownBy w' r) (hn:KN w w') (hS:∀ b,S b->r≠some b):FL w' S d v ts:=by
 obtain⟨el,h1,h2⟩:=h;exact⟨el,h1.grown hg hn hS,h2⟩
theorem FC.open {w:ag} {S:Nat->Prop} {d:Nat} {v:aq} {t:F} (h:FC w S d v t):∃ (b:Bool) (o:Option cB) (l c:Nat) (ko:Option cB) (kl kc:Nat),
  v=.agg #[.int .i64 t.op,.bool b,.slice o l c,.string t.name,.slice ko kl kc]/\(IR t.op/\CI w (.agg #[.bool b,.slice o l c]) t.num 600/\kl=t.kids.length/\kl<=kc/\kc<=bI)/\1<=d/\FL w S (d - 1) (.slice ko kl kc) t.kids:=by
 obtain⟨u,rfl,h⟩:=h;cases d with
 | zero=>exact absurd h id
 | succ d =>
  obtain⟨⟨h1,h2,h3,h4⟩,h5,el,h6,⟨h7,h8,h9,h10⟩,h11,h12⟩:=h;have VO:u.kl=t.kids.length:=by rw[h7,<-h6,cT]
  have VN:u.kl<=u.kc:=by rw[h7];exact h8
  refine⟨decide (u.n.z<0),u.n.o,u.n.l,u.n.c,u.ko,u.kl,u.kc,?_,⟨by rw[<-h1];exact h2,?_,VO,VN,h9⟩,Nat.succ_le_succ (au _),el,⟨u.ko,u.kc,by rw[h7],⟨h8,h9,h10⟩,h11,h12⟩,h6⟩
  ·unfold fV;rw[h1,h4]
  rw[<-h3];exact h5
theorem FL.form {w:ag} {S:Nat->Prop} {d:Nat} {v:aq} {ts:List F} (h:FL w S d v ts):∃ ko kc,v=.slice ko ts.length kc/\(ts.length<=kc/\kc<=bI/\(ko=none->kc=0)):=by
 obtain⟨el,⟨ko,kc,rfl,h1,-⟩,rfl⟩:=h;exact⟨ko,kc,by simp,by simpa using h1⟩
theorem FL.cells {w:ag} {S:Nat->Prop} {d:Nat} {ko:Option cB} {n kc:Nat} {ts:List F} (h:FL w S d (.slice ko n kc) ts) (i:Nat) (hi:i<ts.length):∃ (a:cB) (b:Bool) (o:Option cB) (l c:Nat) (po:Option cB) (pl pc:Nat),ko=some a /\
  (w.cell? (a.add (i*5))=some (.int .i64 ts[i].op)/\w.cell? ⟨(a.add (i*5)).block,(a.add (i*5)).off+1,none⟩=some (.bool b)/\w.cell? ⟨(a.add (i*5)).block,(a.add (i*5)).off+2,none⟩=some (.slice o l c) /\
   w.cell? ⟨(a.add (i*5)).block,(a.add (i*5)).off+3,none⟩=some (.string ts[i].name)/\w.cell? ⟨(a.add (i*5)).block,(a.add (i*5)).off+4,none⟩=some (.slice po pl pc)) /\
  FC w S d (.agg #[.int .i64 ts[i].op,.bool b,.slice o l c,.string ts[i].name,.slice po pl pc]) ts[i]:=by
 obtain⟨el,⟨AX,A2,e,h1,h2,h3⟩,rfl⟩:=h;injection e with e1 e2 e3;subst e1;have hi':i<el.length:=by simpa using hi
 obtain⟨⟨a,ha,hc⟩,hT⟩:=h3 i hi';simp only[gp];have hk:el[i].1.k=el[i].2.op/\el[i].1.nm=el[i].2.name:=by
  cases d with
  | zero=>exact absurd hT id
  | succ d=>obtain⟨⟨h1,h2,h3,h4⟩,-⟩:=hT;exact⟨h1,h4⟩
 refine⟨a,_,_,_,_,_,_,_,ha,⟨by have:=hc 0 _ rfl;rw[<-hk.1];exact this,hc 1 _ rfl,hc 2 _ rfl,by have:=hc 3 _ rfl;rw[<-hk.2];exact this,hc 4 _ rfl⟩,el[i].1,?_,hT⟩;unfold fV;rw[hk.1,hk.2]
theorem FC.mk {w:ag} {S:Nat->Prop} {d:Nat} {b:Bool} {o:Option cB} {l c:Nat} {nm:ByteArray} {ko:Option cB} {kl kc:Nat} {op z:Int} {ks:List F} (hr:IR op) (hz:CI w (.agg #[.bool b,.slice o l c]) z 600)  (hk:FL w S d (.slice ko kl kc) ks) :
  FC w S (d+1) (.agg #[.int .i64 op,.bool b,.slice o l c,.string nm,.slice ko kl kc]) (.node op z nm ks):=by
 have hb:b=decide (z<0):=by
  obtain⟨va,e,_⟩:=hz;injection e with e;have e1:=congrArg (fun t:Array aq=>t[0]?) e;injection e1 with e1;injection e1 with e1
 subst hb;obtain⟨el,⟨AX,A2,e,h1,h2,h3⟩,rfl⟩:=hk;injection e with e1 e2 e3;subst e1;subst e3;exact⟨⟨op,⟨o,l,c,z⟩,nm,ko,kl,kc⟩,rfl,⟨rfl,hr,rfl,rfl⟩,hz,el,rfl,⟨e2,h1⟩,h2,h3⟩
theorem FL.nil (w:ag) (S:Nat->Prop) (d:Nat):FL w S d (.slice none 0 0) []:=⟨[],⟨none,0,rfl,⟨ai _,au _,fun _=>rfl⟩,fun h=>absurd rfl h,fun i hi=>absurd hi (ay i)⟩,rfl⟩
abbrev Bs:=List UInt8
theorem cellsByte:Tryz.prog.cellsOf 5=1:=by kernel_rfl
theorem uE.fresh (w:ag):uE w.heap.size w.heap.size [] (w.alloc (.cells #[.pointer none,.slice none 0 0] 109)):=Lib.fresh_isBuilder 109 5 w
theorem uE.lt {B b:Nat} {l:Bs} {w:ag} (h:uE B b l w):B<=b/\b<w.heap.size:=by
 obtain⟨p,v,h1,-,-,h2,-⟩:=h.at;exact⟨h2,ae h1⟩
def Cj (w w':ag):Prop:=∀ (g:Nat) (c:Array aq) (T:bn) (fz:Nat × Nat),w.heap[g]?=some (.cells c T fz)->T≠5->T≠109->w'.heap[g]?=some (.cells c T fz)
theorem Cj.refl (w:ag):Cj w w:=fun _ _ _ _ h _ _=>h
theorem Cj.trans {a b c:ag} (h:Cj a b) (k:Cj b c):Cj a c:=fun g x T fz h1 h2 h3=>k g x T fz (h g x T fz h1 h2 h3) h2 h3
theorem fe {w w':ag} (h:aA w.heap.size w w'):Cj w w':=fun g c T fz h1 _ _=>by rw[h.block g (ae h1)];exact h1
theorem Ey {w:ag} {b:Nat} {c0:Array aq} {f0:Nat × Nat} (hb:w.heap[b]?=some (.cells c0 109 f0)) (i:Nat) (x:aq):Cj w (w.setCell ⟨b,i,none⟩ x):=fun g c T fz h1 _ h3=>by
 by_cases e:g=b
 ·subst e;rw[hb] at h1;injection h1 with h1;injection h1 with _ h1 _;exact absurd h1.symm h3
 rw[heap_setCell_other _ _ g _ (by simpa using e)];exact h1
theorem C' {w w':ag} {B:Nat} {v:aq} {n:Nat} {xs:List aq} (hown:w.ownsRow B 5 1 v n xs) (hg:w.grownBy w' v.ownBlock):Cj w w':=fun g c T fz h1 h2 _=>by
 rw[hg.block g (ae h1) (fun e=>?_)];exact h1;rcases hown.2 with ⟨rfl,_⟩ | ⟨q,cap,cur,rfl,_,hq,_⟩
 ·cases e
 injection e with e;subst e;rw[hq] at h1;injection h1 with h1;injection h1 with _ h1 _;exact h2 h1.symm
theorem zL {B b:Nat} {l:Bs} {w:ag} (h:uE B b l w):∃ v,aW aj 150 #[.pointer (some ⟨b,0,none⟩)] w fun e w1=>e=.returned (.tuple #[])/\w1.heap[b]?=some (.cells #[.pointer (some ⟨b,0,none⟩),v] 109 (0,0))/\w1.ownsRow B 5 1 v l.length (dN l)/\v.ownBlock≠some b/\aA B w w1/\Cj w w1:=by
 obtain⟨p,v,hbk,hown,hne,I0,hp⟩:=h.at;refine⟨v,?_⟩;rcases hp with rfl | rfl
 ·refine (ry b w (by rw[eK w b 0 _ 109 (0,0) hbk];rfl) (by simp[World.shape?,hbk]) (tC w b 0 _ 109 hbk)).mono ?_;rintro e w1 ⟨rfl,rfl⟩;refine⟨rfl,?_,?_,hne,(ax _ _).setCell I0 _,Ey hbk 0 _⟩
  ·rw[aC w b 0 _ 109 _ hbk];rfl
  exact ownsRow_setCell_other hown (by simpa using hne) _
 refine (sJ b w (by rw[eK w b 0 _ 109 (0,0) hbk];rfl)).mono ?_;rintro e w1 ⟨rfl,rfl⟩;exact⟨rfl,hbk,hown,hne,ax _ _,Cj.refl _⟩
def sP (B b:Nat) (l:Bs) (w:ag) (e:Ending) (w':ag):Prop:=(∃ v,e=.returned v)/\uE B b l w'/\aA B w w'/\Cj w w'
theorem pO (B b:Nat) (l m:Bs) (w:ag) (h:uE B b l w) (hlen:l.length+m.length<=1000000) (hBw:B<=w.heap.size) :
  aW aj 100 #[.pointer (some ⟨b,0,none⟩),.string ⟨m.toArray⟩] w (sP B b (l++m) w):=by
 obtain⟨i0,hi,hz0,gV,pJ⟩:=pS infoByte;obtain⟨v,cc⟩:=zL h;have I0:=h.lt.1;have hsz:(⟨m.toArray⟩:ByteArray).size=m.length:=rfl;have CC:=aa cc;clear cc h;go_enter Tryz.func100,Tryz.ntmps100;go_wp2_with fail;refine CC.out.mono ?_;rintro e w1 ⟨rfl,uu,tV,hne,eH,KW⟩;have gA:=aa KW;clear KW;have c0:w1.cell? ⟨b,0,none⟩=some (.pointer (some ⟨b,0,none⟩)):=by rw[eK w1 b 0 _ 109 (0,0) uu];rfl
 have c1:w1.cell? ⟨b,1,none⟩=some v:=by rw[eK w1 b 1 _ 109 (0,0) uu];rfl
 have HK:=aa uu;clear uu;have Nt:=eH.size;go_wp2_with (at_builtin;refine Lib.wpList_append_own_string _ rfl (.tmp 12) (.tmp 13) 99 9 rfl B 5 i0 tD Tryz.underlying9 hi hz0 gV pJ _ _ _ rfl tV ⟨m.toArray⟩ rfl ?c3 ?c4 ?c5 ?_)
 case c3=>unfold bI;omega
 case c4=>omega
 case c5=>omega
 intro v' w2 hown' hgrow _;have HFG:=aa (C' tV hgrow);have Nw:b<w1.heap.size:=ae HK.out;have dI:w2.heap[b]?=some (.cells #[.pointer (some ⟨b,0,none⟩),v] 109 (0,0)):=by
  rw[hgrow.block b Nw (fun e=>hne e.symm)];exact HK.out
 have d0:w2.cell? ⟨b,0,none⟩=some (.pointer (some ⟨b,0,none⟩)):=by rw[eK w2 b 0 _ 109 (0,0) dI];rfl
 have d1:w2.cell? ⟨b,1,none⟩=some v:=by rw[eK w2 b 1 _ 109 (0,0) dI];rfl
 have f1:w2.frozen? ⟨b,1,none⟩=false:=tC w2 b 1 _ 109 dI;obtain⟨ao,cap,rfl,-⟩:=AO hown';have nj:=aa dI;clear dI;go_wp2;go_ret2;refine⟨⟨_,rfl⟩,?_,(eH.grown hgrow (by omega) (fun k hk=>(tV.lt k hk).1)).setCell (p:=⟨b,1,none⟩) I0 _,(gA.out.trans HFG.out).trans (Ey nj.out 1 _)⟩;refine .inr ?_;rw[<-rS];refine Lib.BuilderAt.put (T:=109) (e:=5) I0 nj.out (bs':=dN l++Lib.strCells ⟨m.toArray⟩) ?_ (by decide);rw[eY,qA,Lib.strCells_length];exact hown'
theorem qU (B b:Nat) (l:Bs) (c:UInt8) (z:Int) (hz:z=(c.toNat:Int)) (w:ag) (h:uE B b l w) (hlen:l.length<=1000000) (hBw:B<=w.heap.size) :
  aW aj 116 #[.pointer (some ⟨b,0,none⟩),.int .u8 z] w (sP B b (l++[c]) w):=by
 obtain⟨v,cc⟩:=zL h;have I0:=h.lt.1;have CC:=aa cc;have HZ:=aa hz;clear cc h hz;go_enter Tryz.func116,Tryz.ntmps116;go_wp2_with fail;refine CC.out.mono ?_;rintro e w1 ⟨rfl,uu,tV,hne,eH,KW⟩;have gA:=aa KW;clear KW;have Nw:b<w1.heap.size:=ae uu;have c0:w1.cell? ⟨b,0,none⟩=some (.pointer (some ⟨b,0,none⟩)):=by rw[eK w1 b 0 _ 109 (0,0) uu];rfl
 have c1:w1.cell? ⟨b,1,none⟩=some v:=by rw[eK w1 b 1 _ 109 (0,0) uu];rfl
 have hA:=tV.alloc (.cells #[.int .u8 z] 5);have HA:=aa hA;have HK:=aa (bX uu (.cells #[.int .u8 z] 5));have HM:=aa (dh w1 (.cells #[.int .u8 z] 5) _ rfl);clear uu hA;have Nt:=eH.size
 go_wp2_with (at_builtin;go_loud (refine uH _ rfl (.tmp 11) (.tmp 13) 99 rfl 5 tD infoByte rfl (by decide) (by decide) B v l.length _ rfl HA.out w1.heap.size 5 [.int .u8 z] rfl (by intro u hu;simp at hu;subst hu;rfl) rfl HM.out (by omega) (by simp;omega) ?_;intro v' w2 hown' hgrow hfr;have dI:=(hgrow.block b (ae HK.out) (fun e=>hne e.symm)).trans HK.out;have d1:w2.cell? ⟨b,1,none⟩=some v:=(by rw[eK w2 b 1 _ 109 (0,0) dI];rfl);have f1:w2.frozen? ⟨b,1,none⟩=false:=tC w2 b 1 _ 109 dI;obtain⟨ao,cap,rfl,-⟩:=AO hown';have nj:=aa dI;have HOW:=aa hown';have HGR:=aa hgrow;clear dI hown' hgrow hfr));go_ret;have TG:aA B w (w1.alloc (.cells #[.int .u8 z] 5)):=eH.alloc (by omega) _
 refine⟨⟨_,rfl⟩,.inr ?_,(TG.grown HGR.out (by have:=TG.size;omega) (fun k hk=>(HA.out.lt k hk).1)).setCell (p:=⟨b,1,none⟩) I0 _,((gA.out.trans (fe ((ax _ _).alloc (ai _) _))).trans (C' HA.out HGR.out)).trans (Ey nj.out 1 _)⟩;have e:dN (l++[c])=dN l++[.int .u8 z]:=by rw[HZ.out];simp[dN]
 rw[e];refine Lib.BuilderAt.put (T:=109) (e:=5) I0 nj.out (bs':=dN l++[.int .u8 z]) ?_ (by decide);rw[eY,qA];exact HOW.out
theorem zK (B b g cap:Nat) (p:aq) (cur:Array aq) (l:Bs) (w:ag) (h0:l ≠ []) (hB:B<=g) (hbk:w.heap[b]?=some (.cells #[p,.slice (some ⟨g,0,none⟩) l.length cap] 109 (0,0))) (hg:w.heap[g]?=some (.cells cur 5 (0,0)))
  (hnc:l.length<=cap) (NG:cap<=bI) (hcs:cur.size=cap) (hcell:∀ j (x:UInt8),l[j]?=some x->w.cell? ((⟨g,0,none⟩:cB).add j)=some (.int .u8 x.toNat)) :
  aW aj 68 #[.pointer (some ⟨b,0,none⟩)] w fun e w'=>e=.returned (.string ⟨l.toArray⟩)/\aA B w w':=by
 have Ck:l.length≠0:=by simpa using h0
 have c1:w.drew.cell? ⟨b,1,none⟩=some (.slice (some ⟨g,0,none⟩) l.length cap):=by
  have:w.drew.heap[b]?=some (.cells #[p,.slice (some ⟨g,0,none⟩) l.length cap] 109 (0,0)):=hbk;rw[Lib.cell_of_heap this];rfl
 have hSD:(Builtin.unsafeSliceData_ #[99] 159 #[.slice (some ⟨g,0,none⟩) l.length cap]).run aj w.drew=.ok (.pointer (some ⟨g,0,none⟩)) w.drew:=
  Lib.run_unsafeSliceData_row _ _ _ _ _ _ (by omega)
 have hUS:(Builtin.unsafeString_ #[159,3] 9 #[.pointer (some ⟨g,0,none⟩),.int .i64 l.length]).run aj w.drew=.ok (.string ⟨l.toArray⟩) (w.drew.freeze ⟨g,0,none⟩ l.length):=by
  refine Lib.run_unsafeString_row w.drew 159 3 9 5 Tryz.underlying159 cellsByte g cur.size (by have uZ:w.drew.heap[g]?=some (.cells cur 5 (0,0)):=hg;simp[World.shape?,uZ]) l h0 (by omega) (by unfold bI at NG;omega) ?_;intro j x hx;exact hcell j x hx
 clear hcell hcs hg hbk;go_enter Tryz.func68,Tryz.ntmps68;go_wp2;go_region;all_goals (go_wp2;go_ret;exact⟨rfl,Lib.below_freeze (Below.drew (ax B w)) (p:=⟨g,0,none⟩) hB _⟩)
theorem IA (B b:Nat) (l:Bs) (w:ag) (h:uE B b l w) (h0:l ≠ []) :
  aW aj 68 #[.pointer (some ⟨b,0,none⟩)] w fun e w'=>e=.returned (.string ⟨l.toArray⟩)/\aA B w w':=by
 obtain⟨p,v,hbk,hown,hne,I0,hp⟩:=h.at;have Ck:l.length≠0:=by simpa using h0
 have h1:=hown;rcases hown.2 with ⟨_,hz⟩ | ⟨g,cap,cur,rfl,hbg,hg,hnc,NG,hcs,htake⟩
 ·exact absurd hz Ck
 refine zK B b g cap p cur l w h0 hbg hbk hg hnc NG (by omega) fun j x hx=>?_
 exact h1.cells (g:=g) rfl j (.int .u8 x.toNat) (by simp[dN,hx])
theorem yM (o:Int) (b:Bool) (ao:Option cB) (l c:Nat) (nm:ByteArray) (ko:Option cB) (kl kc:Nat) (w:ag) :
  aW aj 22 #[.agg #[.int .i64 o,.bool b,.slice ao l c,.string nm,.slice ko kl kc]] w fun e w'=>e=.returned (.int .i64 (eI o))/\aA w.heap.size w w':=by
 have hb:=(ax w.heap.size w).alloc (ai _) (.cells #[.int .i64 o,.bool b,.slice ao l c,.string nm,.slice ko kl kc] 29);have HB:=aa hb;clear hb;by_cases h1:8<=o/\o<=20
 ·have:o=8\/o=9\/o=10\/o=11\/o=12\/o=13\/o=14\/o=15\/o=16\/o=17\/o=18\/o=19\/o=20:=by omega
  clear h1;rcases this with rfl | rfl | rfl | rfl | rfl | rfl | rfl | rfl | rfl | rfl | rfl | rfl | rfl;all_goals (go_enter Tryz.func22,Tryz.ntmps22;go_wp2_with fail;go_ret;exact⟨rfl,HB.out⟩)
 have hs:eI o=0:=by unfold eI;rw[if_neg (by omega),if_neg (by omega)]
 have n8:(o==8)=false:=beq_eq_false_iff_ne.2 (by omega);have n9:(o==9)=false:=beq_eq_false_iff_ne.2 (by omega);have n10:(o==10)=false:=beq_eq_false_iff_ne.2 (by omega);have n11:(o==11)=false:=beq_eq_false_iff_ne.2 (by omega);have n12:(o==12)=false:=beq_eq_false_iff_ne.2 (by omega);have n13:(o==13)=false:=beq_eq_false_iff_ne.2 (by omega);have Ru:(o==14)=false:=beq_eq_false_iff_ne.2 (by omega);have n15:(o==15)=false:=beq_eq_false_iff_ne.2 (by omega);have n16:(o==16)=false:=beq_eq_false_iff_ne.2 (by omega);have n17:(o==17)=false:=beq_eq_false_iff_ne.2 (by omega);have n18:(o==18)=false:=beq_eq_false_iff_ne.2 (by omega);have n19:(o==19)=false:=beq_eq_false_iff_ne.2 (by omega);have n20:(o==20)=false:=beq_eq_false_iff_ne.2 (by omega);clear h1;go_enter Tryz.func22,Tryz.ntmps22;go_wp2_with fail;go_ret
 exact⟨by rw[hs];rfl,HB.out⟩
theorem Lv (o:Int) (b:Bool) (ao:Option cB) (l c:Nat) (nm:ByteArray) (ko:Option cB) (kl kc:Nat) (s:Int) (w:ag) :
  aW aj 159 #[.agg #[.int .i64 o,.bool b,.slice ao l c,.string nm,.slice ko kl kc],.int .i64 s] w fun e w'=>e=.returned (.bool (eI o==s))/\aA w.heap.size w w':=by
 have hb:=(ax w.heap.size w).alloc (ai _) (.cells #[.int .i64 o,.bool b,.slice ao l c,.string nm,.slice ko kl kc] 29);have HB:=aa hb;clear hb;go_enter Tryz.func159,Tryz.ntmps159;go_wp2_with fail;refine (yM o b ao l c nm ko kl kc _).mono ?_;rintro e w2 ⟨rfl,hb⟩;have HW:=aa (HB.out.trans (hb.mono HB.out.size));clear hb;go_wp2_with fail;go_ret;exact⟨rfl,HW.out⟩
theorem IB (o:Int) (b:Bool) (ao:Option cB) (l c:Nat) (nm:ByteArray) (ko:Option cB) (kl kc:Nat) (s:Int) (kb:Nat) (w:ag) (hB:w.heap[kb]?=some (.cells #[.int .i64 s] 36 (0,0))) :
  aW aj 161 #[.agg #[.int .i64 o,.bool b,.slice ao l c,.string nm,.slice ko kl kc],.pointer (some ⟨kb,0,none⟩)] w fun e w'=>e=.returned (.bool (eI o != s))/\aA w.heap.size w w':=by
 have Ai:=aa hB;clear hB;have HW:=aa (ax w.heap.size w);go_enter Tryz.func161,Tryz.ntmps161;obtain⟨x1,kf,ef,jK,bL,jc,aE⟩:=aM w #[.int .i64 o,.bool b,.slice ao l c,.string nm,.slice ko kl kc] 29;replace Ai:=aS bL.out Ai;replace HW:=aa (HW.out.trans (bL.out.mono HW.out.size));obtain⟨⟨c0,c1,c2,c3,c4⟩,cA,cG,cF,cE,cC⟩:=ak aE.out;go_upto_region 1 with fail;clear c0 cA c1 cG c2 cF c3 cE c4 cC;have fB:=ae aE.out;have OI:=ae Ai.out;have ik:Hid (∀ q,q<0->(fun q=>0) q<x1.heap.size):=aa (fun q h=>absurd h (ay _));refine R7.region (by kernel_rfl) [[],[0],[],[0,1,2],[0,1,2,3]] [] [] (fun q=>0) 0 5 (by kernel_rfl) (by kernel_rfl) (by rfl) ik.out (fun q q' h h' hn=>absurd hn (by omega)) ?_
 refine R7.aB.da ?_ (by rfl) (fun T xs wr hA=>?_) ?_;rotate_left 1
 ·have e2:=hA.pre 2 (by kernel_rfl);simp only[g_,iC,iz] at e2;have bx:wr.heap[kf]?=_:=(hA.bl _ fB (fun q h=>absurd h (ay _))).trans aE.out;have q0:=af (v:=.int .i64 o) bx 0 rfl;have q1:=af (v:=.bool b) bx 1 rfl;have q2:=af (v:=.slice ao l c) bx 2 rfl;have q3:=af (v:=.string nm) bx 3 rfl;have q4:=af (v:=.slice ko kl kc) bx 4 rfl;clear bx;clear hA;refine⟨(by rfl),?_⟩;go_simp<;>(try with_reducible rfl)
 refine R7.aB.call (fun xs v w=>v=.int .i64 (eI o)) (fun _ _ _ _ h _=>h) (fun _ _ _ _ _ h _ _=>h) (by rfl) (fun T xs wr hA=>?_) ?_
 ·have th:=(hA.be 0 (au _) (fun _ _=>au _)).size;have e4:=hA.tm 0 4 (by rfl) (by rfl);have f4:xs 0=_:=hA.fa 0 (by rfl);(try simp (disch:=first | rfl | decide) only [R7.an] at f4);rw[f4] at e4;clear f4;have kD:=cm (hA.be x1.heap.size (ai _) (fun q h=>absurd h (ay q)));clear hA;refine⟨(by rfl),fun K hK=>?_⟩;go_simp;refine (yM o b ao l c nm ko kl kc wr).mono ?_;rintro e w' ⟨rfl,hb'⟩;exact hK.out _ _ rfl hb'
 refine R7.aB.da ?_ (by rfl) (fun T xs wr hA=>?_) ?_;rotate_left 1
 ·have e1:=hA.pre 1 (by kernel_rfl);simp only[g_,iC,iz] at e1;have bx:wr.heap[kb]?=_:=(hA.bl _ OI (fun q h=>absurd h (ay _))).trans Ai.out;have q0:=af (v:=.int .i64 s) bx 0 rfl;clear bx;clear hA;refine⟨(by rfl),?_⟩;go_simp<;>(try with_reducible rfl)
 refine R7.aB.da ?_ (by rfl) (fun T xs wr hA=>?_) ?_;rotate_left 1
 ·have e5:=hA.tm 1 5 (by rfl) (by rfl);have f5:xs 1=(.int .i64 (eI o)):=hA.fa 1 (by rfl);rw[f5] at e5;clear f5;have e6:=hA.tm 2 6 (by rfl) (by rfl);have f6:xs 2=_:=hA.fa 2 (by rfl);(try simp (disch:=first | rfl | decide) only [R7.an] at f6);rw[f6] at e6;clear f6;clear hA;refine⟨(by rfl),?_⟩;go_simp<;>(try with_reducible rfl)
 refine R7.aB.da ?_ (by rfl) (fun T xs wr hA=>?_) ?_;rotate_left 1
 ·have e7:=hA.tm 3 7 (by rfl) (by rfl);have f7:xs 3=_:=hA.fa 3 (by rfl);(try simp (disch:=first | rfl | decide) only [R7.an] at f7);rw[f7] at e7;clear f7;clear hA;refine⟨(by rfl),?_⟩;go_simp<;>(try with_reducible rfl)
 refine R7.aB.done (fun xs x2 hL=>?_);obtain⟨⟨iY,dw⟩,hf,-,-⟩:=hL;have f0:xs 0=_:=hf 0 (by decide);(try simp (disch:=first | rfl | decide) only [R7.an] at f0);have f1:xs 1=(.int .i64 (eI o)):=hf 1 (by decide);have f2:xs 2=_:=hf 2 (by decide);(try simp (disch:=first | rfl | decide) only [R7.an] at f2);have f3:xs 3=_:=hf 3 (by decide);(try simp (disch:=first | rfl | decide) only [R7.an] at f3);have f4:xs 4=_:=hf 4 (by decide);(try simp (disch:=first | rfl | decide) only [R7.an] at f4);have hb0:aA 0 x1 x2:=cm (iY 0 (au _) (fun _ _=>au _));have mP:∀ j,j<x1.heap.size->(∀ q,q<0->(fun q=>0) q≠j)->x2.heap[j]?=x1.heap[j]?:=dw;clear iY dw hf
 have hb:aA x1.heap.size x1 x2:=⟨hb0.os,hb0.tape,hb0.output,hb0.size,fun q hq=>mP q hq (fun q h=>absurd h (ay _))⟩;refine R7.jE ?_;simp only[R7.fill,GG,GF,GD,f0,f1,f2,f3,f4];clear hb0 mP ik fB OI f0 f1 f2 f3 f4;replace HW:=aa (HW.out.trans (hb.mono HW.out.size));replace hb:=aa hb;go_wp2_with fail;go_ret;exact⟨rfl,HW.out⟩
def BL (w:ag) (v:aq) (ss:List Int):Prop:=∃ ko kc,v=.slice ko ss.length kc/\(ss.length<=kc/\kc<=bI)/\∀ i (hi:i<ss.length),∃ a,ko=some a/\w.cell? (a.add i)=some (.int .i64 ss[i])
theorem BL.below {w w':ag} {v:aq} {ss:List Int} (h:BL w v ss) (hb:aA w.heap.size w w'):BL w' v ss:=by
 obtain⟨ko,kc,rfl,h1,h2⟩:=h;refine⟨ko,kc,rfl,h1,fun i hi=>?_⟩;obtain⟨a,ha,hc⟩:=h2 i hi;exact⟨a,ha,by rw[hb.cell (World.block_lt_of_cell? w _ hc)];exact hc⟩
theorem BL.cells {w:ag} {ko:Option cB} {n kc:Nat} {ss:List Int} (h:BL w (.slice ko n kc) ss) (i:Nat) (hi:i<ss.length):∃ a,ko=some a/\w.cell? (a.add i)=some (.int .i64 ss[i]):=by
 obtain⟨AX,A2,e,h1,h2⟩:=h;injection e with e1 e2 e3;subst e1;exact h2 i hi
theorem BL.block {w:ag} {g:Nat} {ss:List Int} {T:bn} (h:w.heap[g]?=some (.cells (ss.map (Value.int .i64)).toArray T (0,0))) (hl:ss.length<=bI):BL w (.slice (some ⟨g,0,none⟩) ss.length ss.length) ss:=
 ⟨_,_,rfl,⟨ai _,hl⟩,fun i hi=>⟨_,rfl,by rw[lD,fM,eK w g _ _ _ _ h];simp[hi]⟩⟩
theorem BL.nil (w:ag):BL w (.slice none 0 0) []:=⟨none,0,rfl,⟨ai _,au _⟩,fun i hi=>absurd hi (ay i)⟩
theorem uO (ts:List F):(eR ts).length=ts.length:=by unfold eR;rw[cT]
theorem CF (ts:List F) (i:Nat) (hi:i<ts.length) (hi':i<(eR ts).length):(eR ts)[i]=eI ts[i].op:=gp (fun f:F=>eI f.op)
theorem Ld (va vb:aq) (ts:List F) (M:List Int) (d:Nat) (S:Nat->Prop) (w:ag) (h1:FL w S d va ts) (h2:BL w vb M) :
  aW aj 158 #[va,vb,.func (.func 159) #[] #[]] w fun e w'=>e=.returned (.bool (decide (eR ts=M)))/\aA w.heap.size w w':=by
 obtain⟨ko,kc,rfl,⟨hq1,hq2,-⟩⟩:=h1.form;have OW:=h2;obtain⟨po,pc,rfl,⟨hr1,uB⟩,-⟩:=OW;have rL:kc<=9223372036854775807:=hq2;have hmy:pc<=9223372036854775807:=uB;have HX:=aa h1;have HY:=aa h2;clear h1 h2 hq2 uB;by_cases hl:ts.length=M.length
 ·have hne:(((ts.length:Nat):Int) != ((M.length:Nat):Int))=false:=by rw[hl];exact bne_self_eq_false _
  have HL:=aa hl;obtain⟨n,hn⟩:∃ n,n=ts.length:=⟨_,rfl⟩;rw[<-hn] at HL hne hq1 HX ⊢;obtain⟨n',hn'⟩:∃ n,n=M.length:=⟨_,rfl⟩;rw[<-hn'] at HL hne hr1 HY ⊢;have HN:=aa hn;have UQ:=aa hn';clear hl hn hn';go_enter Tryz.func158,Tryz.ntmps158;go_wp2_with fail;clear hne;go_loopw [17] (fun i wr=>∃ j:Nat,i=.int .i64 (j:Nat)/\j<=n/\Hid ((eR ts).take j=M.take j)/\Hid (aA w.heap.size w wr)) (fun i _=>n - (ei i).toNat)
  case atStart=>exact⟨0,rfl,au _,aa rfl,aa (ax _ _)⟩
  case round =>
   obtain⟨j,rfl,hj,HT,HW⟩:=hrel;by_cases hlt:j<n
   ·have hz:j<ts.length:=by rw[<-HN.out];exact hlt
    have pJ:j<M.length:=by rw[<-UQ.out,<-HL.out];exact hlt
    have Hz:j<n':=by rw[<-HL.out];exact hlt
    obtain⟨a,bb,ao,al,ac,qo,ql,qc,rfl,⟨c0,c1,c2,c3,c4⟩,-⟩:=(HX.out.below HW.out).cells j hz;obtain⟨b,rfl,d0⟩:=(HY.out.below HW.out).cells j pJ;obtain⟨x,vA⟩:∃ x,x=ts[j].op:=⟨_,rfl⟩;obtain⟨nm,hnm⟩:∃ x,x=ts[j].name:=⟨_,rfl⟩;obtain⟨y,Em⟩:∃ y,y=M[j]:=⟨_,rfl⟩;rw[<-vA] at c0;rw[<-hnm] at c3;rw[<-Em] at d0;have UB:=aa vA;have UA:=aa Em;clear vA Em hnm;obtain⟨x1,k8,e8,VP,Ae,Qf,Aj⟩:=aM wr #[.int .i64 x,.bool bb,.slice ao al ac,.string nm,.slice qo ql qc] 29;replace HW:=aa (HW.out.trans (Ae.out.mono HW.out.size));rw[<-Ae.out.cell (by have:=cu d0;exact this)] at d0;obtain⟨⟨g0,g1,g2,g3,g4⟩,ni,nh,oH,oG,oF⟩:=ak Aj.out;by_cases he:eI x=y
    ·have KX:(eI x==y)=true:=by simp[he]
     have HE:=aa he;clear he;go_wp2_with fail;refine (Lv x bb ao al ac nm qo ql qc y x1).mono ?_;rintro e w3 ⟨rfl,hb⟩;rw[KX];replace HW:=aa (HW.out.trans (hb.mono HW.out.size));clear hb KX;go_wp2_with fail;go_roundw
     case rel=>exact⟨j+1,by go_num,hlt,aa (yF HT.out (by rw[uO];exact hz) pJ (by rw[CF ts j hz,<-UB.out,<-UA.out];exact HE.out)),HW⟩
     case measure=>simp[ei];omega
    have KX:(eI x==y)=false:=by simp[he]
    have HE:=aa he;clear he;go_wp2_with fail;refine (Lv x bb ao al ac nm qo ql qc y x1).mono ?_;rintro e w3 ⟨rfl,hb⟩;rw[KX];replace HW:=aa (HW.out.trans (hb.mono HW.out.size));clear hb KX;go_wp2_with fail;go_ret;refine⟨?_,HW.out⟩;rw[decide_eq_false (fun e=>HE.out (by rw[UB.out,UA.out];subst e;rw[CF ts j hz]))];rfl
   go_wp2_with fail;go_ret;refine⟨?_,HW.out⟩;have e:=HT.out;rw[show j=n by omega,HN.out,<-uO,bK,uO,<-HN.out,HL.out,UQ.out,bK] at e;rw[decide_eq_true e];rfl
 have hne:(((ts.length:Nat):Int) != ((M.length:Nat):Int))=true:=by rw[bne_iff_ne];omega
 have HL:=aa hl;clear hl;go_enter Tryz.func158,Tryz.ntmps158;go_wp2_with fail;go_ret;refine⟨?_,ax _ _⟩;rw[decide_eq_false (fun e=>HL.out (by rw[<-e,uO]))];rfl
theorem kO (va vb:aq) (ts:List F) (M:List Int) (d:Nat) (S:Nat->Prop) (w:ag) (h1:FL w S d va ts) (h2:BL w vb M) :
  aW aj 112 #[va,vb] w fun e w'=>e=.returned (.bool (decide (eR ts=M)))/\aA w.heap.size w w':=by
 have HX:=aa h1;have HY:=aa h2;clear h1 h2;go_enter Tryz.func112,Tryz.ntmps112;go_wp2_with fail;refine (Ld _ _ ts M d S w HX.out HY.out).mono ?_;rintro e w3 ⟨rfl,hb⟩;have HB:=aa hb;clear hb;go_wp2_with fail;go_ret;exact⟨rfl,HB.out⟩
theorem Hq (va:aq) (ts:List F) (P:F->Bool) (d:Nat) (S:Nat->Prop) (w:ag) (kb:Nat) (h1:FL w S d va ts) (hc:∀ f ∈ ts,∀ (v:aq) (w':ag),aA w.heap.size w w'->FC w' S d v f->aW aj 161 #[v,.pointer (some ⟨kb,0,none⟩)] w' fun e w''=>e=.returned (.bool (P f))/\aA w'.heap.size w' w'') :
  aW aj 190 #[va,.func (.func 161) #[] #[.pointer (some ⟨kb,0,none⟩)]] w fun e w'=>∃ r:Int,e=.returned (.int .i64 r)/\decide (0<=r)=ts.any P/\aA w.heap.size w w':=by
 obtain⟨ko,kc,rfl,⟨hq1,hq2,-⟩⟩:=h1.form;have rL:kc<=9223372036854775807:=hq2;have HX:=aa h1;have HC:=aa hc;clear h1 hc hq2;obtain⟨n,hn⟩:∃ n,n=ts.length:=⟨_,rfl⟩;rw[<-hn] at hq1 HX ⊢;have HN:=aa hn;clear hn;go_enter Tryz.func190,Tryz.ntmps190;go_wp2_with fail;go_loopw [8] (fun i wr=>∃ j:Nat,i=.int .i64 (j:Nat)/\j<=n/\Hid ((ts.take j).any P=false)/\Hid (aA w.heap.size w wr)) (fun i _=>n - (ei i).toNat)
 case atStart=>exact⟨0,rfl,au _,aa rfl,aa (ax _ _)⟩
 case round =>
  obtain⟨j,rfl,hj,HT,HW⟩:=hrel;by_cases hlt:j<n
  ·have hz:j<ts.length:=by rw[<-HN.out];exact hlt
   obtain⟨a,bb,ao,al,ac,qo,ql,qc,rfl,⟨c0,c1,c2,c3,c4⟩,hf⟩:=(HX.out.below HW.out).cells j hz;have HF:=aa (HC.out ts[j] (ct hz) _ wr HW.out hf);clear hf;obtain⟨x,vA⟩:∃ x,x=ts[j].op:=⟨_,rfl⟩;obtain⟨nm,hnm⟩:∃ x,x=ts[j].name:=⟨_,rfl⟩;rw[<-vA] at c0 HF;rw[<-hnm] at c3 HF;clear vA hnm;have HT':Hid ((ts.take (j+1)).any P=P ts[j]):=aa (by rw[bH hz,List.any_append,HT.out];simp);have HA:Hid (P ts[j]=true->ts.any P=true):=aa (fun h=>List.any_eq_true.2 ⟨_,ct hz,h⟩);obtain⟨p,hp⟩:∃ p,p=P ts[j]:=⟨_,rfl⟩;rw[<-hp] at HF HT' HA;clear hp;go_wp2_with fail;refine HF.out.mono ?_;rintro e w3 ⟨rfl,hb⟩;replace HW:=aa (HW.out.trans (hb.mono HW.out.size));clear hb HF;cases p with
   | true =>
    go_wp2_with fail;go_ret;exact⟨j,rfl,by rw[HA.out (by trivial)];simp,HW.out⟩
   | false =>
    go_wp2_with fail;go_roundw
    case rel=>exact⟨j+1,by go_num,hlt,HT',HW⟩
    case measure=>simp[ei];omega
  go_wp2_with fail;go_ret;refine⟨-1,rfl,?_,HW.out⟩;have e:=HT.out;rw[show j=n by omega,HN.out,bK] at e;rw[e];rfl
theorem B6 (va:aq) (ts:List F) (P:F->Bool) (d:Nat) (S:Nat->Prop) (w:ag) (kb:Nat) (h1:FL w S d va ts) (hc:∀ f ∈ ts,∀ (v:aq) (w':ag),aA w.heap.size w w'->FC w' S d v f->aW aj 161 #[v,.pointer (some ⟨kb,0,none⟩)] w' fun e w''=>e=.returned (.bool (P f))/\aA w'.heap.size w' w'') :
  aW aj 160 #[va,.func (.func 161) #[] #[.pointer (some ⟨kb,0,none⟩)]] w fun e w'=>e=.returned (.bool (ts.any P))/\aA w.heap.size w w':=by
 have HI:=aa (Hq va ts P d S w kb h1 hc);clear h1 hc;go_enter Tryz.func160,Tryz.ntmps160;go_wp2_with fail;refine HI.out.mono ?_;rintro e w3 ⟨r,rfl,hr,hb⟩;have HB:=aa hb;have HR:=aa hr;clear hb hr HI;go_wp2_with fail;go_ret;exact⟨by rw[<-HR.out];rfl,HB.out⟩
theorem Dt (va:aq) (s:Int) (ts:List F) (d:Nat) (S:Nat->Prop) (w:ag) (h1:FL w S d va ts) :
  aW aj 113 #[va,.int .i64 s] w fun e w'=>e=.returned (.bool ((eR ts).all fun q=>decide (q=s)))/\aA w.heap.size w w':=by
 have HX:=aa h1;clear h1;have HW:=aa (ax w.heap.size w);go_enter Tryz.func113,Tryz.ntmps113;obtain⟨x1,kb,eb,ekb,Ig,hkb,Ai⟩:=aM w #[.int .i64 s] 36;replace HW:=aa (HW.out.trans (Ig.out.mono HW.out.size));replace HX:=aa (HX.out.below Ig.out);go_wp2_with fail;refine (B6 va ts (fun f=>eI f.op != s) d S x1 kb HX.out (fun f hf v w' hb hv=>?_)).mono ?_
 ·obtain⟨b,ao,l,c,ko,kl,kc,rfl,-,-,-⟩:=hv.open;exact IB _ _ _ _ _ _ _ _ _ s kb w' ((hb.block _ (ae Ai.out)).trans Ai.out)
 rintro e w3 ⟨rfl,hb⟩;replace HW:=aa (HW.out.trans (hb.mono HW.out.size));clear hb;go_wp2_with fail;go_ret;refine⟨?_,HW.out⟩;rw[show (eR ts).all (fun q=>decide (q=s)) = !ts.any (fun f=>eI f.op != s) by
  unfold eR;rw[List.all_map,List.not_any_eq_all_not];congr 1;funext f;by_cases h:eI f.op=s<;>simp[h]]
 rfl
end Go.Proofs.YtoncclhbdkjhmaaGreatDoor
