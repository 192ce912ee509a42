/-
 Joined texts: R7,VlA,VlB,VlC,VlD,VlE,VlF,VlG,VlH,LgM,LgA,LgBa,LgB,LgC,LgD.
-/
import Derived.OwnWalk
import Derived.Laws.OwnMore
import Derived.Deep.AppendLies
import Derived.Deep.DrawnRows
import Derived.BigQuiet
import Derived.Deep.DeepCutAuto
import Derived.Lib.UnsafeStr
import Derived.Lib.Builder
import Derived.Lib.AppendStr
import Derived.Test.YtoncclhbdkjhmaaGreatDoorJLogicPuts1
import Derived.Test.YtoncclhbdkjhmaaGreatDoorJLogicPuts2
set_option maxHeartbeats 32000000
open Array renaming getD_eq_getD_getElem?→aQ,getElem?_eq_getElem→bj,getElem?_setIfInBounds_ne→fX,replicate→mK,toList_setIfInBounds→oK
open Bool renaming and_eq_true→cR,or_eq_true→eO,or_true→mE
open Go renaming lt_of_block→ag,World→an,Value→ay,bodyPost_ret→aB,heap_setCell_same→aF,Calls→bf,TypeId→bu,Addr→cH,heap_alloc_new→dc,cell_of_row→dM,Oper→fg,maxLen→fO,info_parts→oI,frozen_of_row→rJ,Program→rL
open Go.Lib renaming hid→aa,byteCells→c_,byteCells_length→o_
open Go.Proofs.Tryz renaming prog→ax,ntmps37→jq,func37→jZ,underlying99→oh
open Go.Region renaming wanted→iJ,ready→qE
open Go.RowKit renaming Below→aC,intOf→fH
open Go.RowKit.Below renaming refl→av
open Go.World renaming block_lt_of_cell?→bW,cell?_of_block→sD
open Go.World.grownBy renaming refl→aJ
open Go.World.ownsRow renaming stored→gF,kept→iT,cellAt→lC
open List renaming replicate→bA,take_length→bD,take_succ_eq_append_getElem→bH,not_mem_nil→cl,getElem_mem→cI,all_eq_true→cQ,mem_cons→dw,mem_singleton→dG,map_append→dN,getElem?_eq_getElem→d_,flatMap_cons→eT,getElem?_eq_none→gm,range→gQ,getElem?_append_right→iz,length_replicate→iB,getElem?_append_left→iK,length_map→iM,cons_append→jV,mem_range→kO,reverse_cons→mD,getElem_map→nX,getElem_append_left→rQ,mem_or_eq_of_mem_set→AQ,map_cons→A3
open Nat renaming not_lt_zero→ah,le_refl→ak,le_trans→aq,zero_le→au,mul_le_mul_right→aU,add_mul→cL,mod_lt→di,zero_add→eG,mul_le_mul→lj
open Option renaming getD_some→mC
namespace Go.Proofs.YtoncclhbdkjhmaaGreatDoor
open Go.RowKit
set_option maxRecDepth 100000
namespace R7
structure qy (g:Nat) (w w':an):Prop where
 os:w'.os=w.os
 tape:w'.tape=w.tape
 output:w'.output=w.output
 size:w.heap.size<=w'.heap.size
 block:∀ k,k<w.heap.size->k≠g->w'.heap[k]?=w.heap[k]?
abbrev Fact:=(Nat->ay)->ay->an->Prop
def mask (L:List Nat) (x:Nat->ay):Nat->ay:=fun j=>if L.contains j then x j else undef
theorem ai {L:List Nat} {x:Nat->ay} {j:Nat} (h:L.contains j=true):mask L x j=x j:=by
 unfold mask;rw[if_pos h]
def r8 (x:Nat->ay) (k:Nat) (v:ay):Nat->ay:=fun j=>if j=k then v else x j
theorem jy (x:Nat->ay) (k:Nat) (v:ay):r8 x k v k=v:=if_pos rfl
theorem jz (x:Nat->ay) {k j:Nat} (v:ay) (h:j≠k):r8 x k v j=x j:=if_neg h
theorem qM {L:List Nat} {x:Nat->ay} {k:Nat} (v:ay) (h:L.contains k=false):mask L (r8 x k v)=mask L x:=by
 funext j
 unfold mask
 by_cases hj:L.contains j=true
 ·rw[if_pos hj,if_pos hj,jz];intro e;subst e;rw[h] at hj;cases hj
 rw[if_neg hj,if_neg hj]

def cS (ops:List fg) (j:Nat):Option Tmp:=(ops[j]?).bind (·.dst)
def dep (D:List (List Nat)) (k:Nat):List Nat:=D.getD k []
def ok (ops:List fg) (D:List (List Nat)) (m size:Nat):Bool:=
 decide (m<=ops.length) && (gQ ops.length).all fun k =>
  match ops[k]? with
  | none=>false
  | some o =>
   (o.after.all fun e=>!Region.binds .any e || decide (e.on<k)) &&
   ((dep D k).all fun j=>(o.after.any fun e=>Region.binds .any e && (e.on==j || (dep D e.on).contains j)) && ((dep D j).all fun i=>(dep D k).contains i) && decide (j<k)) &&
   (decide (k<m) || (gQ m).all fun j=>(dep D k).contains j) &&
   (match o.dst with | none=>true | some d=>decide (d<size) && (gQ k).all fun j=>cS ops j != some d)
def vp (ops:List fg) (D:List (List Nat)) (al:List Nat) (st:List (Nat × Nat)) (nq:Nat):Bool:=
 (gQ ops.length).all fun k=>match st.lookup k with
  | none=>true
  | some i=>(if i<1000 then (dep D k).contains i && al.contains i else decide (i - 1000<nq)) && (gQ ops.length).all fun j=>j==k || st.lookup j != some i
def pre (ops:List fg) (D:List (List Nat)) (k t:Nat):Bool:=
 (gQ ops.length).all fun j=>cS ops j != some t || j==k || (dep D j).contains k
def fill:List fg->(Nat->ay)->Nat->Array ay->Array ay
 | [],_,_,t=>t
 | o::l,x,k,t=>fill l x (k+1) (match o.dst with | some d=>t.setIfInBounds d (x k) | none=>t)
theorem fill_eq:∀ (l:List fg) (x:Nat->ay) (k:Nat) (t T:Array ay),T.size=t.size ->
  (∀ j d,cS l j=some d->T[d]?=some (x (k+j)))->(∀ s,(∀ j,cS l j≠some s)->T[s]?=t[s]?)->fill l x k t=T
 | [],x,k,t,T,hs,_,hp=>by
  refine Array.ext_getElem? (fun i=>?_);rw[hp i (fun j=>by simp[cS])]
  rfl
 | o::l,x,k,t,T,hs,hd,hp=>by
  have hd':∀ j d,cS l j=some d->T[d]?=some (x (k+1+j)):=fun j d h=>by
   rw[hd (j+1) d (by simpa [cS] using h),Nat.add_right_comm,Nat.add_assoc]
  unfold fill
  cases ho:o.dst with
  | none =>
   refine fill_eq l x (k+1) t T hs hd' (fun s h=>hp s (fun j=>?_))
   cases j with
   | zero=>simp[cS,ho]
   | succ j=>simpa [cS] using h j
  | some d =>
   have h0:T[d]?=some (x k):=hd 0 d (by simp[cS,ho]);have hlt:d<t.size:=by rw[<-hs];exact (Array.getElem?_eq_some_iff.1 h0).1
   refine fill_eq l x (k+1) _ T (by simpa using hs) hd' (fun s h=>?_)
   by_cases e:d=s
   ·subst e;rw[h0]
    simp[hlt]
   rw[fX e];refine hp s (fun j=>?_)
   cases j with
   | zero=>simp[cS,ho,e]
   | succ j=>simpa [cS] using h j
def IX:Exit->Act->an->Prop:=fun _ _ _=>False
def fact (F:List Fact) (j:Nat):Fact:=(F.reverse[j]?).getD fun _ _ _=>True
section
variable (P:rL) (ops:List fg) (D:List (List Nat)) (al:List Nat) (st:List (Nat × Nat)) (og:Nat->Nat) (nq:Nat) (t0:Array ay) (ds:List Deferred) (w0:an)
def own (k:Nat):Option Nat:=st.lookup k
def tv (x:Nat->ay) (i:Nat):ay:=if i<1000 then x i else .pointer (some ⟨og (i - 1000),0,none⟩)
structure At (F:Nat->Fact) (k:Nat) (T:Array ay) (x:Nat->ay) (w:an):Prop where
 be:∀ B,B<=w0.heap.size->(∀ q,q<nq->B<=og q)->aC B w0 w
 bl:∀ b,b<w0.heap.size->(∀ q,q<nq->og q≠b)->w.heap[b]?=w0.heap[b]?
 od:∀ q,q<nq->(∀ k',own st k'=some (1000+q)->k'=k\/(dep D k').contains k=true)->w.heap[og q]?=w0.heap[og q]?
 tm:∀ j d,(dep D k).contains j=true->cS ops j=some d->T[d]?=some (x j)
 fa:∀ j,(dep D k).contains j=true->F j (mask (dep D j) x) (x j) w
 pre:∀ t,R7.pre ops D k t=true->T[t]?=t0[t]?
structure Next (V:Fact) (k:Nat) (x:Nat->ay) (w:an) (v:ay) (w':an):Prop where
 is:V x v w'
 bw:own st k=none->aC w.heap.size w w'
 pv:∀ i,own st k=some i->∃ g,tv og x i=.pointer (some ⟨g,0,none⟩)/\qy g w w'
 al:al.contains k=true->∃ g,v=.pointer (some ⟨g,0,none⟩)/\w.heap.size<=g/\g<w'.heap.size
def zu (F:Nat->Fact) (k:Nat) (o:fg) (V:Fact):Prop:=
 ∀ (T:Array ay) (x:Nat->ay) (w:an),At ops D st og nq t0 w0 F k T x w ->
  ∀ K:Act->an->Prop,Hid (∀ v w',Next al st og V k x w v w'->K ((⟨T,ds⟩:Act).put o.dst v) w') ->
   if iJ o (yielded ops.toArray T)=true then o.wp P ⟨T,ds⟩ w K IX else K ((⟨T,ds⟩:Act).put o.dst undef) w
def q7 (k:Nat) (V:Fact):Prop:=(∀ x v w w',V x v w->aC w.heap.size w w'->V x v w')/\(st ≠ []->∀ x v w w' g,V x v w->(∀ i,own st k=some i->tv og x i ≠ .pointer (some ⟨g,0,none⟩))->(∃ q,q<nq/\g=og q)->qy g w w'->V x v w')
def Left (F:Nat->Fact) (m:Nat) (x:Nat->ay) (w:an):Prop:=
 ((∀ B,B<=w0.heap.size->(∀ q,q<nq->B<=og q)->aC B w0 w)/\(∀ b,b<w0.heap.size->(∀ q,q<nq->og q≠b)->w.heap[b]?=w0.heap[b]?) )/\(∀ j,j<m->F j (mask (dep D j) x) (x j) w) /\
 (∀ i,al.contains i=true->i<m->∃ g,x i=.pointer (some ⟨g,0,none⟩)/\w0.heap.size<=g/\g<w.heap.size) /\
 (∀ i j,al.contains i=true->al.contains j=true->i<m->j<m->i≠j->x i≠x j)
def az (m:Nat) (G:(Nat->ay)->an->Prop):List fg->Nat->List Fact->Prop
 | [],k,F=>k=m/\∀ x w,Left D al og nq w0 (fact F) m x w->G x w
 | o::rest,k,F=>(k=m/\∀ x w,Left D al og nq w0 (fact F) m x w->G x w) \/
  ∃ V,q7 st og nq k V/\zu P ops D al st og nq t0 ds w0 (fact F) k o V/\az m G rest (k+1) (V::F)
variable {P ops D al st og nq t0 ds w0}
theorem az.done {m:Nat} {G:(Nat->ay)->an->Prop} {l:List fg} {F:List Fact} (h:∀ x w,Left D al og nq w0 (fact F) m x w->G x w):az P ops D al st og nq t0 ds w0 m G l m F:=by
 cases l with
 | nil=>exact⟨rfl,h⟩
 | cons o l=>exact Or.inl ⟨rfl,h⟩
theorem az.step {m k:Nat} {G:(Nat->ay)->an->Prop} {o:fg} {l:List fg} {F:List Fact} (V:Fact) (hs:q7 st og nq k V) (hr:zu P ops D al st og nq t0 ds w0 (fact F) k o V)
  (h:az P ops D al st og nq t0 ds w0 m G l (k+1) (V::F)):az P ops D al st og nq t0 ds w0 m G (o::l) k F:=Or.inr ⟨V,hs,hr,h⟩
def plain (al:List Nat) (st:List (Nat × Nat)) (k:Nat):Bool:=!al.contains k && (own st k).isNone
theorem Next.plain {V:Fact} {k:Nat} {x:Nat->ay} {w:an} {v:ay} {w':an} (hp:plain al st k=true) (h:V x v w') (hb:aC w.heap.size w w'):Next al st og V k x w v w':=by
 unfold R7.plain at hp;simp only[cR,Bool.not_eq_true',Option.isNone_iff_eq_none] at hp;exact⟨h,fun _=>hb,fun i hi=>(by rw[hp.2] at hi;cases hi),fun e=>(by rw[hp.1] at e;cases e)⟩
theorem az.bT {m k:Nat} {G:(Nat->ay)->an->Prop} {o:fg} {l:List fg} {F:List Fact} (f:(Nat->ay)->ay) (hp:plain al st k=true)
  (hr:∀ (T:Array ay) (x:Nat->ay) (w:an),At ops D st og nq t0 w0 (fact F) k T x w->iJ o (yielded ops.toArray T)=true/\(execOp (Act.eval ⟨T,ds⟩) o).run P w=.ok (.value (f x)) w)
  (h:az P ops D al st og nq t0 ds w0 m G l (k+1) ((fun x v _=>v=f x)::F)):az P ops D al st og nq t0 ds w0 m G (o::l) k F:=by
 refine az.step (fun x v _=>v=f x) ⟨fun _ _ _ _ e _=>e,fun _ _ _ _ _ _ e _ _ _=>e⟩ (fun T x w hA K hK=>?_) h;obtain⟨hw,he⟩:=hr T x w hA;rw[if_pos hw];unfold Oper.wp;rw[he];exact hK.out _ _ (Next.plain hp rfl (av _ _))
theorem az.call {m k:Nat} {G:(Nat->ay)->an->Prop} {o:fg} {l:List fg} {F:List Fact} (V:Fact) (hs:∀ x v w w',V x v w->aC w.heap.size w w'->V x v w') (Cr:∀ x v w w' g,V x v w->(∃ q,q<nq/\g=og q)->qy g w w'->V x v w') (hp:plain al st k=true)
  (hr:∀ (T:Array ay) (x:Nat->ay) (w:an),At ops D st og nq t0 w0 (fact F) k T x w->iJ o (yielded ops.toArray T)=true /\
   ∀ K:Act->an->Prop,Hid (∀ v w',V x v w'->aC w.heap.size w w'->K ((⟨T,ds⟩:Act).put o.dst v) w')->o.wp P ⟨T,ds⟩ w K IX)
  (h:az P ops D al st og nq t0 ds w0 m G l (k+1) (V::F)):az P ops D al st og nq t0 ds w0 m G (o::l) k F:=by
 refine az.step V ⟨hs,fun _ x v w w' g h _ hq hp=>Cr x v w w' g h hq hp⟩ (fun T x w hA K hK=>?_) h;obtain⟨hw,he⟩:=hr T x w hA;rw[if_pos hw];exact he K fun v w' hv hb=>hK.out v w' (Next.plain hp hv hb)
theorem jJ {st:List (Nat × Nat)} {i k:Nat} (h:(st.all fun p=>p.2 != i || p.1==k)=true):∀ k',own st k'=some i->k'=k:=by
 intro k' hk;unfold own at hk;rw[cQ] at h
 have:∀ (l:List (Nat × Nat)),(∀ p ∈ l,(p.2 != i || p.1==k)=true)->l.lookup k'=some i->k'=k:=by
  intro l
  induction l with
  | nil=>intro _ h;cases h
  | cons p l ih =>
   intro hp hl;obtain⟨a,b⟩:=p;rw[List.lookup_cons] at hl
   split at hl
   ·rename_i he
    injection hl with hl;have h1:=hp (a,b) (List.mem_cons_self ..);simp only[eO,bne_iff_ne,ne_eq,beq_iff_eq] at h1;rw[beq_iff_eq] at he;rcases h1 with h1 | h1
    ·exact absurd hl h1
    exact he.trans h1
   exact ih (fun p hp'=>hp p (List.mem_cons_of_mem _ hp')) hl
 exact this st h hk
theorem tC {V:Fact} {F:List Fact} {j:Nat} (h:j<F.length):fact (V::F) j=fact F j:=by
 unfold fact;rw[mD,iK (by simpa using h)]
theorem wM {V:Fact} {F:List Fact}:fact (V::F) F.length=V:=by
 unfold fact;rw[mD,iz (by simp)]
 simp
theorem At.congr {F F':Nat->Fact} {k:Nat} {T:Array ay} {x:Nat->ay} {w:an} (h:At ops D st og nq t0 w0 F k T x w) (e:∀ j,(dep D k).contains j=true->F j=F' j):At ops D st og nq t0 w0 F' k T x w:=
 ⟨h.be,h.bl,h.od,h.tm,fun j hj=>by rw[<-e j hj];exact h.fa j hj,h.pre⟩
theorem az.all {m:Nat} {G:(Nat->ay)->an->Prop} (hlt:∀ k j,k<m->(dep D k).contains j=true->j<k):∀ (l:List fg) (k:Nat) (F:List Fact),F.length=k->k<=m->(∀ j,l[j]?=ops[k+j]?) ->
  az P ops D al st og nq t0 ds w0 m G l k F->∃ H:Nat->Fact,(∀ j,j<k->H j=fact F j) /\
   (∀ j,k<=j->j<m->q7 st og nq j (H j)/\∃ o,ops[j]?=some o/\zu P ops D al st og nq t0 ds w0 H j o (H j))/\∀ x w,Left D al og nq w0 H m x w->G x w:=by
 intro l
 induction l with
 | nil=>intro k F hF hk hl h;exact⟨fact F,fun _ _=>rfl,fun j h1 h2=>by have:=h.1;omega,h.2⟩
 | cons o l ih =>
  intro k F hF hk hl h;rcases h with ⟨rfl,h⟩ | ⟨V,hs,hr,h⟩
  ·exact⟨fact F,fun _ _=>rfl,fun j h1 h2=>by omega,h⟩
  by_cases hkm:k<m
  ·obtain⟨H,h1,h2,h3⟩:=ih (k+1) (V::F) (by simp[hF]) hkm (fun j=>by have:=hl (j+1);simp at this;rw[this,Nat.add_right_comm,Nat.add_assoc]) h;refine⟨H,fun j hj=>by rw[h1 j (by omega),tC (by omega)],fun j hj yZ=>?_,h3⟩;rcases Nat.lt_or_ge k j with Kg | Kg
   ·exact h2 j Kg yZ
   obtain rfl:j=k:=by omega
   have hH:H j=V:=by rw[h1 j (by omega),<-hF,wM]
   refine⟨by rw[hH];exact hs,o,by have:=hl 0;simpa using this.symm,?_⟩;rw[hH];intro T x w hA;exact hr T x w (hA.congr (fun i hi=>by have:=hlt j i hkm hi;rw[h1 i (by omega),tC (by omega)]))
  obtain rfl:k=m:=by omega
  have By:∀ (l:List fg) (k':Nat) (F:List Fact),k<k'->¬ az P ops D al st og nq t0 ds w0 k G l k' F:=by
   intro l
   induction l with
   | nil=>intro k' F hk' h;have:=h.1;omega
   | cons o l ih=>intro k' F hk' h;rcases h with ⟨e,_⟩ | ⟨_,_,_,h⟩;(omega);exact ih _ _ (by omega) h
  exact absurd h (By _ _ _ (by omega))
theorem Oper.A5 {o:fg} {a:Act} {w:an} {K:Act->an->Prop} {Q:Exit->Act->an->Prop} (h:o.wp P a w K IX):o.wp P a w K Q:=by
 unfold Oper.wp at *;generalize (execOp a.eval o).run P w=r at *
 cases r with
 | ok n w' =>
  cases n<;>simp only[Oper.upon] at h ⊢ <;>
   first
    | exact h
    | exact Calls.mono h (fun e w'' he=>by
      cases e with
      | returned v=>exact he
      | panicked c=>exact False.elim he
      | outgrown=>obtain⟨_,_,hh⟩:=he;exact False.elim hh)
 | halt x w'=>cases x<;>simp only[Oper.upon] at h ⊢<;>exact False.elim h
structure Inv (H:Nat->Fact) (m:Nat) (listed:Array Bool) (a:Act) (w:an) (x:Nat->ay):Prop where
 tm:∀ j d,listed.getD j false=true->cS ops j=some d->a.tmps[d]?=some (x j)
 pre:∀ t,(∀ j,listed.getD j false=true->cS ops j≠some t)->a.tmps[t]?=t0[t]?
 sz:a.tmps.size=t0.size
 df:a.defers=ds
 be:∀ B,B<=w0.heap.size->(∀ q,q<nq->B<=og q)->aC B w0 w
 bl:∀ b,b<w0.heap.size->(∀ q,q<nq->og q≠b)->w.heap[b]?=w0.heap[b]?
 od:∀ q,q<nq->(∀ k',listed.getD k' false=true->own st k'≠some (1000+q))->w.heap[og q]?=w0.heap[og q]?
 sw:w0.heap.size<=w.heap.size
 ls:listed.size=ops.length
 dn:∀ j,listed.getD j false=true->∀ i,(dep D j).contains i=true->listed.getD i false=true
 lt:∀ j,listed.getD j false=true->j<m
 fa:∀ j,listed.getD j false=true->H j (mask (dep D j) x) (x j) w
 pt:∀ i,al.contains i=true->listed.getD i false=true->∃ g,x i=.pointer (some ⟨g,0,none⟩)/\w0.heap.size<=g/\g<w.heap.size
 ne:∀ i j,al.contains i=true->al.contains j=true->listed.getD i false=true->listed.getD j false=true->i≠j->x i≠x j
section
variable {m size:Nat} (hok:ok ops D m size=true)
include hok
theorem qK:m<=ops.length:=by
 unfold ok at hok;simp only[cR,decide_eq_true_eq] at hok;exact hok.1
theorem mO {k:Nat} {o:fg} (ho:ops[k]?=some o) :
  (∀ e ∈ o.after,Region.binds .any e=true->e.on<k) /\
  (∀ j,(dep D k).contains j=true->(∃ e ∈ o.after,Region.binds .any e=true/\(e.on=j\/(dep D e.on).contains j=true))/\(∀ i,(dep D j).contains i=true->(dep D k).contains i=true)/\j<k) /\
  (k<m\/∀ j,j<m->(dep D k).contains j=true) /\
  (∀ d,o.dst=some d->d<size/\∀ j,j<k->cS ops j≠some d):=by
 unfold ok at hok;simp only[cR,decide_eq_true_eq,cQ,kO] at hok;have h:=hok.2 k (List.getElem?_eq_some_iff.1 ho).1;rw[ho] at h;simp only[cR,eO,Bool.not_eq_true',decide_eq_true_eq,cQ,kO,Array.all_eq_true_iff_forall_mem] at h;obtain⟨⟨⟨h1,h2⟩,h3⟩,h4⟩:=h;refine⟨fun e he hb=>(h1 e he).resolve_left (by rw[hb];exact Bool.noConfusion),fun j hj=>?_,h3,fun d hd=>?_⟩
 ·obtain⟨⟨h5,h6⟩,h7⟩:=h2 j (by simpa using hj);obtain⟨e,he,hb⟩:=Array.any_eq_true'.1 h5;simp only[cR,eO,beq_iff_eq] at hb;exact⟨⟨e,he,hb.1,hb.2⟩,fun i hi=>h6 i (by simpa using hi),h7⟩
 rw[hd] at h4;simp only[cR,decide_eq_true_eq,cQ,kO,bne_iff_ne,ne_eq] at h4;exact h4
theorem Et {k j:Nat} (h:(dep D k).contains j=true) (hk:k<ops.length):j<k:=((mO hok (d_ hk)).2.1 j h).2.2
end
theorem s9 (h:vp ops D al st nq=true) {k:Nat} (hk:k<ops.length):∀ i,own st k=some i->(i<1000->(dep D k).contains i=true/\al.contains i=true)/\(¬ i<1000->i - 1000<nq)/\∀ j,j<ops.length->j≠k->own st j≠some i:=by
 intro i hi;unfold vp at h;rw[cQ] at h;have h1:=h k (List.mem_range.2 hk);unfold own at hi;rw[hi] at h1;simp only[cR,cQ,kO,eO,beq_iff_eq,bne_iff_ne,ne_eq] at h1;refine⟨fun h2=>?_,fun h2=>?_,fun j hj AV=>(h1.2 j hj).resolve_left AV⟩
 ·have h3:=h1.1;rw[if_pos h2] at h3
  simpa using h3
 have h3:=h1.1;rw[if_neg h2] at h3
 simpa using h3
theorem sX {L:List Nat} {x:Nat->ay} {i:Nat} (h:i<1000->L.contains i=true):tv og (mask L x) i=tv og x i:=by
 unfold tv
 split
 ·rename_i hi;exact ai (h hi)
 rfl
theorem dJ {l:Array Bool} {i j:Nat} (h:i<l.size):(l.setIfInBounds i true).getD j false=(decide (j=i) || l.getD j false):=by
 by_cases e:i=j
 ·subst e;simp[h]
 rw[getD_set_ne false e]
 simp[show ¬ j=i from fun x=>e x.symm]
theorem oa {l:List Bool} {i:Nat} (h:l[i]?=some false):(l.set i true).count false+1=l.count false:=by
 obtain⟨hi,hv⟩:=List.getElem?_eq_some_iff.1 h;rw[List.count_set hi,hv];have:0<l.count false:=List.count_pos_iff.2 (hv ▸ cI hi)
 simp
 omega
section
variable {m:Nat} {Q:Exit->Act->an->Prop} {H:Nat->Fact}
theorem Inv.step (hok:ok ops D m t0.size=true) (si:vp ops D al st nq=true) (Aq:∀ k i,own st k=some i->¬ i<1000) (fK:∀ q,q<nq->og q<w0.heap.size) (xF:∀ q q',q<nq->q'<nq->q≠q'->og q≠og q') (hst:∀ j,j<m->q7 st og nq j (H j)) {listed:Array Bool} {a:Act} {w:an} {x:Nat->ay} (I:Inv (ops:=ops) (D:=D) (al:=al) (st:=st) (og:=og) (nq:=nq) (t0:=t0) (ds:=ds) (w0:=w0) H m listed a w x)
  {k:Nat} {o:fg} (ho:ops[k]?=some o) (hkm:k<m) (hun:listed.getD k false=false) (iR:∀ j,(dep D k).contains j=true->listed.getD j false=true) {v:ay} {w':an}
  (hN:Next al st og (H k) k (mask (dep D k) x) w v w'):Inv (ops:=ops) (D:=D) (al:=al) (st:=st) (og:=og) (nq:=nq) (t0:=t0) (ds:=ds) (w0:=w0) H m (listed.setIfInBounds k true) (a.put o.dst v) w' (r8 x k v):=by
 have eR:k<ops.length:=(List.getElem?_eq_some_iff.1 ho).1;have hks:k<listed.size:=by rw[I.ls];exact eR
 obtain⟨c1,c2,c3,c4⟩:=mO hok ho;have Fj:cS ops k=o.dst:=by simp[cS,ho]
 have hsp:=s9 si eR
 -- where operation k stores
 have DI:∀ i,own st k=some i->∃ g,tv og x i=.pointer (some ⟨g,0,none⟩)/\qy g w w'/\((i<1000/\w0.heap.size<=g)\/(¬ i<1000/\i - 1000<nq/\g=og (i - 1000))):=by
  intro i jX;obtain⟨g,hg,hp⟩:=hN.pv i jX;obtain⟨h1,h2,h3⟩:=hsp i jX;rw[sX (fun h=>(h1 h).1)] at hg;refine⟨g,hg,hp,?_⟩
  by_cases hi:i<1000
  ·obtain⟨g',e,h4,h5⟩:=I.pt i (h1 hi).2 (iR i (h1 hi).1);unfold tv at hg;rw[if_pos hi] at hg;rw[hg] at e;injection e with e;injection e with e;injection e with e;subst e;exact Or.inl ⟨hi,h4⟩
  unfold tv at hg;rw[if_neg hi] at hg;injection hg with e;injection e with e;injection e with e;exact Or.inr ⟨hi,h2 hi,e.symm⟩
 have ki:w.heap.size<=w'.heap.size:=by
  cases jX:own st k with
  | none=>exact (hN.bw jX).size
  | some i=>obtain⟨g,hg,hp,_⟩:=DI i jX;exact hp.size
 have ei:∀ B,B<=w0.heap.size->(∀ q,q<nq->B<=og q)->aC B w0 w':=fun B hB hq=>by
  refine (I.be B hB hq).trans ?_
  cases jX:own st k with
  | none=>exact (hN.bw jX).mono (by have:=I.sw;omega)
  | some i =>
   obtain⟨g,hg,hp,hc⟩:=DI i jX;refine⟨hp.os,hp.tape,hp.output,ki,fun q L8=>hp.block q (by have:=I.sw;omega) ?_⟩;rcases hc with ⟨_,hc⟩ | ⟨_,h1,hc⟩
   ·omega
   have:=hq _ h1;omega
 have cG:∀ b,b<w0.heap.size->(∀ q,q<nq->og q≠b)->w'.heap[b]?=w0.heap[b]?:=fun b hb hq=>by
  rw[<-I.bl b hb hq]
  cases jX:own st k with
  | none=>exact (hN.bw jX).block b (by have:=I.sw;omega)
  | some i =>
   obtain⟨g,hg,hp,hc⟩:=DI i jX;refine hp.block b (by have:=I.sw;omega) ?_;rcases hc with ⟨_,hc⟩ | ⟨_,h1,hc⟩
   ·omega
   rw[hc];exact fun e=>hq _ h1 e.symm
 have hne:∀ j,listed.getD j false=true->j≠k:=fun j hj e=>by subst e;rw[hun] at hj;cases hj
 have qO:∀ j,(listed.setIfInBounds k true).getD j false=true->j=k\/listed.getD j false=true:=fun j hj=>by
  rw[dJ hks] at hj;simpa using hj
 have hput:(a.put o.dst v).tmps=match o.dst with | some d=>a.tmps.setIfInBounds d v | none=>a.tmps:=by cases o.dst<;>rfl
 have E4:(dep D k).contains k=false:=by
  cases h:(dep D k).contains k with
  | false=>rfl
  | true=>have:=(c2 k h).2.2;omega
 -- two operations write two slots
 have hds:∀ j d,cS ops j=some d->o.dst=some d->j=k:=fun j d h1 h2=>by
  rcases Nat.lt_trichotomy j k with h | h | h
  ·exact absurd h1 ((c4 d h2).2 j h)
  ·exact h
  cases hoj:ops[j]? with
  | none=>simp[cS,hoj] at h1
  | some oj=>exact absurd (Fj.trans h2) (((mO hok hoj).2.2.2 d (by simpa [cS,hoj] using h1)).2 k h)
 refine⟨fun j d hj hd=>?_,fun t ht=>?_,?_,?_,ei,cG,fun q hq hl=>?_,aq I.sw ki,by simpa using I.ls,fun j hj i hi=>?_,fun j hj=>?_,fun j hj=>?_,fun i hi hl=>?_,fun i j hi hj H_ O1 hij=>?_⟩
 ·rw[hput];rcases qO j hj with rfl | hj'
  ·rw[Fj] at hd;rw[hd,jy];have:=(c4 d hd).1;rw[<-I.sz] at this
   simp[this]
  rw[jz _ _ (hne j hj')]
  cases xF:o.dst with
  | none=>exact I.tm j d hj' hd
  | some e =>
   by_cases hde:e=d
   ·subst hde;exact absurd (hds j e hd xF) (hne j hj')
   simp only[];rw[fX hde];exact I.tm j d hj' hd
 ·rw[hput];have h1:a.tmps[t]?=t0[t]?:=I.pre t fun j hj=>ht j (by rw[dJ hks];simp only[hj,mE])
  cases xF:o.dst with
  | none=>exact h1
  | some e =>
   have:=ht k (by rw[dJ hks];simp);rw[Fj,xF] at this;simp only[];rw[fX (fun h=>this (by rw[h]))];exact h1
 ·rw[hput,<-I.sz];cases o.dst<;>simp
 ·rw[<-I.df];cases o.dst<;>rfl
 ·rw[<-I.od q hq fun k' hk'=>hl k' (by rw[dJ hks];simp only[hk',mE])];have hlt:=fK q hq
  cases jX:own st k with
  | none=>exact (hN.bw jX).block _ (by have:=I.sw;omega)
  | some i =>
   obtain⟨g,hg,hp,hc⟩:=DI i jX;refine hp.block _ (by have:=I.sw;omega) ?_;rcases hc with ⟨_,hc⟩ | ⟨hi,h1,hc⟩
   ·omega
   rw[hc];refine xF q _ hq h1 (fun e=>hl k (by rw[dJ hks];simp) ?_);rw[jX,e];congr 1;omega
 ·rw[dJ hks];rcases qO j hj with rfl | hj'
  ·simp only[iR i hi,mE]
  simp only[I.dn j hj' i hi,mE]
 ·rcases qO j hj with rfl | hj'
  ·exact hkm
  exact I.lt j hj'
 ·rcases qO j hj with rfl | hj'
  ·rw[qM _ E4,jy];exact hN.is
  rw[jz _ _ (hne j hj'),qM]
  ·cases jX:own st k with
   | none=>exact (hst j (I.lt j hj')).1 _ _ _ _ (I.fa j hj') (hN.bw jX)
   | some i =>
    obtain⟨g,hg,hp,hc⟩:=DI i jX;obtain⟨h1,h2,h3⟩:=hsp i jX;refine (hst j (I.lt j hj')).2 (fun e=>by subst e;cases jX) _ _ _ _ g (I.fa j hj') (fun i' hi'=>?_) (by rcases hc with ⟨hx,_⟩ | ⟨_,hx,hy⟩;exact absurd hx (Aq k i jX);exact⟨_,hx,hy⟩) hp;have y7:j<ops.length:=by have:=I.lt j hj';have:=qK hok;omega
    obtain⟨h4,h5,h6⟩:=s9 si y7 i' hi';have Ib:i'≠i:=fun e=>by subst e;exact h3 j y7 (hne j hj') hi'
    rw[sX (fun h=>(h4 h).1)]
    by_cases rM:i'<1000
    ·obtain⟨g',e',q1,q2⟩:=I.pt i' (h4 rM).2 (I.dn j hj' i' (h4 rM).1);have ht:tv og x i'=x i':=if_pos rM;rw[ht];rcases hc with ⟨vB,hc⟩ | ⟨vB,hq2,hc⟩
     ·have Hy:tv og x i=x i:=if_pos vB;rw[Hy] at hg;exact fun e=>I.ne i' i (h4 rM).2 (h1 vB).2 (I.dn j hj' i' (h4 rM).1) (iR i (h1 vB).1) Ib (e.trans hg.symm)
     intro e;rw[e'] at e;injection e with e;injection e with e;injection e with e;have:=fK _ hq2;omega
    have ht:tv og x i'=.pointer (some ⟨og (i' - 1000),0,none⟩):=if_neg rM;rw[ht];intro e;injection e with e;injection e with e;injection e with e;have hl':=fK _ (h5 rM);rcases hc with ⟨vB,hc⟩ | ⟨vB,hq2,hc⟩
    ·omega
    exact xF _ _ (h5 rM) hq2 (by omega) (e.trans hc)
  cases h:(dep D j).contains k with
  | false=>rfl
  | true=>have:=I.dn j hj' k h;rw[hun] at this;cases this
 ·rcases qO i hl with rfl | hl'
  ·obtain⟨g,h1,h2,h3⟩:=hN.al hi;exact⟨g,by rw[jy];exact h1,by have:=I.sw;omega,h3⟩
  obtain⟨g,h1,h2,h3⟩:=I.pt i hi hl';exact⟨g,by rw[jz _ _ (hne i hl')];exact h1,h2,by omega⟩
 rcases qO i H_ with rfl | yW<;>rcases qO j O1 with rfl | yV
 ·exact absurd rfl hij
 ·obtain⟨g,h1,h2,h3⟩:=hN.al hi;obtain⟨g',Gh,Jj,NX⟩:=I.pt j hj yV;rw[jy,jz _ _ (hne j yV),h1,Gh];intro e;injection e with e;injection e with e;injection e with e;omega
 ·obtain⟨g,h1,h2,h3⟩:=hN.al hj;obtain⟨g',Gh,Jj,NX⟩:=I.pt i hi yW;rw[jy,jz _ _ (hne i yW),h1,Gh];intro e;injection e with e;injection e with e;injection e with e;omega
 rw[jz _ _ (hne i yW),jz _ _ (hne j yV)];exact I.ne i j hi hj yW yV hij
def Rest (P:rL) (ops:List fg) (Q:Exit->Act->an->Prop) (t0:Array ay) (ds:List Deferred) (m:Nat) (x:Nat->ay) (w:an):Prop:=
 wpAny P .any ops.toArray Q (ops.length - m) (bA m true++bA (ops.length - m) false).toArray ⟨fill (ops.take m) x 0 t0,ds⟩ w
theorem m_ {m j:Nat} (h:j<m):cS (ops.take m) j=cS ops j:=by
 unfold cS;rw[List.getElem?_take_of_lt h]
theorem oC {m j:Nat} (h:m<=j):cS (ops.take m) j=none:=by
 unfold cS;rw[gm (by simp;omega)];rfl
theorem finish (hml:m<=ops.length) {listed:Array Bool} {a:Act} {w:an} {x:Nat->ay}
  (I:Inv (ops:=ops) (D:=D) (al:=al) (st:=st) (og:=og) (nq:=nq) (t0:=t0) (ds:=ds) (w0:=w0) H m listed a w x) (hall:∀ j,j<m->listed.getD j false=true)
  (hG:∀ x w,Left D al og nq w0 H m x w->Rest P ops Q t0 ds m x w):wpAny P .any ops.toArray Q (listed.toList.count false) listed a w:=by
 have h:=hG x w ⟨⟨I.be,I.bl⟩,fun j hj=>I.fa j (hall j hj),fun i hi AW=>I.pt i hi (hall i AW),fun i j hi hj AW yZ hij=>I.ne i j hi hj (hall i AW) (hall j yZ) hij⟩
 have hl:listed=(bA m true++bA (ops.length - m) false).toArray:=by
  apply Array.ext
  ·rw[I.ls];simp;omega
  intro i h1 h2;rw[I.ls] at h1
  by_cases hi:i<m
  ·have:=hall i hi;rw[aQ,bj (by rw[I.ls];exact h1)] at this;simp only[mC] at this;rw[this]
   simp[rQ,hi]
  have h3:listed.getD i false=false:=by
   cases h:listed.getD i false with
   | false=>rfl
   | true=>exact absurd (I.lt i h) hi
  rw[aQ,bj (by rw[I.ls];exact h1)] at h3;simp only[mC] at h3;rw[h3]
  simp[List.getElem_append,hi]
 have ha:a=⟨fill (ops.take m) x 0 t0,ds⟩:=by
  have e:fill (ops.take m) x 0 t0=a.tmps:=by
   refine fill_eq _ x 0 t0 a.tmps I.sz (fun j d hd=>?_) (fun t ht=>?_)
   ·rcases Nat.lt_or_ge j m with hj | hj
    ·rw[m_ hj] at hd;rw[eG];exact I.tm j d (hall j hj) hd
    rw[oC hj] at hd;cases hd
   refine I.pre t fun j hj=>?_
   have:=ht j
   rwa [m_ (I.lt j hj)] at this
  rw[e,<-I.df]
 have hc:listed.toList.count false=ops.length - m:=by rw[hl];simp[List.count_replicate]
 rw[hc,hl,ha];exact h
theorem main (hok:ok ops D m t0.size=true) (si:vp ops D al st nq=true) (Aq:∀ k i,own st k=some i->¬ i<1000) (fK:∀ q,q<nq->og q<w0.heap.size) (xF:∀ q q',q<nq->q'<nq->q≠q'->og q≠og q') (hst:∀ j,j<m->q7 st og nq j (H j)) (hrun:∀ j,j<m->∃ o,ops[j]?=some o/\zu P ops D al st og nq t0 ds w0 H j o (H j))
  (hG:∀ x w,Left D al og nq w0 H m x w->Rest P ops Q t0 ds m x w) :
  ∀ (fuel:Nat) (listed:Array Bool) (a:Act) (w:an) (x:Nat->ay),listed.toList.count false=fuel->Inv (ops:=ops) (D:=D) (al:=al) (st:=st) (og:=og) (nq:=nq) (t0:=t0) (ds:=ds) (w0:=w0) H m listed a w x->wpAny P .any ops.toArray Q fuel listed a w:=by
 have hml:=qK hok;intro fuel
 induction fuel with
 | zero =>
  intro listed a w x hc I;rw[<-hc];refine finish hml I (fun j hj=>?_) hG;rw[aQ,bj (by rw[I.ls];omega)];simp only[mC];have h0:=List.count_eq_zero.1 hc
  cases h:listed[j]'(by rw[I.ls];omega) with
  | true=>rfl
  | false=>exact absurd (by rw[<-h];simp) h0
 | succ fuel ih =>
  intro listed a w x hc I
  by_cases hall:∀ j,j<m->listed.getD j false=true
  ·rw[<-hc];exact finish hml I hall hG
  -- what may come up is one of the first m
  have Bw:∀ i,i ∈ qE .any ops.toArray listed->listed.getD i false=false/\∃ o,ops[i]?=some o/\(∀ j,(dep D i).contains j=true->listed.getD j false=true)/\i<m:=by
   intro i hi;obtain⟨h1,o,ho,h2⟩:=mem_ready.1 hi;have jX:ops[i]?=some o:=by simpa using ho
   have hlt:i<ops.length:=(List.getElem?_eq_some_iff.1 jX).1;obtain⟨c1,c2,c3,c4⟩:=mO hok jX
   have hd:∀ j,(dep D i).contains j=true->listed.getD j false=true:=fun j hj=>by
    obtain⟨⟨e,he,hb,h3⟩,_⟩:=c2 j hj;rcases h3 with rfl | h3
    ·exact h2 e he hb
    exact I.dn _ (h2 e he hb) j h3
   refine⟨?_,o,jX,hd,c3.resolve_right fun h=>hall fun j hj=>hd j (h j hj)⟩;rw[aQ,bj (by rw[I.ls];exact hlt)] at h1 ⊢;exact h1
  refine⟨fun hr=>?_,fun i hi=>?_⟩
  ·-- the least that has not come up may come up
   exfalso
   have hex:∃ j,listed.getD j false=false/\j<m:=by
    refine Classical.byContradiction fun h=>hall fun j hj=>?_
    cases h2:listed.getD j false with
    | true=>rfl
    | false=>exact absurd ⟨j,h2,hj⟩ h
   have hmin:∃ j,(listed.getD j false=false/\j<m)/\∀ i,i<j->listed.getD i false=true:=by
    obtain⟨j,h1,h2⟩:=hex
    induction j using Nat.strongRecOn with
    | ind j ihj =>
     by_cases yU:∃ i,i<j/\listed.getD i false=false
     ·obtain⟨i,h3,h4⟩:=yU;exact ihj i h3 h4 (by omega)
     refine⟨j,⟨h1,h2⟩,fun i hi=>?_⟩
     cases h5:listed.getD i false with
     | true=>rfl
     | false=>exact absurd ⟨i,hi,h5⟩ yU
   obtain⟨j,⟨h1,h2⟩,h3⟩:=hmin;have Mg:ops[j]?=some (ops[j]'(by omega)):=d_ (by omega)
   have:j ∈ qE .any ops.toArray listed:=mem_ready.2 ⟨by
    rw[aQ,bj (by rw[I.ls];omega)] at h1 ⊢
    exact h1,_,by rw[eY];exact Mg,fun e he hb=>h3 _ ((mO hok Mg).1 e he hb)⟩
   rw[hr] at this;cases this
  obtain⟨hun,o,ho,hd,AW⟩:=Bw i hi;obtain⟨o',jX,hR⟩:=hrun i AW;obtain rfl:o=o':=by rw[ho] at jX;exact Option.some.inj jX
  have Fh:i<ops.length:=(List.getElem?_eq_some_iff.1 ho).1
  have hA:At ops D st og nq t0 w0 H i a.tmps (mask (dep D i) x) w:=by
   obtain⟨c1,c2,c3,c4⟩:=mO hok ho;refine⟨I.be,I.bl,fun q hq hk'=>I.od q hq fun k' hlk J'=>?_,fun j d hj hd'=>?_,fun j hj=>?_,fun t ht=>I.pre t fun j hj O6=>?_⟩
   ·rcases hk' k' J' with e | e
    ·subst e;rw[hun] at hlk;cases hlk
    have:=I.dn k' hlk i e;rw[hun] at this;cases this
   ·rw[ai hj];exact I.tm j d (hd j hj) hd'
   ·have e:mask (dep D j) (mask (dep D i) x)=mask (dep D j) x:=by
     funext q
     unfold mask
     by_cases hq:(dep D j).contains q=true
     ·rw[if_pos hq,if_pos hq,if_pos ((c2 j hj).2.1 q hq)]
     rw[if_neg hq,if_neg hq]
    rw[e,ai hj];exact I.fa j (hd j hj)
   have y7:j<ops.length:=by have:=I.lt j hj;omega
   unfold R7.pre at ht;rw[cQ] at ht;have h1:=ht j (List.mem_range.2 y7);simp only[eO,bne_iff_ne,ne_eq,beq_iff_eq] at h1;rcases h1 with (h1 | h1) | h1
   ·exact h1 O6
   ·subst h1;rw[hun] at hj;cases hj
   have:=I.dn j hj i h1;rw[hun] at this;cases this
  have qP:=hR a.tmps (mask (dep D i) x) w hA (fun a' w'=>∃ v,a'=(a.put o.dst v)/\Next al st og (H i) i (mask (dep D i) x) w v w') (fun v w' hN=>⟨v,by rw[<-I.df],hN⟩);have Ki:i<listed.size:=by rw[I.ls];exact Fh
  have BB:(listed.setIfInBounds i true).toList.count false=fuel:=by
   have h1:listed.toList[i]?=some false:=by
    rw[aQ,bj (by rw[I.ls];exact Fh)] at hun;rw[d_ (by simpa using Ki)]
    simpa using hun
   have:=oa h1;rw[hc] at this;rw[oK]
   omega
  have cX:∀ a' w',(∃ v,a'=(a.put o.dst v)/\Next al st og (H i) i (mask (dep D i) x) w v w')->wpAny P .any ops.toArray Q fuel (listed.setIfInBounds i true) a' w':=by
   rintro a' w' ⟨v,rfl,hN⟩;exact ih _ _ _ _ BB (I.step hok si Aq fK xF hst ho AW hun hd hN)
  unfold wpOp;rw[show ops.toArray[i]?=some o by simpa using ho];simp only[];have Py:(⟨a.tmps,ds⟩:Act)=a:=by rw[<-I.df]
  rw[Py] at qP
  split
  ·rename_i hw
   rw[if_pos hw] at qP;exact Or.inl (Oper.A5 (Go.Oper.wp_mono cX qP))
  rename_i hw
  rw[if_neg hw] at qP;exact cX _ _ qP
theorem G2 {st:List (Nat × Nat)} (h:(st.all fun p=>decide (1000<=p.2))=true):∀ k i,own st k=some i->¬ i<1000:=by
 intro k i hi;unfold own at hi
 induction st with
 | nil=>cases hi
 | cons p l ih =>
  obtain⟨a,b⟩:=p;rw[List.all_cons,cR,decide_eq_true_eq] at h;rw[List.lookup_cons] at hi
  split at hi
  ·injection hi with hi;subst hi;have:=h.1;omega
  exact ih h.2 hi
theorem region {id:Nat} {w:an} (hm:P.follows .mixedOrders=true) (D:List (List Nat)) (al:List Nat) (st:List (Nat × Nat)) (og:Nat->Nat) (nq:Nat) (m:Nat) (hok:ok ops D m t0.size=true) (si:vp ops D al st nq=true) (Aq:(st.all fun p=>decide (1000<=p.2))=true) (fK:∀ q,q<nq->og q<w.heap.size) (xF:∀ q q',q<nq->q'<nq->q≠q'->og q≠og q')
  (h:az P ops D al st og nq t0 ds w.drew m (Rest P ops Q t0 ds m) ops 0 []):(Code.region id ops.toArray true).wp P Q ⟨t0,ds⟩ w:=by
 refine wp_region_any hm ?_;have hml:=qK hok;obtain⟨H,_,h2,h3⟩:=az.all (fun k j hk hj=>Et hok hj (by omega)) ops 0 [] rfl (au _) (fun j=>by rw[eG]) h;have hc:(mK ops.toArray.size false).toList.count false=ops.toArray.size:=by simp
 refine main (w0:=w.drew) hok si (G2 Aq) fK xF (fun j hj=>(h2 j (au _) hj).1) (fun j hj=>(h2 j (au _) hj).2) h3 _ _ _ _ (fun _=>undef) hc ?_
 have hno:∀ j,(mK ops.toArray.size false).getD j false=true->False:=fun j hj=>by
  rw[aQ] at hj
  by_cases h:j<ops.length<;>simp[h] at hj
 exact⟨fun j _ hj=>(hno j hj).elim,fun _ _=>rfl,rfl,rfl,fun B _ _=>av _ _,fun _ _ _=>rfl,fun _ _ _=>rfl,ak _,by simp,fun j hj=>(hno j hj).elim,fun j hj=>(hno j hj).elim,fun j hj=>(hno j hj).elim,fun j _ hj=>(hno j hj).elim,fun i j _ _ hj=>(hno i hj).elim⟩
theorem gg {x:Nat->ay} {w:an} (h:Q .normal ⟨fill ops x 0 t0,ds⟩ w):Rest P ops Q t0 ds ops.length x w:=by
 unfold Rest;rw[Nat.sub_self,bD];refine⟨?_,h⟩;simp only[List.replicate_zero,List.append_nil];refine List.eq_nil_iff_forall_not_mem.2 (fun i hi=>?_);obtain⟨h1,o,ho,_⟩:=mem_ready.1 hi;have hlt:i<ops.length:=by have:=(Array.getElem?_eq_some_iff.1 ho).1;simpa using this
 simp[aQ,hlt] at h1
end
end
def C8 (n m:Nat):Array Bool:=(bA m true++bA (n - m) false).toArray
def th (ops:List fg) (m:Nat):Bool:=(gQ ops.length).all fun i=>decide (i<m) || qE .any ops.toArray (C8 ops.length i)==[i]
theorem G8 {n m:Nat} (h:m<n):(C8 n m).setIfInBounds m true=C8 n (m+1):=by
 unfold C8
 apply Array.ext'
 rw[oK]
 show (bA m true++bA (n - m) false).set m true=bA (m+1) true++bA (n - (m+1)) false
 rw[List.set_append_right _ _ (by simp)];simp only[iB,Nat.sub_self];obtain⟨r,hr⟩:∃ r,n - m=r+1:=⟨n - m - 1,by omega⟩
 rw[hr,show n - (m+1)=r by omega,List.replicate_succ,List.set_cons_zero,List.replicate_succ',List.append_assoc]
 rfl
theorem Bg (ops:List fg):qE .any ops.toArray (C8 ops.length ops.length)=[]:=by
 refine List.eq_nil_iff_forall_not_mem.2 (fun i hi=>?_);obtain⟨h1,o,ho,_⟩:=mem_ready.1 hi;have hlt:i<ops.length:=by have:=(Array.getElem?_eq_some_iff.1 ho).1;simpa using this
 simp[C8,aQ,hlt] at h1
theorem wm {P:rL} {ops:List fg} {Q:Exit->Act->an->Prop}:∀ (r m:Nat),m+r=ops.length->(∀ i,m<=i->i<ops.length->qE .any ops.toArray (C8 ops.length i)=[i])->∀ a w,wpList P ops.toArray Q (ops.drop m) a w->wpAny P .any ops.toArray Q r (C8 ops.length m) a w
 | 0,m,hm,_,a,w,h=>by
  have e:m=ops.length:=by omega
  subst e;rw[List.drop_length] at h;exact⟨Bg ops,h⟩
 | r+1,m,hm,hr,a,w,h=>by
  have hlt:m<ops.length:=by omega
  have h0:=hr m (ak _) hlt;refine⟨(fun hn=>by rw[h0] at hn;cases hn),fun i hi=>?_⟩;rw[h0,dG] at hi;subst hi;rw[List.drop_eq_getElem_cons hlt] at h;have ho:ops.toArray[i]?=some ops[i]:=by simp[hlt]
  have ih:=wm (P:=P) (Q:=Q) r (i+1) (by omega) (fun j hj hj'=>hr j (by omega) hj');unfold wpOp;rw[ho,G8 hlt];simp only[wpList] at h ⊢
  split
  ·rename_i hw
   rw[if_pos hw] at h;rcases h with h | h
   ·exact .inl (Go.Oper.wp_mono (fun a' w' h'=>ih a' w' h') h)
   exact .inr h
  rename_i hw
  rw[if_neg hw] at h;exact ih _ _ h
theorem g_ {P:rL} {ops:List fg} {Q:Exit->Act->an->Prop} {t0:Array ay} {ds:List Deferred} {m:Nat} {x:Nat->ay} {w:an} (hm:m<=ops.length) (hi:th ops m=true)
  (h:wpList P ops.toArray Q (ops.drop m) ⟨fill (ops.take m) x 0 t0,ds⟩ w):Rest P ops Q t0 ds m x w:=by
 unfold Rest;refine wm (ops.length - m) m (by omega) (fun i h1 h2=>?_) _ _ h;unfold th at hi;have:=List.all_eq_true.1 hi i (List.mem_range.2 h2);simp only[eO,decide_eq_true_eq,beq_iff_eq] at this;exact this.resolve_left (by omega)
section
variable {P:rL} {ops:List fg} {D:List (List Nat)} {al:List Nat} {st:List (Nat × Nat)} {og:Nat → Nat} {nq:Nat} {t0:Array ay} {ds:List Deferred} {w0:an}
theorem mi {L:List Nat} {x:Nat → ay} {j:Nat} (h:L.contains j=true):mask L x j=x j:=ai h
theorem cd {m k:Nat} {G:(Nat → ay) → an → Prop} {o:fg} {l:List fg} {F:List Fact} (f:(Nat → ay) → ay) (hr:∀ (T:Array ay) (x:Nat → ay) (w:an),At ops D st og nq t0 w0 (fact F) k T x w → (execOp (Act.eval ⟨T,ds⟩) o).run P w=.ok (.value (f x)) w)
    (h:az P ops D al st og nq t0 ds w0 m G l (k+1) ((fun x v _=>v=f x)::F)) (hp:plain al st k=true:=by rfl) (hw:∀ T:Array ay,iJ o (yielded ops.toArray T)=true:=by (intro T;rfl)):az P ops D al st og nq t0 ds w0 m G (o::l) k F:=az.bT f hp (fun T x w hA=>⟨hw T,hr T x w hA⟩) h
theorem At.tq {F:Nat → Fact} {k:Nat} {T:Array ay} {x:Nat → ay} {w:an} (h:At ops D st og nq t0 w0 F k T x w) (j d:Nat) (h1:(dep D k).contains j=true:=by rfl) (h2:cS ops j=some d:=by rfl):T[d]?=some (x j):=h.tm j d h1 h2
theorem At.fq {F:Nat → Fact} {k:Nat} {T:Array ay} {x:Nat → ay} {w:an} (h:At ops D st og nq t0 w0 F k T x w) (j:Nat) (h1:(dep D k).contains j=true:=by rfl):F j (mask (dep D j) x) (x j) w:=h.fa j h1
theorem At.pq {F:Nat → Fact} {k:Nat} {T:Array ay} {x:Nat → ay} {w:an} (h:At ops D st og nq t0 w0 F k T x w) (t:Nat) (h1:R7.pre ops D k t=true:=by kernel_rfl):T[t]?=t0[t]?:=h.pre t h1
theorem WU {cur new:an} (h:∀ B,B ≤ cur.drew.heap.size → (∀ q,q<0 → B ≤ og q) → aC B cur.drew new):aC cur.heap.size cur new:=(fun k:aC cur.heap.size cur.drew new=>⟨k.os,k.tape,k.output,k.size,k.block⟩) (h cur.heap.size (ak _) (fun _ h=>absurd h (ah _)))
theorem r0 {id:Nat} {w:an} {Q:Exit → Act → an → Prop} (D:List (List Nat)) (m:Nat) (h:az P ops D [] [] (fun _=>0) 0 t0 ds w.drew m (Rest P ops Q t0 ds m) ops 0 []) (hm:P.follows .mixedOrders=true:=by kernel_rfl) (hok:ok ops D m t0.size=true:=by kernel_rfl) (si:vp ops D [] [] 0=true:=by kernel_rfl):(Code.region id ops.toArray true).wp P Q ⟨t0,ds⟩ w:=
  region hm D [] [] (fun _=>0) 0 m hok si rfl (fun q h=>absurd h (ah _)) (fun q q' h=>absurd h (ah _)) h
end
end R7
set_option linter.unusedVariables false
set_option linter.unusedSimpArgs false
theorem kI (a:cH) (i:Nat):(a.add i).block=a.block:=by unfold Addr.add;split<;>rfl
theorem j8 (g o i:Nat):(⟨g,o,none⟩:cH).add i=⟨g,o+i,none⟩:=by simp[Addr.add]
theorem tI (a:cH) (i j:Nat):(a.add i).add j=a.add (i+j):=tH a i j
def qB (l:List ay):Prop:=∀ u ∈ l,∀ z,u ≠ .int .u32 z
theorem tG {w w':an} (h:aC w.heap.size w w') (row:Option Nat):w.grownBy w' row:=⟨h.os,h.tape,h.output,h.size,fun k hk _=>h.block k hk⟩
theorem qB.app {a b:List ay} (h:qB a) (k:qB b):qB (a++b):=fun u hu=>by
 rcases List.mem_append.1 hu with hu | hu
 ·exact h u hu
 exact k u hu
theorem qB.take {a:List ay} (h:qB a) (n:Nat):qB (a.take n):=fun u hu=>h u (List.mem_of_mem_take hu)
theorem qB.drop {a:List ay} (h:qB a) (n:Nat):qB (a.drop n):=fun u hu=>h u (List.mem_of_mem_drop hu)
theorem qB.IK {c:Array ay} (h:qB c.toList) (n:Nat):qB (Builtin.zeroCells c n).toList:=by
 intro u hu;unfold Builtin.zeroCells at hu;rw[Array.mem_toList_iff,Array.mem_map] at hu;obtain⟨i,hi,rfl⟩:=hu;rw[Array.mem_range] at hi
 have h0:0<c.size:=by
  rcases Nat.eq_zero_or_pos c.size with h0 | h0
  ·rw[h0] at hi;omega
  exact h0
 have hl:=di i h0;rw[getElem!_pos c _ hl];exact h _ (Array.mem_toList_iff.2 (Array.getElem_mem hl))
theorem qB.flat {α:Type} {f:α->List ay} {l:List α} (h:∀ a,qB (f a)):qB (l.flatMap f):=fun u hu=>by
 obtain⟨a,_,ha⟩:=List.mem_flatMap.1 hu;exact h a u ha
structure Fr (e:bu) (w w':an):Prop where
 block:∀ (g:Nat) (c:Array ay) (T:bu),w.heap[g]?=some (.cells c T (0,0))->T≠e->w'.heap[g]?=some (.cells c T (0,0))
 num:∀ (a:cH) (z:Int),w.cell? a=some (.int .u32 z)->w'.cell? a=some (.int .u32 z)
theorem Fr.refl (e:bu) (w:an):Fr e w w:=⟨fun _ _ _ h _=>h,fun _ _ h=>h⟩
theorem Fr.oV {e:bu} {w w':an} (h:aC w.heap.size w w'):Fr e w w':=
 ⟨fun g c T hg _=>by rw[h.block g (ag hg)];exact hg,fun a z hc=>by rw[h.cell (bW w a hc)];exact hc⟩
theorem FA {w:an} {g:Nat} {c:Array ay} {T:bu} {fz:Nat × Nat} (h:w.heap[g]?=some (.cells c T fz)) (h32:qB c.toList) {a:cH} (ha:a.block=g) (z:Int):w.cell? a≠some (.int .u32 z):=by
 intro hc;unfold World.cell? at hc;rw[ha,h] at hc;simp only at hc
 split at hc
 ·cases hc
 exact h32 _ (Array.mem_toList_iff.2 (Array.mem_of_getElem? hc)) z rfl
theorem Fr.aN {e:bu} {w w':an} {r:Option Nat} (hg:w.grownBy w' r) (hr:∀ g,r=some g->∃ c,w.heap[g]?=some (.cells c e (0,0))/\qB c.toList):Fr e w w':=
 ⟨fun g x T hx hT=>by
  rw[hg.block g (ag hx) (fun h=>by
   obtain⟨c,hc,-⟩:=hr g h.symm
   rw[hx] at hc;injection hc with hc;injection hc with _ hc;exact hT hc)];exact hx,
  fun a z hc=>by
  refine hg.cell hc (fun h=>?_);obtain⟨c,tQ,h32⟩:=hr _ h.symm
  exact FA tQ h32 rfl z hc⟩
theorem Sl.fr {e:bu} {w w':an} {v:ay} {xs:List Nat} (h:Sl w .u32 v xs) (k:Fr e w w'):Sl w' .u32 v xs:=by
 obtain⟨ao,cap,e1,h1,h2,h3,h4⟩:=h;refine⟨ao,cap,e1,h1,h2,h3,fun i hi=>?_⟩;obtain⟨a,ha,hc⟩:=h4 i hi;exact⟨a,ha,k.num _ _ hc⟩
theorem CI.fr {e:bu} {w w':an} {v:ay} {z:Int} {k:Nat} (h:CI w v z k) (f:Fr e w w'):CI w' v z k:=by
 obtain⟨va,h1,h2,h3⟩:=h;exact⟨va,h1,h2.fr f,h3⟩
theorem CI.mono {w:an} {v:ay} {z:Int} {k k':Nat} (h:CI w v z k) (hk:k<=k'):CI w v z k':=by
 obtain⟨va,h1,h2,h3⟩:=h;exact⟨va,h1,h2,eP h3 hk⟩
structure El (α:Type) where
 e:bu
 t:bu
 n:Nat
 b:Nat
 z:ay
 f:α->List ay
 R:an->α->Prop
 ok:bu->Prop
 pos:0<n
 KF:b<=1000
 zs:z.cells.size=n
 z32:qB z.cells.toList
 ht:Tryz.prog.underlying t=some (.slice e)
 info:(Tryz.prog.info? e).map (fun i=>(i.zero,i.size,i.bytes))=some (some z,n,b)
 len:∀ a,(f a).length=n
 one:∀ a,∀ u ∈ f a,u.oneCell'=true
 n32:∀ a,qB (f a)
 fr:∀ {e':bu} {w w':an} {a:α},ok e'->Fr e' w w'->R w a->R w' a
 own:ok e
section
variable {α:Type} (E:El α)
theorem El.below {w w':an} {a:α} (h:E.R w a) (hb:aC w.heap.size w w'):E.R w' a:=E.fr E.own (Fr.oV hb) h
theorem lU {α:Type} {n:Nat} (f:α->List ay) (hf:∀ a,(f a).length=n):∀ (l:List α) (i j:Nat) (hi:i<l.length),j<n->(l.flatMap f)[i*n+j]?=(f l[i])[j]?:=by
 intro l
 induction l with
 | nil=>intro i j hi;simp at hi
 | cons a l ih =>
  intro i j hi hj;rw[eT]
  cases i with
  | zero=>rw[Nat.zero_mul,eG,iK (by rw[hf];exact hj)];rfl
  | succ i =>
   rw[iz (by rw[hf,cL];omega),hf,show (i+1)*n+j - n=i*n+j by rw[cL];omega,List.getElem_cons_succ];exact ih i j (by simpa using hi) hj
theorem mH {α:Type} {n:Nat} (f:α->List ay) (hf:∀ a,(f a).length=n):∀ l:List α,(l.flatMap f).length=l.length*n:=by
 intro l
 induction l with
 | nil=>simp
 | cons a l ih=>rw[eT,fI,ih,hf,ru,cL];omega
structure El.Row (w:an) (B:Nat) (v:ay) (el:List α):Prop where
 own:w.ownsRow B E.e E.n v el.length (el.flatMap E.f)
 n32:∀ g,v.ownBlock=some g->∃ c,w.heap[g]?=some (.cells c E.e (0,0))/\qB c.toList
 rd:∀ a ∈ el,E.R w a
def El.At (w:an) (v:ay) (el:List α):Prop:=∃ ko kc,v=.slice ko el.length kc/\(el.length<=kc/\kc<=fO/\(ko=none->kc=0)) /\
 ∀ i (h:i<el.length),∃ a,ko=some a/\(∃ c,w.heap[a.block]?=some (.cells c E.e (0,0)))/\(∀ j u,(E.f el[i])[j]?=some u->w.cell? (a.add (i*E.n+j))=some u)/\E.R w el[i]
variable {E}
theorem El.Row.nil (w:an) (B:Nat):E.Row w B (.slice none 0 0) []:=⟨World.ownsRow_nil _ _ _ _,fun _ h=>(by cases h),fun q h=>(by cases h)⟩
theorem El.Row.form {w:an} {B:Nat} {v:ay} {el:List α} (h:E.Row w B v el):∃ ko kc,v=.slice ko el.length kc/\el.length<=kc/\kc<=fO/\(ko=none->kc=0):=by
 rcases h.own.2 with ⟨rfl,h1⟩ | ⟨g,cap,cur,rfl,_,_,h1,h2,_⟩
 ·rw[h1];exact⟨_,_,rfl,ak _,au _,fun _=>rfl⟩
 exact⟨_,_,rfl,h1,h2,fun h=>by cases h⟩
theorem El.Row.ge {w:an} {B:Nat} {v:ay} {el:List α} (h:E.Row w B v el) {j:Nat} (hj:v.ownBlock=some j):B<=j/\j<w.heap.size:=World.ownsRow.lt h.own j hj
theorem El.Row.below {w w':an} {B:Nat} {v:ay} {el:List α} (h:E.Row w B v el) (hb:aC w.heap.size w w'):E.Row w' B v el:=by
 refine⟨?_,fun g hg=>?_,fun q hq=>E.below (h.rd q hq) hb⟩
 ·rcases hr:v.ownBlock with _ | j
  ·exact iT h.own (tG hb none) (.inl hr)
  exact iT h.own (tG hb none) (.inr (by rw[hr];intro e;cases e))
 obtain⟨c,hc,h32⟩:=h.n32 g hg;exact⟨c,by rw[hb.block g (ag hc)];exact hc,h32⟩
theorem El.Row.at {w:an} {B:Nat} {v:ay} {el:List α} (h:E.Row w B v el):E.At w v el:=by
 obtain⟨ko,kc,rfl,h1⟩:=h.form;refine⟨ko,kc,rfl,h1,fun i hi=>?_⟩;rcases h.own.2 with ⟨hv,h0⟩ | ⟨g,cap,cur,hv,_,hg,h2,h3,h4,h5⟩
 ·omega
 injection hv with e1 e2 e3;subst e1;subst e3;refine⟨_,rfl,⟨cur,hg⟩,fun j u hu=>?_,h.rd _ (cI hi)⟩;have hj:j<E.n:=by have:=(List.getElem?_eq_some_iff.1 hu).1;rwa [E.len] at this
 rw[j8,eG,lC h.own (i*E.n+j) (by
  calc i*E.n+j<i*E.n+E.n:=by omega
   _=(i+1)*E.n:=by rw[cL];omega
   _<=el.length*E.n:=aU _ hi),lU E.f E.len el i j hi hj]
 exact hu
theorem El.At.nil (w:an):E.At w (.slice none 0 0) []:=(El.Row.nil w 0).at
theorem El.At.fr {e':bu} {w w':an} {v:ay} {el:List α} (h:E.At w v el) (hok:E.ok e') (hne:E.e≠e') (f:Fr e' w w'):E.At w' v el:=by
 obtain⟨ko,kc,rfl,h1,h2⟩:=h;refine⟨ko,kc,rfl,h1,fun i hi=>?_⟩;obtain⟨a,ha,⟨c,hc⟩,h3,h4⟩:=h2 i hi;have Ge:=f.block _ _ _ hc hne;refine⟨a,ha,⟨c,Ge⟩,fun j u hu=>?_,E.fr hok f h4⟩;rw[sD (w:=w) (by rw[kI,hc,Ge])];exact h3 j u hu
theorem El.At.below {w w':an} {v:ay} {el:List α} (h:E.At w v el) (hb:aC w.heap.size w w'):E.At w' v el:=by
 obtain⟨ko,kc,rfl,h1,h2⟩:=h;refine⟨ko,kc,rfl,h1,fun i hi=>?_⟩;obtain⟨a,ha,⟨c,hc⟩,h3,h4⟩:=h2 i hi;have Ge:=hb.block _ (ag hc);refine⟨a,ha,⟨c,by rw[Ge];exact hc⟩,fun j u hu=>?_,E.below h4 hb⟩;rw[sD (w:=w) (by rw[kI,Ge])];exact h3 j u hu
theorem El.At.block {w:an} {g:Nat} {el:List α} (h:w.heap[g]?=some (.cells (el.flatMap E.f).toArray E.e (0,0))) (hl:el.length<=fO) (hR:∀ a ∈ el,E.R w a):E.At w (.slice (some ⟨g,0,none⟩) el.length el.length) el:=by
 refine⟨_,_,rfl,⟨ak _,hl,fun h=>by cases h⟩,fun i hi=>⟨_,rfl,⟨_,h⟩,fun j u hu=>?_,hR _ (cI hi)⟩⟩;have hj:j<E.n:=by have:=(List.getElem?_eq_some_iff.1 hu).1;rwa [E.len] at this
 rw[j8,eG,dM w g _ _ _ _ h,eY,lU E.f E.len el i j hi hj];exact hu
theorem El.At.sub {w:an} {ko:Option cH} {n kc:Nat} {el:List α} (h:E.At w (.slice ko n kc) el) {i j:Nat} (hij:i<=j) (hj:j<=el.length) :
  E.At w (sliced ko i j kc E.n) ((el.drop i).take (j - i)):=by
 obtain⟨EG,Bn,e,⟨h1,h2,h3⟩,h4⟩:=h;injection e with e1 e2 e3;subst e1;subst e3;have hlen:((el.drop i).take (j - i)).length=j - i:=by simp;omega
 unfold sliced;refine⟨if kc=i then ko else ko.map (·.add (i*E.n)),kc - i,by rw[hlen],⟨by omega,by omega,fun h=>?_⟩,fun q hq=>?_⟩
 ·split at h
  ·omega
  cases ko with
  | none=>have:=h3 rfl;omega
  | some a=>cases h
 have Ty:i+q<el.length:=by omega
 obtain⟨a,rfl,hc,h5,h6⟩:=h4 (i+q) Ty;have hne:¬ kc=i:=by omega
 have hel:((el.drop i).take (j - i))[q]=el[i+q]:=by rw[List.getElem_take,List.getElem_drop]
 rw[if_neg hne,hel];refine⟨a.add (i*E.n),rfl,by rw[kI];exact hc,fun p u hu=>?_,h6⟩;rw[tI,show i*E.n+(q*E.n+p)=(i+q)*E.n+p by rw[cL];omega];exact h5 p u hu
theorem El.At.news {w:an} {a:cH} {n kc:Nat} {el:List α} (h:E.At w (.slice (some a) n kc) el):∀ j u,(el.flatMap E.f)[j]?=some u->w.cell? (a.add j)=some u:=by
 intro j u hu;obtain⟨EG,Bn,e,h1,h4⟩:=h;injection e with e1 e2 e3;have y7:j<el.length*E.n:=by have:=(List.getElem?_eq_some_iff.1 hu).1;rwa [mH E.f E.len] at this
 have hp:=E.pos;have hi:j / E.n<el.length:=(Nat.div_lt_iff_lt_mul hp).2 y7;have hm:j % E.n<E.n:=di _ hp;have hd:j / E.n*E.n+j % E.n=j:=by rw[Nat.mul_comm];exact Nat.div_add_mod j E.n
 obtain⟨b,hb,-,h5,-⟩:=h4 _ hi;rw[<-e1] at hb;injection hb with hb;subst hb;have:=h5 (j % E.n) u (by rw[<-lU E.f E.len el (j / E.n) (j % E.n) hi hm,hd];exact hu)
 rwa [hd] at this
theorem El.Row.run {w:an} {B:Nat} {v x:ay} {el ns:List α} (h:E.Row w B v el) (hx:E.At w x ns) (ty:bu) (hlen:el.length+ns.length<=1000000) (hB:B<=w.heap.size) :
  ∃ v' w',(Builtin.append_ #[E.t,E.t] ty #[v,x]).run ax w=.ok v' w'/\E.Row w' B v' (el++ns)/\Fr E.e w w'/\aC B w w'/\w.grownBy w' v.ownBlock:=by
 obtain⟨i,hi,hz,jK,tN⟩:=oI E.info;have ht:=E.ht;have hzs:=E.zs;have hbyte:=E.KF;have hsz:=E.pos;rcases x with _ | _ | _ | _ | _ | _ | ⟨ao,m,c⟩ | _ | _ | _ | _ | _ | _ | _ | _ | _<;>first | (obtain⟨_,_,e,_⟩:=hx;cases e;done) | skip
 have hm:m=ns.length:=by obtain⟨_,_,e,_⟩:=hx;injection e
 have fin:∀ v' w',E.Row w' B v' (el++ns)->w.grownBy w' v.ownBlock->E.Row w' B v' (el++ns)/\Fr E.e w w'/\aC B w w'/\w.grownBy w' v.ownBlock:=fun v' w' h1 h2 =>
  ⟨h1,.aN h2 h.n32,⟨h2.os,h2.tape,h2.output,h2.size,fun k hk=>h2.block k (by omega) (fun e=>by have:=(h.ge e.symm).1;omega)⟩,h2⟩
 cases ao with
 | none =>
  have h0:ns=[]:=by
   cases ns with
   | nil=>rfl
   | cons a l=>obtain⟨_,_,e,_,h4⟩:=hx;injection e with e1 e2 e3;subst e1;obtain⟨_,hb,_⟩:=h4 0 (by simp);cases hb
  have hc:c=0:=by obtain⟨_,_,e,⟨_,_,h3⟩,_⟩:=hx;injection e with e1 e2 e3;subst e1;subst e3;exact h3 rfl
  subst h0;subst hc;subst hm;refine⟨v,w,run_append_owned_none w B E.t ty E.e i E.n ht hi v el.length _ h.own,?_⟩;rw[List.append_nil];exact⟨h,Fr.refl _ _,av _ _,aJ _ _⟩
 | some a =>
  subst hm;have hnews:=hx.news;have hl:=mH E.f E.len ns
  have h1:∀ u ∈ ns.flatMap E.f,u.oneCell'=true:=fun u hu=>by
   obtain⟨b,_,hb⟩:=List.mem_flatMap.1 hu;exact E.one b u hb
  have h32:qB (ns.flatMap E.f):=qB.flat E.n32
  have cV:(el.length+ns.length)*i.bytes<=140737488355328:=by
   rw[tN];exact aq (lj hlen hbyte) (by decide)
  have DJ:el.length+ns.length<=fO:=by unfold fO;omega
  obtain⟨v',w',hr,h2,h3,h4⟩:=run_append_own (P:=ax) w B E.t ty E.e i E.z E.n E.b ht hi hz jK tN hzs hsz v el.length _ h.own a ns.length c _ hl hnews h1 DJ (by rw[<-tN];exact cV) hB;refine⟨v',w',hr,fin v' w' ⟨?_,?_,?_⟩ h3⟩
  ·rw[fI,List.flatMap_append];exact h2
  ·rw[<-jK] at hl;have rT:(el.flatMap E.f).length=el.length*i.size:=by rw[jK];exact h.own.1
   intro g hg;rcases h.own.2 with ⟨rfl,h0⟩ | ⟨q,cap,cur,rfl,Gf,hgq,hnc,K_,hcs,htake⟩
   ·by_cases hm:ns.length=0
    ·have hnone:=h4.2 ⟨rfl,hm⟩;rw[hnone] at hg;cases hg
    have vL:=run_append_nil (P:=ax) w E.t ty E.e i E.z ht hi hz a ns.length c _ hl hnews (by omega) (by omega) (by have jf:=aU i.bytes (Nat.le_add_left ns.length el.length);omega);rw[hr] at vL;injection vL with e1 e2;subst e1 e2;injection hg with hg;subst hg;exact⟨_,dc w.drew _,by simp only[Array.toList_append,List.toList_toArray];exact h32.app (qB.IK E.z32 _)⟩
   obtain⟨cc,tQ,Mt⟩:=h.n32 q rfl;rw[hgq] at tQ;injection tQ with tQ;injection tQ with tQ;subst tQ
   by_cases hroom:el.length+ns.length<=cap
   ·have hfit:el.length*i.size+(ns.flatMap E.f).length<=cur.size:=by rw[hl,hcs,<-jK,<-cL];exact aU _ hroom
    have vL:=run_append_room (P:=ax) w E.t ty E.e i ht hi q el.length cap cur hgq a ns.length c _ hl hnews h1 hroom hfit;rw[hr] at vL;injection vL with e1 e2;subst e1 e2;injection hg with hg;subst hg;exact⟨_,setRow_heap w q cur _ E.e _ hgq,by simp only[List.toList_toArray];exact ((Mt.take _).app h32).app (Mt.drop _)⟩
   have vL:=run_append_grow (P:=ax) w E.t ty E.e i E.z ht hi hz ⟨q,0,none⟩ el.length cap _ rT (h.own.cells (g:=q) rfl) a ns.length c _ hl hnews (by omega) (by omega) (growslice_fits (by omega) cV);rw[hr] at vL;injection vL with e1 e2;subst e1 e2;injection hg with hg;subst hg;exact⟨_,dc w.drew _,by simp only[Array.toList_append,List.toList_toArray];exact ((qB.flat E.n32).app h32).app (qB.IK E.z32 _)⟩
  have f:Fr E.e w w':=.aN h3 h.n32;intro q hq;rcases List.mem_append.1 hq with hq | hq
  ·exact E.fr E.own f (h.rd q hq)
  obtain⟨k,hk,rfl⟩:=List.getElem_of_mem hq;obtain⟨_,_,_,_,h5⟩:=hx;obtain⟨_,_,_,_,h6⟩:=h5 k hk;exact E.fr E.own f h6
theorem El.Row.append {w:an} {B:Nat} {v x:ay} {el ns:List α} (h:E.Row w B v el) {ops:Array fg} {rest:List fg} {o:fg} {a:Act} {Q:Exit->Act->an->Prop} (hgd:o.guard=none) (s y:Operand)
  (ho:o.op=.call { callee:=.builtin .append,args:=#[s,y],argTypes:=#[E.t,E.t] }) (hs:a.eval s=v) (hx:a.eval y=x) (hxs:E.At w x ns) (hlen:el.length+ns.length<=1000000) (hB:B<=w.heap.size)
  (hK:∀ v' w',E.Row w' B v' (el++ns)->Fr E.e w w'->aC B w w'->w.grownBy w' v.ownBlock->wpList ax ops Q rest (a.put o.dst v') w'):wpList ax ops Q (o::rest) a w:=by
 refine wpList_plain hgd fun K hk=>?_
 obtain⟨v',w',hr,h1,h2,h3,h4⟩:=h.run hxs o.type hlen hB;unfold Oper.wp execOp;simp only[ho,resolve,invoke,builtin,Sem.run_bind,Sem.run_pure,Result.andThen_ok,List.map_toArray,A3,List.map_nil,hs,hx,hr];exact hk _ _ (hK v' w' h1 h2 h3 h4)
end
inductive V where
 | I (z:Int)
 | B (b:Bool)
 | L (l:List Int)
 deriving DecidableEq
def EC (z:Int):List Int:=if z=0 then [] else 0::(if Int.tdiv z 2=0 then [] else [Int.tdiv z 2])
def shorter (l:List Int):List (List Int):=(gQ l.length).map fun i=>l.take i++l.drop (i+1)
def GO (l:List Int):List (List Int):=(gQ l.length).flatMap fun i=>(EC (l.getD i 0)).map fun m=>l.take i++[m]++l.drop (i+1)
def Oq:V->List V
 | .I z=>(EC z).map .I
 | .B _=>[]
 | .L l=>(shorter l).map .L++(GO l).map .L
structure NU where
 o:Option cH
 l:Nat
 c:Nat
 z:Int
def nC (n:NU):List ay:=[.bool (decide (n.z<0)),.slice n.o n.l n.c]
def nV (n:NU):ay:=.agg #[.bool (decide (n.z<0)),.slice n.o n.l n.c]
def NR (w:an) (n:NU):Prop:=CI w (nV n) n.z 600
theorem CF {w:an} {v:ay} {z:Int} {k:Nat} (h:CI w v z k) (hk:k<=600):∃ n:NU,v=nV n/\n.z=z/\NR w n:=by
 have h0:=h;obtain⟨b,o,l,c,rfl⟩:=h.shape;obtain⟨va,e,_⟩:=h;injection e with e;have e0:=congrArg (fun t:Array ay=>t[0]?) e;injection e0 with e0;injection e0 with e0;refine⟨⟨o,l,c,z⟩,?_,rfl,?_⟩
 ·simp only[nV,e0]
 unfold NR nV;simp only;rw[<-e0];exact h0.mono hk
theorem EM:(Tryz.prog.info? 26).map (fun i=>(i.zero,i.size,i.bytes))=some (some (.agg #[.bool false,.slice none 0 0]),2,32):=by kernel_rfl
theorem Hp:(Tryz.prog.info? 41).map (fun i=>(i.zero,i.size,i.bytes))=some (some (.agg #[.int .i64 0,.bool false,.slice none 0 0,.bool false,.slice none 0 0]),5,72):=by kernel_rfl
def nE:El NU where
 e:=26
 t:=39
 n:=2
 b:=32
 z:=.agg #[.bool false,.slice none 0 0]
 f:=nC
 R:=NR
 ok _:=True
 pos:=by decide
 KF:=by decide
 zs:=rfl
 z32:=by intro u hu z;simp only[Value.cells,dw,cl,or_false] at hu;rcases hu with rfl | rfl<;>(intro h;cases h)
 ht:=Tryz.underlying39
 info:=EM
 len _:=rfl
 one n:=by
  intro u hu;simp only[nC,dw,cl,or_false] at hu;rcases hu with rfl | rfl<;>rfl
 n32 n:=by
  intro u hu z;simp only[nC,dw,cl,or_false] at hu;rcases hu with rfl | rfl<;>(intro h;cases h)
 fr _ f h:=CI.fr h f
 own:=trivial
structure VU where
 k:Int
 n:NU
 b:Bool
 lo:Option cH
 ll:Nat
 lc:Nat
 x:V
def vC (u:VU):List ay:=[.int .i64 u.k,.bool (decide (u.n.z<0)),.slice u.n.o u.n.l u.n.c,.bool u.b,.slice u.lo u.ll u.lc]
def vV (u:VU):ay:=.agg #[.int .i64 u.k,.bool (decide (u.n.z<0)),.slice u.n.o u.n.l u.n.c,.bool u.b,.slice u.lo u.ll u.lc]
def n0:NU:=⟨none,0,0,0⟩
def NL (w:an) (v:ay) (zs:List Int):Prop:=∃ ns,nE.At w v ns/\ns.map (·.z)=zs
def VR (w:an) (u:VU):Prop:=
 match u.x with
 | .I z=>u.k=0/\u.n.z=z/\NR w u.n/\u.b=false/\u.lo=none/\u.ll=0/\u.lc=0
 | .B b=>u.k=1/\u.n=n0/\u.b=b/\u.lo=none/\u.ll=0/\u.lc=0
 | .L zs=>u.k=2/\u.n=n0/\u.b=false/\NL w (.slice u.lo u.ll u.lc) zs
theorem NL.fr {e':bu} {w w':an} {v:ay} {zs:List Int} (h:NL w v zs) (hne:26≠e') (f:Fr e' w w'):NL w' v zs:=by
 obtain⟨ns,h1,h2⟩:=h;exact⟨ns,h1.fr trivial hne f,h2⟩
theorem NL.below {w w':an} {v:ay} {zs:List Int} (h:NL w v zs) (hb:aC w.heap.size w w'):NL w' v zs:=by
 obtain⟨ns,h1,h2⟩:=h;exact⟨ns,h1.below hb,h2⟩
theorem VR.fr {e':bu} {w w':an} {u:VU} (h:VR w u) (hne:26≠e') (f:Fr e' w w'):VR w' u:=by
 unfold VR at h ⊢
 split at h
 ·obtain⟨h1,h2,h3,h4⟩:=h;exact⟨h1,h2,CI.fr h3 f,h4⟩
 ·exact h
 obtain⟨h1,h2,h3,h4⟩:=h;exact⟨h1,h2,h3,h4.fr hne f⟩
theorem VR.below {w w':an} {u:VU} (h:VR w u) (hb:aC w.heap.size w w'):VR w' u:=h.fr (e':=153) (by decide) (Fr.oV hb)
def vE:El VU where
 e:=41
 t:=30
 n:=5
 b:=72
 z:=.agg #[.int .i64 0,.bool false,.slice none 0 0,.bool false,.slice none 0 0]
 f:=vC
 R:=VR
 ok e':=26≠e'
 pos:=by decide
 KF:=by decide
 zs:=rfl
 z32:=by intro u hu z;simp only[Value.cells,dw,cl,or_false] at hu;rcases hu with rfl | rfl | rfl | rfl | rfl<;>(intro h;cases h)
 ht:=Tryz.underlying30
 info:=Hp
 len _:=rfl
 one n:=by
  intro u hu;simp only[vC,dw,cl,or_false] at hu;rcases hu with rfl | rfl | rfl | rfl | rfl<;>rfl
 n32 n:=by
  intro u hu z;simp only[vC,dw,cl,or_false] at hu;rcases hu with rfl | rfl | rfl | rfl | rfl<;>(intro h;cases h)
 fr ok f h:=VR.fr h ok f
 own:=by decide
def VC (w:an) (v:ay) (x:V):Prop:=∃ u:VU,v=vV u/\u.x=x/\VR w u
theorem VC.fr {e':bu} {w w':an} {v:ay} {x:V} (h:VC w v x) (hne:26≠e') (f:Fr e' w w'):VC w' v x:=by
 obtain⟨u,h1,h2,h3⟩:=h;exact⟨u,h1,h2,h3.fr hne f⟩
theorem VC.below {w w':an} {v:ay} {x:V} (h:VC w v x) (hb:aC w.heap.size w w'):VC w' v x:=by
 obtain⟨u,h1,h2,h3⟩:=h;exact⟨u,h1,h2,h3.below hb⟩
def VL (w:an) (v:ay) (xs:List V):Prop:=∃ us,vE.At w v us/\us.map (·.x)=xs
theorem VC.int {w:an} {v:ay} {z:Int} (h:VC w v (.I z)):∃ o l c,v=.agg #[.int .i64 0,.bool (decide (z<0)),.slice o l c,.bool false,.slice none 0 0]/\CI w (.agg #[.bool (decide (z<0)),.slice o l c]) z 600:=by
 obtain⟨u,rfl,h1,h2⟩:=h;unfold VR at h2;rw[h1] at h2;obtain⟨h3,h4,h5,h6,h7,h8,h9⟩:=h2;refine⟨u.n.o,u.n.l,u.n.c,?_,?_⟩
 ·unfold vV;rw[h3,h4,h6,h7,h8,h9]
 unfold NR nV at h5;rw[h4] at h5;exact h5
theorem VC.bool {w:an} {v:ay} {b:Bool} (h:VC w v (.B b)):v=.agg #[.int .i64 1,.bool false,.slice none 0 0,.bool b,.slice none 0 0]:=by
 obtain⟨u,rfl,h1,h2⟩:=h;unfold VR at h2;rw[h1] at h2;obtain⟨h3,h4,h5,h7,h8,h9⟩:=h2;unfold vV;rw[h3,h4,h5,h7,h8,h9];rfl
theorem VC.list {w:an} {v:ay} {zs:List Int} (h:VC w v (.L zs)):∃ o l c,v=.agg #[.int .i64 2,.bool false,.slice none 0 0,.bool false,.slice o l c]/\NL w (.slice o l c) zs:=by
 obtain⟨u,rfl,h1,h2⟩:=h;unfold VR at h2;rw[h1] at h2;obtain⟨h3,h4,h5,h6⟩:=h2;refine⟨u.lo,u.ll,u.lc,?_,h6⟩;unfold vV;rw[h3,h4,h5];rfl
theorem VC.S4 {w:an} {v:ay} {z:Int} {k:Nat} (h:CI w v z k) (hk:k<=600):∃ o l c,v=.agg #[.bool (decide (z<0)),.slice o l c]/\VC w (.agg #[.int .i64 0,.bool (decide (z<0)),.slice o l c,.bool false,.slice none 0 0]) (.I z):=by
 obtain⟨n,rfl,rfl,hn⟩:=CF h hk;exact⟨n.o,n.l,n.c,rfl,⟨0,n,false,none,0,0,.I n.z⟩,rfl,rfl,rfl,rfl,hn,rfl,rfl,rfl,rfl⟩
theorem VC.S5 (w:an) (b:Bool):VC w (.agg #[.int .i64 1,.bool false,.slice none 0 0,.bool b,.slice none 0 0]) (.B b):=⟨⟨1,n0,b,none,0,0,.B b⟩,rfl,rfl,rfl,rfl,rfl,rfl,rfl,rfl⟩
theorem VC.S2 {w:an} {o:Option cH} {l c:Nat} {zs:List Int} (h:NL w (.slice o l c) zs):VC w (.agg #[.int .i64 2,.bool false,.slice none 0 0,.bool false,.slice o l c]) (.L zs):=⟨⟨2,n0,false,o,l,c,.L zs⟩,rfl,rfl,rfl,rfl,rfl,h⟩
theorem NL.form {w:an} {v:ay} {zs:List Int} (h:NL w v zs):∃ ko kc,v=.slice ko zs.length kc/\(zs.length<=kc/\kc<=fO)/\∀ i (hi:i<zs.length),∃ a o l c,ko=some a/\w.cell? (a.add (i*2))=some (.bool (decide (zs[i]<0)))/\w.cell? ⟨(a.add (i*2)).block,(a.add (i*2)).off+1,none⟩=some (.slice o l c)/\CI w (.agg #[.bool (decide (zs[i]<0)),.slice o l c]) zs[i] 600:=by
 obtain⟨ns,⟨ko,kc,rfl,⟨h1,h2,_⟩,h3⟩,rfl⟩:=h;refine⟨ko,kc,by simp,⟨by simpa using h1,h2⟩,fun i hi=>?_⟩;obtain⟨a,ha,-,h4,h5⟩:=h3 i (by simpa using hi);simp only[nX];exact⟨a,_,_,_,ha,h4 0 _ rfl,by have:=h4 1 _ rfl;rw[<-tI] at this;exact this,h5⟩
theorem VL.form {w:an} {v:ay} {xs:List V} (h:VL w v xs):∃ ko kc,v=.slice ko xs.length kc/\(xs.length<=kc/\kc<=fO)/\∀ i (hi:i<xs.length),∃ a k b o l c d p m q,ko=some a /\
  (w.cell? (a.add (i*5))=some (.int .i64 k)/\w.cell? ⟨(a.add (i*5)).block,(a.add (i*5)).off+1,none⟩=some (.bool b)/\w.cell? ⟨(a.add (i*5)).block,(a.add (i*5)).off+2,none⟩=some (.slice o l c)/\w.cell? ⟨(a.add (i*5)).block,(a.add (i*5)).off+3,none⟩=some (.bool d)/\w.cell? ⟨(a.add (i*5)).block,(a.add (i*5)).off+4,none⟩=some (.slice p m q)) /\
  VC w (.agg #[.int .i64 k,.bool b,.slice o l c,.bool d,.slice p m q]) xs[i]:=by
 obtain⟨us,⟨ko,kc,rfl,⟨h1,h2,_⟩,h3⟩,rfl⟩:=h;refine⟨ko,kc,by simp,⟨by simpa using h1,h2⟩,fun i hi=>?_⟩;obtain⟨a,ha,-,h4,h5⟩:=h3 i (by simpa using hi);have hi':i<us.length:=by simpa using hi
 have g:∀ j q,(vC us[i])[j]?=some q->w.cell? ((a.add (i*5)).add j)=some q:=fun j q hj=>by rw[tI];exact h4 j q hj
 simp only[nX];exact⟨a,_,_,_,_,_,_,_,_,_,ha,⟨g 0 _ rfl,g 1 _ rfl,g 2 _ rfl,g 3 _ rfl,g 4 _ rfl⟩,_,rfl,rfl,h5⟩
theorem kA {w:an} {k:Nat} (v0 v1:ay):w.grownBy ((w.setCell ⟨k,0,none⟩ v0).setCell ⟨k,1,none⟩ v1) (some k):=by
 refine aI ?_ _;refine aI ?_ _;exact aJ _ _
theorem aY {w:an} {k:Nat} (v0 v1 v2 v3 v4:ay):w.grownBy (((((w.setCell ⟨k,0,none⟩ v0).setCell ⟨k,1,none⟩ v1).setCell ⟨k,2,none⟩ v2).setCell ⟨k,3,none⟩ v3).setCell ⟨k,4,none⟩ v4) (some k):=by
 refine aI ?_ _;refine aI ?_ _;refine aI ?_ _;refine aI ?_ _;refine aI ?_ _;exact aJ _ _
theorem kX {w w':an} {B g:Nat} (h:w.grownBy w' (some g)) (hB:B<=w.heap.size) (hg:B<=g):aC B w w':=
 ⟨h.os,h.tape,h.output,h.size,fun k hk=>h.block k (by omega) (fun e=>by injection e with e;omega)⟩
theorem gh {w0 w:an} {k:Nat} {c:Array ay} (hb:aC w0.heap.size w0 w) (hB:w.heap[k]?=some (.cells c 41 (0,0))) (h32:qB c.toList) (hk:w0.heap.size<=k) (v0 v1 v2 v3 v4:ay) :
  Fr 41 w (((((w.setCell ⟨k,0,none⟩ v0).setCell ⟨k,1,none⟩ v1).setCell ⟨k,2,none⟩ v2).setCell ⟨k,3,none⟩ v3).setCell ⟨k,4,none⟩ v4)/\aC w0.heap.size w0 (((((w.setCell ⟨k,0,none⟩ v0).setCell ⟨k,1,none⟩ v1).setCell ⟨k,2,none⟩ v2).setCell ⟨k,3,none⟩ v3).setCell ⟨k,4,none⟩ v4):=
 ⟨.aN (aY v0 v1 v2 v3 v4) (fun g hg=>by injection hg with hg;subst hg;exact⟨_,hB,h32⟩),hb.trans ((kX (aY v0 v1 v2 v3 v4) (Nat.le_of_lt (by have:=ag hB;omega)) hk).mono (ak _))⟩
theorem mM {w0 w:an} {k:Nat} {c:Array ay} (hb:aC w0.heap.size w0 w) (hB:w.heap[k]?=some (.cells c 26 (0,0))) (h32:qB c.toList) (hk:w0.heap.size<=k) (v0 v1:ay) :
  Fr 26 w ((w.setCell ⟨k,0,none⟩ v0).setCell ⟨k,1,none⟩ v1)/\aC w0.heap.size w0 ((w.setCell ⟨k,0,none⟩ v0).setCell ⟨k,1,none⟩ v1):=
 ⟨.aN (kA v0 v1) (fun g hg=>by injection hg with hg;subst hg;exact⟨_,hB,h32⟩),hb.trans ((kX (kA v0 v1) (Nat.le_of_lt (by have:=ag hB;omega)) hk).mono (ak _))⟩
theorem jP {b:Bool} {o:Option cH} {l c:Nat}:qB (#[Value.bool b,.slice o l c]:Array ay).toList:=by
 intro u hu z;simp only[dw,cl,or_false] at hu;rcases hu with rfl | rfl<;>(intro h;cases h)
theorem eF {k:Int} {b d:Bool} {o p:Option cH} {l c m q:Nat}:qB (#[Value.int .i64 k,.bool b,.slice o l c,.bool d,.slice p m q]:Array ay).toList:=by
 intro u hu z;simp only[dw,cl,or_false] at hu;rcases hu with rfl | rfl | rfl | rfl | rfl<;>(intro h;cases h)
theorem aL (w:an) (c:Array ay) (T:bu):∃ w1 k,w.alloc (.cells c T)=w1/\w.heap.size=k/\Hid (aC w.heap.size w w1)/\Hid (w.heap.size<=k)/\Hid (w1.heap[k]?=some (.cells c T (0,0))):=
 ⟨_,_,rfl,rfl,aa ((av _ _).alloc (ak _) _),aa (ak _),aa (dc w _)⟩
theorem aG {w w':an} {k:Nat} {o:Obj} (hb:aC w.heap.size w w') (h:Hid (w.heap[k]?=some o)):Hid (w'.heap[k]?=some o):=aa ((hb.block _ (ag h.out)).trans h.out)
theorem gw {w:an} {g:Nat} {T:bu} {a b:ay} (h:w.heap[g]?=some (.cells #[a,b] T (0,0))) :
  w.cell? ⟨g,0,none⟩=some a/\w.cell? ⟨g,1,none⟩=some b/\w.frozen? ⟨g,0,none⟩=false/\w.frozen? ⟨g,1,none⟩=false:=
 ⟨ae h 0 rfl,ae h 1 rfl,af h 0,af h 1⟩
theorem aV {w:an} {g:Nat} {T:bu} {a b c d e:ay} (h:w.heap[g]?=some (.cells #[a,b,c,d,e] T (0,0))) :
  (w.cell? ⟨g,0,none⟩=some a/\w.cell? ⟨g,1,none⟩=some b/\w.cell? ⟨g,2,none⟩=some c/\w.cell? ⟨g,3,none⟩=some d/\w.cell? ⟨g,4,none⟩=some e) /\
  w.frozen? ⟨g,0,none⟩=false/\w.frozen? ⟨g,1,none⟩=false/\w.frozen? ⟨g,2,none⟩=false/\w.frozen? ⟨g,3,none⟩=false/\w.frozen? ⟨g,4,none⟩=false:=
 ⟨⟨ae h 0 rfl,ae h 1 rfl,ae h 2 rfl,ae h 3 rfl,ae h 4 rfl⟩,af h 0,af h 1,af h 2,af h 3,af h 4⟩
theorem AB (va:ay) (z:Int) (k:Nat) (w:an) (hx:GI w va z k) (hk:k<=600) :
  bf ax 108 #[va] w fun e w'=>∃ v,e=.returned v/\CI w' v z k/\aC w.heap.size w w':=by
 obtain⟨b,ao,l,c,n,rfl,hg,rfl⟩:=hx.shape;go_enter Tryz.func108,Tryz.ntmps108
 obtain⟨w1,k1,e1,Cz,dm,nB,cP⟩:=aL w #[.bool b,.slice ao l c] 26;obtain⟨w2,k2,e2,Dm,cV,fA,dZ⟩:=aL w1 #[.bool false,.slice none 0 0] 26;replace cP:=aG cV.out cP;have ct:=aa (dm.out.trans (cV.out.mono dm.out.size));have sK:w.heap.size<=k2:=aq dm.out.size fA.out;have HK:=aa sK;have eV:=aa (hg.below ct.out);clear sK hg hx;obtain⟨c0,c1,f0,f1⟩:=gw cP.out;go_wp2_with fail
 refine (mA b _ n k w2 eV.out (by omega)).mono ?_;rintro e w3 ⟨v,rfl,hc,jf⟩;obtain⟨b2,o2,l2,d2,rfl⟩:=hc.shape;replace dZ:=aG jf dZ;replace ct:=aa (ct.out.trans (jf.mono ct.out.size));have HC:=aa hc;clear hc jf c0 c1 f0 f1;obtain⟨c0,c1,f0,f1⟩:=gw dZ.out;go_wp2_with fail
 obtain⟨r1,r2⟩:=mM ct.out dZ.out jP HK.out (.bool b2) (.slice o2 l2 d2);exact aB (v:=.agg #[.bool b2,.slice o2 l2 d2]) (by simp[results,Tryz.results108,go_sem,c0,c1]) rfl ⟨_,rfl,HC.out.fr r1,r2⟩
theorem j_ (va:ay) (z:Int) (k:Nat) (w:an) (hx:GI w va z k) (hk:k<=600) :
  bf ax 54 #[va] w fun e w'=>∃ v,e=.returned v/\VC w' v (.I z)/\aC w.heap.size w w':=by
 obtain⟨b,ao,l,c,n,rfl,hg,rfl⟩:=hx.shape;go_enter Tryz.func54,Tryz.ntmps54
 obtain⟨w1,k1,e1,Cz,dm,nB,cP⟩:=aL w #[.bool b,.slice ao l c] 26;obtain⟨w2,k2,e2,Dm,cV,fA,dZ⟩:=aL w1 #[.int .i64 0,.bool false,.slice none 0 0,.bool false,.slice none 0 0] 41;replace cP:=aG cV.out cP;have ct:=aa (dm.out.trans (cV.out.mono dm.out.size));have sK:w.heap.size<=k2:=aq dm.out.size fA.out;have HK:=aa sK;have nR:=aa (hx.below ct.out);clear sK hg hx;obtain⟨c0,c1,f0,f1⟩:=gw cP.out;go_wp2_with fail
 refine (AB _ _ k w2 nR.out hk).mono ?_;rintro e w3 ⟨v,rfl,hc,jf⟩;obtain⟨o2,l2,d2,rfl,hv⟩:=VC.S4 hc hk;replace dZ:=aG jf dZ;replace ct:=aa (ct.out.trans (jf.mono ct.out.size));have HC:=aa hv;clear hc jf hv c0 c1 f0 f1;obtain⟨⟨c0,c1,c2,c3,c4⟩,f0,f1,f2,f3,f4⟩:=aV dZ.out;go_wp2_with fail
 obtain⟨r1,r2⟩:=gh ct.out dZ.out eF HK.out (.int .i64 0) (.bool (decide (sg b n<0))) (.slice o2 l2 d2) (.bool false) (.slice none 0 0);exact aB (v:=.agg #[.int .i64 0,.bool (decide (sg b n<0)),.slice o2 l2 d2,.bool false,.slice none 0 0]) (by simp[results,Tryz.results54,go_sem,c0,c1,c2,c3,c4]) rfl ⟨_,rfl,HC.out.fr (by decide) r1,r2⟩
theorem jb (b:Bool) (w:an) :
  bf ax 62 #[.bool b] w fun e w'=>∃ v,e=.returned v/\VC w' v (.B b)/\aC w.heap.size w w':=by
 go_enter Tryz.func62,Tryz.ntmps62
 obtain⟨w2,k2,e2,Dm,cV,fA,dZ⟩:=aL w #[.int .i64 0,.bool false,.slice none 0 0,.bool false,.slice none 0 0] 41;obtain⟨⟨c0,c1,c2,c3,c4⟩,f0,f1,f2,f3,f4⟩:=aV dZ.out;go_wp2_with fail
 obtain⟨r1,r2⟩:=gh cV.out dZ.out eF fA.out (.int .i64 1) (.bool false) (.slice none 0 0) (.bool b) (.slice none 0 0);exact aB (v:=.agg #[.int .i64 1,.bool false,.slice none 0 0,.bool b,.slice none 0 0]) (by simp[results,Tryz.results62,go_sem,c0,c1,c2,c3,c4]) rfl ⟨_,rfl,VC.S5 _ _,r2⟩
theorem tX (va vb:ay) (y z:Int) (k1 k2:Nat) (w:an) (hx:GI w va y k1) (hy:GI w vb z k2) (h1:k1<=1000) (h2:k2<=1000) :
  bf ax 88 #[va,vb] w fun e w'=>e=.returned (.bool (decide (y=z)))/\aC w.heap.size w w':=by
 obtain⟨b,ao,l,c,n,rfl,hg,rfl⟩:=hx.shape;obtain⟨d,bo,m,q,p,rfl,Mo,rfl⟩:=hy.shape;go_enter Tryz.func88,Tryz.ntmps88
 obtain⟨w1,k1,e1,Cz,dm,nB,cP⟩:=aL w #[.bool b,.slice ao l c] 26;obtain⟨w2,k2,e2,Dm,cV,fA,dZ⟩:=aL w1 #[.bool d,.slice bo m q] 26;replace cP:=aG cV.out cP;have ct:=aa (dm.out.trans (cV.out.mono dm.out.size));have nR:=aa (hx.below ct.out);have Bq:=aa (hy.below ct.out);clear hg Mo hx hy;obtain⟨c0,c1,f0,f1⟩:=gw cP.out;obtain⟨d0,d1,g0,g1⟩:=gw dZ.out;go_wp2_with fail
 refine (vY _ _ _ _ _ _ w2 nR.out Bq.out (by omega) (by omega)).mono ?_;rintro e w3 ⟨rfl,jf⟩;replace ct:=aa (ct.out.trans (jf.mono ct.out.size))
 have hs:(eK (sg b n - sg d p)==0)=decide (sg b n=sg d p):=by
  unfold eK
  by_cases h:sg b n=sg d p
  ·rw[if_pos (by omega),decide_eq_true h];rfl
  rw[if_neg (by omega),decide_eq_false h];split<;>rfl
 go_wp2_with fail
 go_ret
 exact⟨by simp only[decide_eq_true_eq] at hs ⊢;rw[<-hs];rfl,ct.out⟩
theorem qi (w:an):NR w n0:=⟨.slice none 0 0,rfl,by
 rw[show fx aH n0.z.natAbs=[] from by simp[n0,fe]]
 exact⟨none,0,rfl,ak _,au _,fun _=>rfl,fun i hi=>absurd hi (ah _)⟩,eP (k:=0) (k':=600) (by decide) (by decide)⟩
def v0:VU:=⟨0,n0,false,none,0,0,.I 0⟩
theorem Oj (w:an):VR w v0:=⟨rfl,rfl,qi w,rfl,rfl,rfl,rfl⟩
section
variable {α:Type} {E:El α}
theorem x_ (E:El α) (a:α) (ha:E.f a=E.z.cells.toList) (n:Nat):(madeCells E.z.cells (n*E.n)).toList=(bA n a).flatMap E.f:=by
 apply List.ext_getElem?
 intro j;have hp:=E.pos;have hl:=mH E.f E.len (bA n a);rw[iB] at hl
 by_cases hj:j<n*E.n
 ·have hi:j / E.n<n:=(Nat.div_lt_iff_lt_mul hp).2 hj;have hm:j % E.n<E.n:=di _ hp;have hd:j / E.n*E.n+j % E.n=j:=by rw[Nat.mul_comm];exact Nat.div_add_mod j E.n
  have h1:=lU E.f E.len (bA n a) (j / E.n) (j % E.n) (by simpa using hi) hm;rw[hd,List.getElem_replicate,ha] at h1;rw[h1];have TE:j % E.z.cells.size<E.z.cells.size:=di _ (by rw[E.zs];exact hp);rw[Array.getElem?_toList];simp only[madeCells,Array.getElem?_map,Array.getElem?_range,hj,if_true,Option.map_some];rw[getElem!_pos E.z.cells _ TE];simp only[<-E.zs]
  simp
 rw[gm (by simp[size_madeCells];omega),gm (by rw[hl];omega)]
theorem qF (E:El α) (a0:α) (ha:E.f a0=E.z.cells.toList) (hR:∀ w,E.R w a0) (w:an) {ops:Array fg} {rest:List fg} {o:fg} {a:Act} {Q:Exit->Act->an->Prop}
  (hg:o.guard=none) (l c:Operand) (hop:o.op=Op.makeSlice E.t l c) (B:Nat) (kl kc:IntKind) (L C:Int) (n:Nat) (hl:a.eval l=.int kl L) (hc:a.eval c=.int kc C) (hL:L=(n:Int)) (hC:C=(n:Int)) (hn:n<=1000000) (hB:B<=w.heap.size)
  (hK:∀ w',E.Row w' B (.slice (some ⟨w.heap.size,0,none⟩) n n) (bA n a0)->aC w.heap.size w w'->wpList ax ops Q rest (a.put o.dst (.slice (some ⟨w.heap.size,0,none⟩) n n)) w') :
  wpList ax ops Q (o::rest) a w:=by
 obtain⟨i,hi,hz,jK,tN⟩:=oI E.info;have hby:=E.KF;refine wpList_make_full w hg l c E.t hop B E.e i E.z E.n E.ht hi hz jK kl kc L C n hl hc hL hC (by rw[tN];exact aq (lj hby hn) (by decide)) (by unfold fO;omega) hB ?_;intro w' h1 h2;have h3:=h1;rw[x_ E a0 ha] at h3;refine hK w' ⟨?_,?_,?_⟩ ⟨h2.os,h2.tape,h2.output,h2.size,fun k hk=>h2.block k hk (by intro e;cases e)⟩
 ·rw[iB];exact h3
 ·intro g hg;rcases h1.2 with ⟨h,_⟩ | ⟨q,cap,cur,hv,_,hq,_,_,hcs,uQ⟩
  ·cases h
  injection hv with e1 e2 e3;injection e1 with e1;subst e3;injection hg with hg;have Tu:q=g:=by rw[<-hg,e1]
  subst Tu;refine⟨cur,hq,?_⟩;rw[List.take_of_length_le (by rw[Array.length_toList,hcs];exact ak _),x_ E a0 ha] at uQ;rw[uQ];exact qB.flat E.n32
 intro q hq;rw[List.eq_of_mem_replicate hq];exact hR w'
theorem C0 (l:List NU) (i:Nat) (a:NU) (hi:i<l.length):((l.flatMap nC).set (i*2) (.bool (decide (a.z<0)))).set (i*2+1) (.slice a.o a.l a.c)=(l.set i a).flatMap nC:=by
 induction l generalizing i with
 | nil=>simp at hi
 | cons b l ih =>
  cases i with
  | zero=>rfl
  | succ i =>
   have h1:=ih i (by simpa using hi);simp only[eT,nC,jV,List.nil_append,List.set_cons_succ,cL,Nat.one_mul,show i*2+2=i*2+1+1 from rfl,show i*2+1+1+1=(i*2+1)+1+1 from rfl];rw[<-h1]
theorem pM {c:Array ay} (h:qB c.toList) (i:Nat) {v:ay} (hv:∀ z,v ≠ .int .u32 z):qB (c.setIfInBounds i v).toList:=by
 intro u hu;rw[oK] at hu;rcases AQ hu with hu | rfl
 ·exact h u hu
 exact hv
theorem El.Row.put {w:an} {B g n kc:Nat} {el:List α} (h:E.Row w B (.slice (some ⟨g,0,none⟩) n kc) el) {w':an} (i:Nat) (a:α) (hg:w.grownBy w' (some g)) (hown:w'.ownsRow B E.e E.n (.slice (some ⟨g,0,none⟩) n kc) n ((el.set i a).flatMap E.f))
  (h32:∃ c,w'.heap[g]?=some (.cells c E.e (0,0))/\qB c.toList) (hn:n=el.length) (ha:E.R w a):E.Row w' B (.slice (some ⟨g,0,none⟩) n kc) (el.set i a)/\Fr E.e w w':=by
 have f:Fr E.e w w':=.aN hg (fun q hq=>by injection hq with hq;subst hq;exact h.n32 g rfl);refine⟨⟨by rw[List.length_set,<-hn];exact hown,fun q hq=>?_,fun q hq=>?_⟩,f⟩
 ·injection hq with hq;subst hq;exact h32
 rcases AQ hq with hq | rfl
 ·exact E.fr E.own f (h.rd q hq)
 exact E.fr E.own f ha
end
theorem Row.vm {w:an} {B g n kc:Nat} {el:List NU} (h:nE.Row w B (.slice (some ⟨g,0,none⟩) n kc) el) (i:Nat) (hi:i<el.length) (hn:n=el.length) (a:NU) (ha:NR w a) :
  nE.Row ((w.setCell ⟨g,i*2,none⟩ (.bool (decide (a.z<0)))).setCell ⟨g,i*2+1,none⟩ (.slice a.o a.l a.c)) B (.slice (some ⟨g,0,none⟩) n kc) (el.set i a)/\Fr nE.e w ((w.setCell ⟨g,i*2,none⟩ (.bool (decide (a.z<0)))).setCell ⟨g,i*2+1,none⟩ (.slice a.o a.l a.c))/\w.grownBy ((w.setCell ⟨g,i*2,none⟩ (.bool (decide (a.z<0)))).setCell ⟨g,i*2+1,none⟩ (.slice a.o a.l a.c)) (some g):=by
 have hg:w.grownBy ((w.setCell ⟨g,i*2,none⟩ (.bool (decide (a.z<0)))).setCell ⟨g,i*2+1,none⟩ (.slice a.o a.l a.c)) (some g):=by
  refine aI ?_ _;refine aI ?_ _;exact aJ _ _
 have h0:=h.own;rw[<-hn] at h0;have h1:=(gF (gF h0 (i*2) (.bool (decide (a.z<0)))).1 (i*2+1) (.slice a.o a.l a.c)).1;have h2:=C0 el i a hi;have e:nE.f=nC:=rfl;rw[e,h2] at h1;obtain⟨c,hc,h32⟩:=h.n32 g rfl;obtain⟨q1,q2⟩:=h.put i a hg h1 ⟨_,aF _ g _ _ _ _ (aF _ g _ _ _ _ hc),pM (pM h32 _ (by intro z e;cases e)) _ (by intro z e;cases e)⟩ hn ha;exact⟨q1,q2,hg⟩
theorem NL.cells {w:an} {ko:Option cH} {n kc:Nat} {zs:List Int} (h:NL w (.slice ko n kc) zs):(n=zs.length/\n<=kc/\kc<=fO)/\∀ i (hi:i<zs.length),∃ a o l c,ko=some a/\w.cell? (a.add (i*2))=some (.bool (decide (zs[i]<0)))/\w.cell? ⟨(a.add (i*2)).block,(a.add (i*2)).off+1,none⟩=some (.slice o l c)/\CI w (.agg #[.bool (decide (zs[i]<0)),.slice o l c]) zs[i] 600:=by
 obtain⟨EG,Bn,e,⟨h1,h2⟩,h3⟩:=h.form;injection e with e1 e2 e3;subst e1;subst e2;subst e3;exact⟨⟨rfl,h1,h2⟩,h3⟩
theorem yC {el:List NU} {zs:List Int} {j:Nat} {n:NU} (h:(el.take j).map (·.z)=zs.take j) (hj:j<el.length) (hz:j<zs.length) (hn:n.z=zs[j]):((el.set j n).take (j+1)).map (·.z)=zs.take (j+1):=by
 rw[bH (by simpa using hj),List.take_set_of_le (ak _),List.getElem_set_self,dN,h,bH hz]
 simp[hn]
theorem Row.UO {w:an} {B g n kc:Nat} {el:List NU} (h:nE.Row w B (.slice (some ⟨g,0,none⟩) n kc) el) (hn:n=el.length) {i:Nat} (hi:i<n):∃ q:NU,w.cell? ⟨g,i*2,none⟩=some (.bool (decide (q.z<0)))/\w.cell? ⟨g,i*2+1,none⟩=some (.slice q.o q.l q.c)/\w.frozen? ⟨g,i*2,none⟩=false/\w.frozen? ⟨g,i*2+1,none⟩=false:=by
 have h0:=h.own;rw[<-hn] at h0;refine⟨el[i]'(by omega),?_,?_,World.ownsRow.frozenAt h0 _,World.ownsRow.frozenAt h0 _⟩
 ·rw[lC h0 (i*2) (by show i*2<n*2;omega)];exact lU (n:=2) nC (fun _=>rfl) el i 0 (by omega) (by decide)
 rw[lC h0 (i*2+1) (by show i*2+1<n*2;omega)];exact lU (n:=2) nC (fun _=>rfl) el i 1 (by omega) (by decide)
def M9 (w:an) (k1 k2 k3 n:Nat) (zs:List Int) (i:ay) (wr:an):Prop:=
 ∃ (j:Nat) (el:List NU),i=.int .i64 (j:Nat)/\j<=n/\Hid (el.length=n/\(el.take j).map (·.z)=zs.take j)/\Hid (nE.Row wr w.heap.size (.slice (some ⟨k2,0,none⟩) n n) el) /\
  Hid (wr.heap[k1]?=some (.cells #[.int .i64 0,.bool false,.slice none 0 0,.bool false,.slice none 0 0] 41 (0,0)))/\Hid (wr.heap[k3]?=some (.cells #[.int .i64 2,.bool false,.slice none 0 0,.bool false,.slice (some ⟨k2,0,none⟩) n n] 41 (0,0)))/\Hid (aC w.heap.size w wr)
theorem oW (va:ay) (zs:List Int) (w:an) (hx:NL w va zs) (hlen:zs.length<=100000) :
  bf ax 61 #[va] w fun e w'=>∃ v,e=.returned v/\VC w' v (.L zs)/\aC w.heap.size w w':=by
 obtain⟨ko,kc,rfl,⟨hq1,hq2⟩,-⟩:=hx.form;have HX:=aa hx;clear hx;obtain⟨n,hn⟩:∃ n,n=zs.length:=⟨_,rfl⟩
 rw[<-hn] at hlen hq1 HX ⊢;have DJ:kc<=9223372036854775807:=hq2;have HN:=aa hn;clear hn;go_enter Tryz.func61,Tryz.ntmps61
 obtain⟨x1,k1,e1,Cz,dm,nB,cP⟩:=aL w #[.int .i64 0,.bool false,.slice none 0 0,.bool false,.slice none 0 0] 41;obtain⟨k2,Fe⟩:∃ k,x1.heap.size=k:=⟨_,rfl⟩
 have O5:w.heap.size<=k2:=by rw[<-Fe];exact dm.out.size
 have TN:k1<k2:=by rw[<-Fe];exact ag cP.out
 go_wp2_with (first | (at_make;refine qF nE n0 rfl qi _ rfl _ _ rfl w.heap.size _ _ _ _ n rfl rfl (by first | rfl | simp) (by first | rfl | simp) (by omega) dm.out.size ?_;intro y2 hrow cV) | fail)
 rw[Fe] at hrow cV;replace cV:aC x1.heap.size x1 y2:=by rw[Fe];exact cV
 obtain⟨x3,k3,e3,PY,jf,rz,xM⟩:=aL y2 #[.int .i64 2,.bool false,.slice none 0 0,.bool false,.slice (some ⟨k2,0,none⟩) n n] 41;replace cP:=aG jf.out (aG cV cP);have HW:=aa (dm.out.trans ((cV.trans (jf.out.mono cV.size)).mono dm.out.size));have HR:=aa (hrow.below jf.out)
 skip
 have h23:k2<k3:=by rw[<-PY];exact (hrow.ge rfl).2
 have h23:=h23;clear hrow cV
 try rw[Fe]
 rw[e3,PY];clear e3 PY e1 Cz
 go_loopw [12] (M9 w k1 k2 k3 n zs) (fun i _=>n - (fH i).toNat)
 case atStart=>exact⟨0,_,rfl,au _,aa ⟨iB,rfl⟩,HR,cP,xM,HW⟩
 case round =>
  clear HR cP xM HW dm jf;obtain⟨j,el,rfl,hj,HE,HR,cP,xM,HW⟩:=hrel
  by_cases hlt:j<n
  ·have hz:j<zs.length:=by rw[<-HN.out];exact hlt
   obtain⟨a,o,l,c,rfl,c0,c1,hc⟩:=(HX.out.below HW.out).cells.2 j hz;obtain⟨z,Da⟩:∃ z,z=zs[j]:=⟨_,rfl⟩
   rw[<-Da] at c0 hc;have HZ:=aa Da;have HC:=aa hc;clear Da hc;obtain⟨pA,k5,e5,Us,uh,TM,nU⟩:=aL wr #[.bool (decide (z<0)),.slice o l c] 26;replace cP:=aG uh.out cP;replace xM:=aG uh.out xM;replace HC:=aa (HC.out.below uh.out);replace HR:=aa (HR.out.below uh.out);replace HW:=aa (HW.out.trans (uh.out.mono HW.out.size));go_upto_region 5 with fail
   clear c0 c1;have I8:=ag xM.out;have I7:=ag nU.out;have fK:Hid (∀ q,q<0->(fun q=>0) q<pA.heap.size):=aa (fun q h=>absurd h (ah _));refine R7.region (by kernel_rfl) [[],[0],[],[],[3],[0,1,2,3,4],[0,1,2,3,4,5]] [] [] (fun q=>0) 0 6 (by kernel_rfl) (by kernel_rfl) (by rfl) fK.out (fun q q' h h' hn=>absurd hn (by omega)) ?_;refine R7.az.bT ?_ (by rfl) (fun T xs wr hA=>?_) ?_
   rotate_left 1
   ·have e3:=hA.pre 3 (by kernel_rfl);simp only[eY,fD,fm] at e3;clear hA;refine⟨(by rfl),?_⟩;go_simp<;>(try with_reducible rfl)
   refine R7.az.bT ?_ (by rfl) (fun T xs wr hA=>?_) ?_
   rotate_left 1
   ·have vO:=hA.tm 0 17 (by rfl) (by rfl);have f17:xs 0=_:=hA.fa 0 (by rfl)
    (try simp (disch:=first | rfl | decide) only [R7.ai] at f17)
    rw[f17] at vO;clear f17;have aP:wr.heap[k3]?=_:=(hA.bl _ I8 (fun q h=>absurd h (ah _))).trans xM.out;have q0:=ae (v:=.int .i64 2) aP 0 rfl;have q1:=ae (v:=.bool false) aP 1 rfl;have q2:=ae (v:=.slice none 0 0) aP 2 rfl;have q3:=ae (v:=.bool false) aP 3 rfl;have q4:=ae (v:=.slice (some ⟨k2,0,none⟩) n n) aP 4 rfl;clear aP;clear hA;refine⟨(by rfl),?_⟩;go_simp<;>(try with_reducible rfl)
   refine R7.az.bT ?_ (by rfl) (fun T xs wr hA=>?_) ?_
   rotate_left 1
   ·have e4:=hA.pre 4 (by kernel_rfl);simp only[eY,fD,fm] at e4;clear hA;refine⟨(by rfl),?_⟩;go_simp<;>(try with_reducible rfl)
   refine R7.az.bT ?_ (by rfl) (fun T xs wr hA=>?_) ?_
   rotate_left 1
   ·have e5:=hA.pre 5 (by kernel_rfl);simp only[eY,fD,fm] at e5;have aP:wr.heap[k5]?=_:=(hA.bl _ I7 (fun q h=>absurd h (ah _))).trans nU.out;have q0:=ae (v:=.bool (decide (z<0))) aP 0 rfl;have q1:=ae (v:=.slice o l c) aP 1 rfl;clear aP;clear hA;refine⟨(by rfl),?_⟩;go_simp<;>(try with_reducible rfl)
   refine R7.az.call (fun xs v w=>∃ m:NU,v=nV m/\m.z=z/\NR w m) (fun _ _ _ _ h hb=>by obtain⟨m,h1,h2,h3⟩:=h;exact⟨m,h1,h2,nE.below h3 hb⟩) (fun _ _ _ _ _ _ h _=>by obtain⟨q,hq,_⟩:=h;exact absurd hq (ah _)) (by rfl) (fun T xs wr hA=>?_) ?_
   ·have ki:=(hA.be 0 (au _) (fun _ _=>au _)).size;have Jl:=hA.tm 3 20 (by rfl) (by rfl);have f20:xs 3=_:=hA.fa 3 (by rfl)
    (try simp (disch:=first | rfl | decide) only [R7.ai] at f20)
    rw[f20] at Jl;clear f20;have dK:=aT (hA.be pA.heap.size (ak _) (fun q h=>absurd h (ah q)));clear hA;refine⟨(by rfl),fun K hK=>?_⟩;go_simp
    refine (AB _ z 600 wr (HC.out.below dK).gi (by decide)).mono ?_;rintro e w' ⟨v,rfl,hc,hb'⟩;exact hK.out _ _ (CF hc (by decide)) hb'
   refine R7.az.bT ?_ (by rfl) (fun T xs wr hA=>?_) ?_
   rotate_left 1
   ·have MY:=hA.tm 1 18 (by rfl) (by rfl);have f18:xs 1=_:=hA.fa 1 (by rfl)
    (try simp (disch:=first | rfl | decide) only [R7.ai] at f18)
    rw[f18] at MY;clear f18;have Jm:=hA.tm 2 19 (by rfl) (by rfl);have f19:xs 2=_:=hA.fa 2 (by rfl)
    (try simp (disch:=first | rfl | decide) only [R7.ai] at f19)
    rw[f19] at Jm;clear f19;clear hA;refine⟨(by rfl),?_⟩;go_simp<;>(try with_reducible rfl)
   refine R7.az.done (fun xs DR hL=>?_);obtain⟨⟨ei,cG⟩,hf,-,-⟩:=hL;have f0:xs 0=_:=hf 0 (by decide)
   (try simp (disch:=first | rfl | decide) only [R7.ai] at f0)
   have f1:xs 1=_:=hf 1 (by decide)
   (try simp (disch:=first | rfl | decide) only [R7.ai] at f1)
   have f2:xs 2=_:=hf 2 (by decide)
   (try simp (disch:=first | rfl | decide) only [R7.ai] at f2)
   have f3:xs 3=_:=hf 3 (by decide)
   (try simp (disch:=first | rfl | decide) only [R7.ai] at f3)
   have F4:∃ m:NU,(xs 4)=nV m/\m.z=z/\NR DR m:=hf 4 (by decide);have f5:xs 5=_:=hf 5 (by decide)
   (try simp (disch:=first | rfl | decide) only [R7.ai] at f5)
   have hb0:aC 0 pA DR:=aT (ei 0 (au _) (fun _ _=>au _));have jR:∀ j,j<pA.heap.size->(∀ q,q<0->(fun q=>0) q≠j)->DR.heap[j]?=pA.heap[j]?:=cG;clear ei cG hf;have hb:aC pA.heap.size pA DR:=⟨hb0.os,hb0.tape,hb0.output,hb0.size,fun q hq=>jR q hq (fun q h=>absurd h (ah _))⟩
   refine R7.g_ (by decide) (by kernel_rfl) ?_;simp only[R7.fill,Cb,Ca,B_,B9,xz,xy,xx,f0,f1,f2,f3,f5];clear hb0 jR fK I8 I7 f0 f1 f2 f3 f5;replace cP:=aG hb cP;replace xM:=aG hb xM;replace nU:=aG hb nU;replace HC:=aa (HC.out.below hb);replace HR:=aa (HR.out.below hb);replace HW:=aa (HW.out.trans (hb.mono HW.out.size));replace hb:=aa hb;obtain⟨m,hv,hm,hr⟩:=F4;rw[show (0+1+1+1+1:Nat)=4 from rfl,hv];have HM:=aa hm;have Vf:=aa hr;have hel:=HE.out.1;have Jw:=aa hel;obtain⟨q,g0,g1,g2,g3⟩:=Row.UO HR.out hel.symm hlt;clear hv hm hr hel;simp only[nV];go_wp2_with fail
   go_roundw
   case rel =>
    obtain⟨r1,r2,r3⟩:=Row.vm HR.out j (by rw[Jw.out];exact hlt) Jw.out.symm m Vf.out
    skip
    refine⟨j+1,el.set j m,by go_num,hlt,aa ⟨by rw[List.length_set];exact Jw.out,yC HE.out.2 (by rw[Jw.out];exact hlt) hz (by rw[HM.out,HZ.out])⟩,aa r1,aa ((r3.block _ (ag cP.out) (fun e=>by injection e with e;omega)).trans cP.out),aa ((r3.block _ (ag xM.out) (fun e=>by injection e with e;omega)).trans xM.out),aa (HW.out.trans ((kX r3 HW.out.size O5).mono (ak _)))⟩
   case measure=>simp[fH];omega
  have e:j=n:=by omega
  subst e;clear hlt;have c0:=ae (v:=.int .i64 0) cP.out 0 rfl;have bM:=af cP.out 0;have c1:=ae (v:=.bool false) cP.out 1 rfl;have bL:=af cP.out 1;have c2:=ae (v:=.slice none 0 0) cP.out 2 rfl;have bK:=af cP.out 2;have c3:=ae (v:=.bool false) cP.out 3 rfl;have bJ:=af cP.out 3;have c4:=ae (v:=.slice none 0 0) cP.out 4 rfl;have bI:=af cP.out 4;have d0:=ae (v:=.int .i64 2) xM.out 0 rfl;have rB:=af xM.out 0;have d1:=ae (v:=.bool false) xM.out 1 rfl;have xp:=af xM.out 1;have d2:=ae (v:=.slice none 0 0) xM.out 2 rfl;have Fs:=af xM.out 2;have d3:=ae (v:=.bool false) xM.out 3 rfl;have Fq:=af xM.out 3;have d4:=ae (v:=.slice (some ⟨k2,0,none⟩) j j) xM.out 4 rfl;have Fp:=af xM.out 4;go_wp2_with fail
  obtain⟨r1,r2⟩:=gh HW.out cP.out eF nB.out (.int .i64 2) (.bool false) (.slice none 0 0) (.bool false) (.slice (some ⟨k2,0,none⟩) j j);have ht:NL wr (.slice (some ⟨k2,0,none⟩) j j) zs:=⟨el,HR.out.at,by have e:=HE.out.2;rwa [<-HE.out.1,bD,HE.out.1,HN.out,bD] at e⟩
  exact aB (v:=.agg #[.int .i64 2,.bool false,.slice none 0 0,.bool false,.slice (some ⟨k2,0,none⟩) j j]) (by simp[results,Tryz.results61,go_sem,c0,c1,c2,c3,c4]) rfl ⟨_,rfl,(VC.S2 ht).fr (by decide) r1,r2⟩
theorem wg {α:Type} {L M:List α} {k:Nat} (h:L.take k=M.take k) (h1:k<L.length) (h2:k<M.length) (e:L[k]=M[k]):L.take (k+1)=M.take (k+1):=by
 rw[bH h1,bH h2,h,e]
theorem Fv (va vb:ay) (L M:List Int) (w:an) (h1:NL w va L) (h2:NL w vb M) :
  bf ax 89 #[va,vb,.func (.func 88) #[] #[]] w fun e w'=>e=.returned (.bool (decide (L=M)))/\aC w.heap.size w w':=by
 obtain⟨ko,kc,rfl,⟨hq1,hq2⟩,-⟩:=h1.form;obtain⟨po,pc,rfl,⟨hr1,vL⟩,-⟩:=h2.form;have DJ:kc<=9223372036854775807:=hq2;have TD:pc<=9223372036854775807:=vL;have HX:=aa h1;have HY:=aa h2;clear h1 h2 hq2 vL
 by_cases hl:L.length=M.length
 ·have hne:(((L.length:Nat):Int) != ((M.length:Nat):Int))=false:=by rw[hl];exact bne_self_eq_false _
  have HL:=aa hl;obtain⟨n,hn⟩:∃ n,n=L.length:=⟨_,rfl⟩
  rw[<-hn] at HL hne hq1 HX ⊢;obtain⟨n',hn'⟩:∃ n,n=M.length:=⟨_,rfl⟩
  rw[<-hn'] at HL hne hr1 HY ⊢;have HN:=aa hn;have Nj:=aa hn';clear hl hn hn';go_enter Tryz.func89,Tryz.ntmps89
  go_wp2_with fail
  clear hne
  go_loopw [17] (fun i wr=>∃ j:Nat,i=.int .i64 (j:Nat)/\j<=n/\Hid (L.take j=M.take j)/\Hid (aC w.heap.size w wr)) (fun i _=>n - (fH i).toNat)
  case atStart=>exact⟨0,rfl,au _,aa rfl,aa (av _ _)⟩
  case round =>
   obtain⟨j,rfl,hj,HT,HW⟩:=hrel
   by_cases hlt:j<n
   ·have hz:j<L.length:=by rw[<-HN.out];exact hlt
    have tN:j<M.length:=by rw[<-Nj.out,<-HL.out];exact hlt
    have Kc:j<n':=by rw[<-HL.out];exact hlt
    obtain⟨a,o,l,c,rfl,c0,c1,hc⟩:=(HX.out.below HW.out).cells.2 j hz;obtain⟨b,p,m,q,rfl,d0,d1,hd⟩:=(HY.out.below HW.out).cells.2 j tN;obtain⟨x,ry⟩:∃ x,x=L[j]:=⟨_,rfl⟩
    obtain⟨y,Bp⟩:∃ y,y=M[j]:=⟨_,rfl⟩
    rw[<-ry] at c0 hc;rw[<-Bp] at d0 hd;obtain⟨sx,I2⟩:∃ s,s=decide (x<0):=⟨_,rfl⟩
    obtain⟨sy,K4⟩:∃ s,s=decide (y<0):=⟨_,rfl⟩
    rw[<-I2] at c0 hc;rw[<-K4] at d0 hd;clear I2 K4;have Nc:=aa ry;have Na:=aa Bp;have HC:=aa hc;have HD:=aa hd;clear ry Bp hc hd;obtain⟨x1,k8,e8,NZ,yp,NN,lD⟩:=aL wr #[.bool sx,.slice o l c] 26;replace HC:=aa (HC.out.below yp.out);replace HD:=aa (HD.out.below yp.out);replace HW:=aa (HW.out.trans (yp.out.mono HW.out.size));rw[<-yp.out.cell (by have:=bS d0;exact this)] at d0;rw[<-yp.out.cell (by have:=bS d1;exact this)] at d1;obtain⟨x2,k9,e9,Ur,Fm,TL,DC⟩:=aL x1 #[.bool sy,.slice p m q] 26;replace lD:=aG Fm.out lD;replace HC:=aa (HC.out.below Fm.out);replace HD:=aa (HD.out.below Fm.out);replace HW:=aa (HW.out.trans (Fm.out.mono HW.out.size));have g0:=ae (v:=.bool sx) lD.out 0 rfl;have nF:=af lD.out 0
    have g1:=ae (v:=.slice o l c) lD.out 1 rfl;have nD:=af lD.out 1;have i0:=ae (v:=.bool sy) DC.out 0 rfl;have WD:=af DC.out 0;have i1:=ae (v:=.slice p m q) DC.out 1 rfl;have WC:=af DC.out 1
    by_cases he:x=y
    ·have Ap:decide (x=y)=true:=by simp[he]
     have HE:=aa he;clear he;go_wp2_with fail
     refine (tX _ _ x y 600 600 x2 HC.out.gi HD.out.gi (by decide) (by decide)).mono ?_;rintro e w3 ⟨rfl,hb⟩;rw[Ap];replace HW:=aa (HW.out.trans (hb.mono HW.out.size));clear hb Ap;go_wp2_with fail
     go_roundw
     case rel=>exact⟨j+1,by go_num,hlt,aa (wg HT.out hz tN (by rw[<-Nc.out,<-Na.out];exact HE.out)),HW⟩
     case measure=>simp[fH];omega
    have Ap:decide (x=y)=false:=by simp[he]
    have HE:=aa he;clear he;go_wp2_with fail
    refine (tX _ _ x y 600 600 x2 HC.out.gi HD.out.gi (by decide) (by decide)).mono ?_;rintro e w3 ⟨rfl,hb⟩;rw[Ap];replace HW:=aa (HW.out.trans (hb.mono HW.out.size));clear hb Ap;go_wp2_with fail
    go_ret
    refine⟨?_,HW.out⟩;rw[decide_eq_false (fun e=>HE.out (by rw[Nc.out,Na.out];subst e;rfl))];rfl
   go_wp2_with fail
   go_ret
   refine⟨?_,HW.out⟩;have e:=HT.out;rw[show j=n by omega,HN.out,bD,<-HN.out,HL.out,Nj.out,bD] at e;rw[decide_eq_true e];rfl
 have hne:(((L.length:Nat):Int) != ((M.length:Nat):Int))=true:=by rw[bne_iff_ne];omega
 have HL:=aa hl;clear hl;go_enter Tryz.func89,Tryz.ntmps89
 go_wp2_with fail
 go_ret
 refine⟨?_,av _ _⟩;rw[decide_eq_false (fun e=>HL.out (by rw[e]))];rfl
theorem zK {w:an} {v:ay} {x:V} (h:VC w v x):(∃ z o l c,x=.I z/\v=.agg #[.int .i64 0,.bool (decide (z<0)),.slice o l c,.bool false,.slice none 0 0]/\CI w (.agg #[.bool (decide (z<0)),.slice o l c]) z 600)\/(∃ b,x=.B b/\v=.agg #[.int .i64 1,.bool false,.slice none 0 0,.bool b,.slice none 0 0]) \/
  (∃ l o n c,x=.L l/\v=.agg #[.int .i64 2,.bool false,.slice none 0 0,.bool false,.slice o n c]/\NL w (.slice o n c) l):=by
 cases x with
 | I z=>obtain⟨o,l,c,h1,h2⟩:=h.int;exact .inl ⟨z,o,l,c,rfl,h1,h2⟩
 | B b=>exact .inr (.inl ⟨b,rfl,h.bool⟩)
 | L l=>obtain⟨o,n,c,h1,h2⟩:=h.list;exact .inr (.inr ⟨l,o,n,c,rfl,h1,h2⟩)
theorem Bf (va vb:ay) (x y:V) (w:an) (h1:VC w va x) (h2:VC w vb y) :
  bf ax 37 #[va,vb] w fun e w'=>e=.returned (.bool (decide (x=y)))/\aC w.heap.size w w':=by
 rcases zK h1 with ⟨z,o,l,c,rfl,rfl,hx⟩ | ⟨b,rfl,rfl⟩ | ⟨zs,o,n,c,rfl,rfl,hx⟩<;>rcases zK h2 with ⟨z',o',l',c',rfl,rfl,hy⟩ | ⟨b',rfl,rfl⟩ | ⟨ys,o',n',c',rfl,rfl,hy⟩
 ·clear h1 h2;have HX:=aa hx;have HY:=aa hy;clear hx hy;go_enter jZ,jq
  have HW:=aa (av w.heap.size w);obtain⟨x1,k1,e1,Cz,dm,nB,cP⟩:=aL w #[.int .i64 0,.bool (decide (z<0)),.slice o l c,.bool false,.slice none 0 0] 41;replace HX:=aa (HX.out.below dm.out);replace HY:=aa (HY.out.below dm.out);replace HW:=aa (HW.out.trans (dm.out.mono HW.out.size));obtain⟨x2,k2,e2,Dm,cV,fA,dZ⟩:=aL x1 #[.int .i64 0,.bool (decide (z'<0)),.slice o' l' c',.bool false,.slice none 0 0] 41;replace cP:=aG cV.out cP;replace HX:=aa (HX.out.below cV.out);replace HY:=aa (HY.out.below cV.out);replace HW:=aa (HW.out.trans (cV.out.mono HW.out.size));have c0:=ae (v:=.int .i64 0) cP.out 0 rfl;have bM:=af cP.out 0;have c1:=ae (v:=.bool (decide (z<0))) cP.out 1 rfl;have bL:=af cP.out 1;have c2:=ae (v:=.slice o l c) cP.out 2 rfl
  have bK:=af cP.out 2;have c3:=ae (v:=.bool false) cP.out 3 rfl;have bJ:=af cP.out 3;have c4:=ae (v:=.slice none 0 0) cP.out 4 rfl;have bI:=af cP.out 4;have d0:=ae (v:=.int .i64 0) dZ.out 0 rfl;have rB:=af dZ.out 0;have d1:=ae (v:=.bool (decide (z'<0))) dZ.out 1 rfl;have xp:=af dZ.out 1;have d2:=ae (v:=.slice o' l' c') dZ.out 2 rfl;have Fs:=af dZ.out 2;have d3:=ae (v:=.bool false) dZ.out 3 rfl;have Fq:=af dZ.out 3;have d4:=ae (v:=.slice none 0 0) dZ.out 4 rfl;have Fp:=af dZ.out 4;go_wp2_with fail
  refine (tX _ _ z z' 600 600 x2 HX.out.gi HY.out.gi (by decide) (by decide)).mono ?_;rintro e x3 ⟨rfl,hb⟩;clear c0 bM c1 bL c2 bK c3 bJ c4 bI d0 rB d1 xp d2 Fs d3 Fq d4 Fp;replace cP:=aG hb cP;replace dZ:=aG hb dZ;replace HX:=aa (HX.out.below hb);replace HY:=aa (HY.out.below hb);replace HW:=aa (HW.out.trans (hb.mono HW.out.size));go_wp2_with fail
  go_ret
  refine⟨?_,HW.out⟩
  congr 2
  simp
 ·clear h1 h2
  try clear hx
  try clear hy
  go_enter jZ,jq
  have HW:=aa (av w.heap.size w);obtain⟨x1,k1,e1,Cz,dm,nB,cP⟩:=aL w #[.int .i64 0,.bool (decide (z<0)),.slice o l c,.bool false,.slice none 0 0] 41;replace HW:=aa (HW.out.trans (dm.out.mono HW.out.size));obtain⟨x2,k2,e2,Dm,cV,fA,dZ⟩:=aL x1 #[.int .i64 1,.bool false,.slice none 0 0,.bool b',.slice none 0 0] 41;replace cP:=aG cV.out cP;replace HW:=aa (HW.out.trans (cV.out.mono HW.out.size));have c0:=ae (v:=.int .i64 0) cP.out 0 rfl;have bM:=af cP.out 0;have c1:=ae (v:=.bool (decide (z<0))) cP.out 1 rfl;have bL:=af cP.out 1;have c2:=ae (v:=.slice o l c) cP.out 2 rfl;have bK:=af cP.out 2;have c3:=ae (v:=.bool false) cP.out 3 rfl;have bJ:=af cP.out 3;have c4:=ae (v:=.slice none 0 0) cP.out 4 rfl;have bI:=af cP.out 4
  have d0:=ae (v:=.int .i64 1) dZ.out 0 rfl;have rB:=af dZ.out 0;have d1:=ae (v:=.bool false) dZ.out 1 rfl;have xp:=af dZ.out 1;have d2:=ae (v:=.slice none 0 0) dZ.out 2 rfl;have Fs:=af dZ.out 2;have d3:=ae (v:=.bool b') dZ.out 3 rfl;have Fq:=af dZ.out 3;have d4:=ae (v:=.slice none 0 0) dZ.out 4 rfl;have Fp:=af dZ.out 4;go_wp2_with fail
  go_ret
  have hh:decide (V.I z=V.B b')=false:=decide_eq_false (by intro e;cases e);exact⟨by rw[hh];rfl,HW.out⟩
 ·clear h1 h2
  try clear hx
  try clear hy
  go_enter jZ,jq
  have HW:=aa (av w.heap.size w);obtain⟨x1,k1,e1,Cz,dm,nB,cP⟩:=aL w #[.int .i64 0,.bool (decide (z<0)),.slice o l c,.bool false,.slice none 0 0] 41;replace HW:=aa (HW.out.trans (dm.out.mono HW.out.size));obtain⟨x2,k2,e2,Dm,cV,fA,dZ⟩:=aL x1 #[.int .i64 2,.bool false,.slice none 0 0,.bool false,.slice o' n' c'] 41;replace cP:=aG cV.out cP;replace HW:=aa (HW.out.trans (cV.out.mono HW.out.size));have c0:=ae (v:=.int .i64 0) cP.out 0 rfl;have bM:=af cP.out 0;have c1:=ae (v:=.bool (decide (z<0))) cP.out 1 rfl;have bL:=af cP.out 1;have c2:=ae (v:=.slice o l c) cP.out 2 rfl;have bK:=af cP.out 2;have c3:=ae (v:=.bool false) cP.out 3 rfl;have bJ:=af cP.out 3;have c4:=ae (v:=.slice none 0 0) cP.out 4 rfl;have bI:=af cP.out 4
  have d0:=ae (v:=.int .i64 2) dZ.out 0 rfl;have rB:=af dZ.out 0;have d1:=ae (v:=.bool false) dZ.out 1 rfl;have xp:=af dZ.out 1;have d2:=ae (v:=.slice none 0 0) dZ.out 2 rfl;have Fs:=af dZ.out 2;have d3:=ae (v:=.bool false) dZ.out 3 rfl;have Fq:=af dZ.out 3;have d4:=ae (v:=.slice o' n' c') dZ.out 4 rfl;have Fp:=af dZ.out 4;go_wp2_with fail
  go_ret
  have hh:decide (V.I z=V.L ys)=false:=decide_eq_false (by intro e;cases e);exact⟨by rw[hh];rfl,HW.out⟩
 ·clear h1 h2
  try clear hx
  try clear hy
  go_enter jZ,jq
  have HW:=aa (av w.heap.size w);obtain⟨x1,k1,e1,Cz,dm,nB,cP⟩:=aL w #[.int .i64 1,.bool false,.slice none 0 0,.bool b,.slice none 0 0] 41;replace HW:=aa (HW.out.trans (dm.out.mono HW.out.size));obtain⟨x2,k2,e2,Dm,cV,fA,dZ⟩:=aL x1 #[.int .i64 0,.bool (decide (z'<0)),.slice o' l' c',.bool false,.slice none 0 0] 41;replace cP:=aG cV.out cP;replace HW:=aa (HW.out.trans (cV.out.mono HW.out.size));have c0:=ae (v:=.int .i64 1) cP.out 0 rfl;have bM:=af cP.out 0;have c1:=ae (v:=.bool false) cP.out 1 rfl;have bL:=af cP.out 1;have c2:=ae (v:=.slice none 0 0) cP.out 2 rfl;have bK:=af cP.out 2;have c3:=ae (v:=.bool b) cP.out 3 rfl;have bJ:=af cP.out 3;have c4:=ae (v:=.slice none 0 0) cP.out 4 rfl;have bI:=af cP.out 4
  have d0:=ae (v:=.int .i64 0) dZ.out 0 rfl;have rB:=af dZ.out 0;have d1:=ae (v:=.bool (decide (z'<0))) dZ.out 1 rfl;have xp:=af dZ.out 1;have d2:=ae (v:=.slice o' l' c') dZ.out 2 rfl;have Fs:=af dZ.out 2;have d3:=ae (v:=.bool false) dZ.out 3 rfl;have Fq:=af dZ.out 3;have d4:=ae (v:=.slice none 0 0) dZ.out 4 rfl;have Fp:=af dZ.out 4;go_wp2_with fail
  go_ret
  have hh:decide (V.B b=V.I z')=false:=decide_eq_false (by intro e;cases e);exact⟨by rw[hh];rfl,HW.out⟩
 ·clear h1 h2
  try clear hx
  try clear hy
  go_enter jZ,jq
  have HW:=aa (av w.heap.size w);obtain⟨x1,k1,e1,Cz,dm,nB,cP⟩:=aL w #[.int .i64 1,.bool false,.slice none 0 0,.bool b,.slice none 0 0] 41;replace HW:=aa (HW.out.trans (dm.out.mono HW.out.size));obtain⟨x2,k2,e2,Dm,cV,fA,dZ⟩:=aL x1 #[.int .i64 1,.bool false,.slice none 0 0,.bool b',.slice none 0 0] 41;replace cP:=aG cV.out cP;replace HW:=aa (HW.out.trans (cV.out.mono HW.out.size));have c0:=ae (v:=.int .i64 1) cP.out 0 rfl;have bM:=af cP.out 0;have c1:=ae (v:=.bool false) cP.out 1 rfl;have bL:=af cP.out 1;have c2:=ae (v:=.slice none 0 0) cP.out 2 rfl;have bK:=af cP.out 2;have c3:=ae (v:=.bool b) cP.out 3 rfl;have bJ:=af cP.out 3;have c4:=ae (v:=.slice none 0 0) cP.out 4 rfl;have bI:=af cP.out 4
  have d0:=ae (v:=.int .i64 1) dZ.out 0 rfl;have rB:=af dZ.out 0;have d1:=ae (v:=.bool false) dZ.out 1 rfl;have xp:=af dZ.out 1;have d2:=ae (v:=.slice none 0 0) dZ.out 2 rfl;have Fs:=af dZ.out 2;have d3:=ae (v:=.bool b') dZ.out 3 rfl;have Fq:=af dZ.out 3;have d4:=ae (v:=.slice none 0 0) dZ.out 4 rfl;have Fp:=af dZ.out 4;go_wp2_with fail
  go_ret
  refine⟨?_,HW.out⟩
  cases b<;>cases b'<;>rfl
 ·clear h1 h2
  try clear hx
  try clear hy
  go_enter jZ,jq
  have HW:=aa (av w.heap.size w);obtain⟨x1,k1,e1,Cz,dm,nB,cP⟩:=aL w #[.int .i64 1,.bool false,.slice none 0 0,.bool b,.slice none 0 0] 41;replace HW:=aa (HW.out.trans (dm.out.mono HW.out.size));obtain⟨x2,k2,e2,Dm,cV,fA,dZ⟩:=aL x1 #[.int .i64 2,.bool false,.slice none 0 0,.bool false,.slice o' n' c'] 41;replace cP:=aG cV.out cP;replace HW:=aa (HW.out.trans (cV.out.mono HW.out.size));have c0:=ae (v:=.int .i64 1) cP.out 0 rfl;have bM:=af cP.out 0;have c1:=ae (v:=.bool false) cP.out 1 rfl;have bL:=af cP.out 1;have c2:=ae (v:=.slice none 0 0) cP.out 2 rfl;have bK:=af cP.out 2;have c3:=ae (v:=.bool b) cP.out 3 rfl;have bJ:=af cP.out 3;have c4:=ae (v:=.slice none 0 0) cP.out 4 rfl;have bI:=af cP.out 4
  have d0:=ae (v:=.int .i64 2) dZ.out 0 rfl;have rB:=af dZ.out 0;have d1:=ae (v:=.bool false) dZ.out 1 rfl;have xp:=af dZ.out 1;have d2:=ae (v:=.slice none 0 0) dZ.out 2 rfl;have Fs:=af dZ.out 2;have d3:=ae (v:=.bool false) dZ.out 3 rfl;have Fq:=af dZ.out 3;have d4:=ae (v:=.slice o' n' c') dZ.out 4 rfl;have Fp:=af dZ.out 4;go_wp2_with fail
  go_ret
  have hh:decide (V.B b=V.L ys)=false:=decide_eq_false (by intro e;cases e);exact⟨by rw[hh];rfl,HW.out⟩
 ·clear h1 h2
  try clear hx
  try clear hy
  go_enter jZ,jq
  have HW:=aa (av w.heap.size w);obtain⟨x1,k1,e1,Cz,dm,nB,cP⟩:=aL w #[.int .i64 2,.bool false,.slice none 0 0,.bool false,.slice o n c] 41;replace HW:=aa (HW.out.trans (dm.out.mono HW.out.size));obtain⟨x2,k2,e2,Dm,cV,fA,dZ⟩:=aL x1 #[.int .i64 0,.bool (decide (z'<0)),.slice o' l' c',.bool false,.slice none 0 0] 41;replace cP:=aG cV.out cP;replace HW:=aa (HW.out.trans (cV.out.mono HW.out.size));have c0:=ae (v:=.int .i64 2) cP.out 0 rfl;have bM:=af cP.out 0;have c1:=ae (v:=.bool false) cP.out 1 rfl;have bL:=af cP.out 1;have c2:=ae (v:=.slice none 0 0) cP.out 2 rfl;have bK:=af cP.out 2;have c3:=ae (v:=.bool false) cP.out 3 rfl;have bJ:=af cP.out 3;have c4:=ae (v:=.slice o n c) cP.out 4 rfl;have bI:=af cP.out 4
  have d0:=ae (v:=.int .i64 0) dZ.out 0 rfl;have rB:=af dZ.out 0;have d1:=ae (v:=.bool (decide (z'<0))) dZ.out 1 rfl;have xp:=af dZ.out 1;have d2:=ae (v:=.slice o' l' c') dZ.out 2 rfl;have Fs:=af dZ.out 2;have d3:=ae (v:=.bool false) dZ.out 3 rfl;have Fq:=af dZ.out 3;have d4:=ae (v:=.slice none 0 0) dZ.out 4 rfl;have Fp:=af dZ.out 4;go_wp2_with fail
  go_ret
  have hh:decide (V.L zs=V.I z')=false:=decide_eq_false (by intro e;cases e);exact⟨by rw[hh];rfl,HW.out⟩
 ·clear h1 h2
  try clear hx
  try clear hy
  go_enter jZ,jq
  have HW:=aa (av w.heap.size w);obtain⟨x1,k1,e1,Cz,dm,nB,cP⟩:=aL w #[.int .i64 2,.bool false,.slice none 0 0,.bool false,.slice o n c] 41;replace HW:=aa (HW.out.trans (dm.out.mono HW.out.size));obtain⟨x2,k2,e2,Dm,cV,fA,dZ⟩:=aL x1 #[.int .i64 1,.bool false,.slice none 0 0,.bool b',.slice none 0 0] 41;replace cP:=aG cV.out cP;replace HW:=aa (HW.out.trans (cV.out.mono HW.out.size));have c0:=ae (v:=.int .i64 2) cP.out 0 rfl;have bM:=af cP.out 0;have c1:=ae (v:=.bool false) cP.out 1 rfl;have bL:=af cP.out 1;have c2:=ae (v:=.slice none 0 0) cP.out 2 rfl;have bK:=af cP.out 2;have c3:=ae (v:=.bool false) cP.out 3 rfl;have bJ:=af cP.out 3;have c4:=ae (v:=.slice o n c) cP.out 4 rfl;have bI:=af cP.out 4
  have d0:=ae (v:=.int .i64 1) dZ.out 0 rfl;have rB:=af dZ.out 0;have d1:=ae (v:=.bool false) dZ.out 1 rfl;have xp:=af dZ.out 1;have d2:=ae (v:=.slice none 0 0) dZ.out 2 rfl;have Fs:=af dZ.out 2;have d3:=ae (v:=.bool b') dZ.out 3 rfl;have Fq:=af dZ.out 3;have d4:=ae (v:=.slice none 0 0) dZ.out 4 rfl;have Fp:=af dZ.out 4;go_wp2_with fail
  go_ret
  have hh:decide (V.L zs=V.B b')=false:=decide_eq_false (by intro e;cases e);exact⟨by rw[hh];rfl,HW.out⟩
 clear h1 h2;have HX:=aa hx;have HY:=aa hy;clear hx hy;go_enter jZ,jq
 have HW:=aa (av w.heap.size w);obtain⟨x1,k1,e1,Cz,dm,nB,cP⟩:=aL w #[.int .i64 2,.bool false,.slice none 0 0,.bool false,.slice o n c] 41;replace HX:=aa (HX.out.below dm.out);replace HY:=aa (HY.out.below dm.out);replace HW:=aa (HW.out.trans (dm.out.mono HW.out.size));obtain⟨x2,k2,e2,Dm,cV,fA,dZ⟩:=aL x1 #[.int .i64 2,.bool false,.slice none 0 0,.bool false,.slice o' n' c'] 41;replace cP:=aG cV.out cP;replace HX:=aa (HX.out.below cV.out);replace HY:=aa (HY.out.below cV.out);replace HW:=aa (HW.out.trans (cV.out.mono HW.out.size));have c0:=ae (v:=.int .i64 2) cP.out 0 rfl;have bM:=af cP.out 0;have c1:=ae (v:=.bool false) cP.out 1 rfl;have bL:=af cP.out 1;have c2:=ae (v:=.slice none 0 0) cP.out 2 rfl;have bK:=af cP.out 2
 have c3:=ae (v:=.bool false) cP.out 3 rfl;have bJ:=af cP.out 3;have c4:=ae (v:=.slice o n c) cP.out 4 rfl;have bI:=af cP.out 4;have d0:=ae (v:=.int .i64 2) dZ.out 0 rfl;have rB:=af dZ.out 0;have d1:=ae (v:=.bool false) dZ.out 1 rfl;have xp:=af dZ.out 1;have d2:=ae (v:=.slice none 0 0) dZ.out 2 rfl;have Fs:=af dZ.out 2;have d3:=ae (v:=.bool false) dZ.out 3 rfl;have Fq:=af dZ.out 3;have d4:=ae (v:=.slice o' n' c') dZ.out 4 rfl;have Fp:=af dZ.out 4;go_wp2_with fail
 refine (Fv _ _ zs ys x2 HX.out HY.out).mono ?_;rintro e x3 ⟨rfl,hb⟩;clear c0 bM c1 bL c2 bK c3 bJ c4 bI d0 rB d1 xp d2 Fs d3 Fq d4 Fp;replace cP:=aG hb cP;replace dZ:=aG hb dZ;replace HX:=aa (HX.out.below hb);replace HY:=aa (HY.out.below hb);replace HW:=aa (HW.out.trans (hb.mono HW.out.size));go_wp2_with fail
 go_ret
 refine⟨?_,HW.out⟩
 congr 2
 simp
def su (w:an) (v:ay):Prop:=∃ xs,Sl w .u32 v xs/\eI aH xs
theorem su.below {w w':an} {v:ay} (h:su w v) (hb:aC w.heap.size w w'):su w' v:=by obtain⟨xs,h1,h2⟩:=h;exact⟨xs,h1.below hb,h2⟩
def rY (w:an) (ko:Option cH) (n kc:Nat):Prop:=(n<=kc/\kc<=fO)/\∀ i,i<n->∃ a b o l c,ko=some a/\w.cell? (a.add (i*2))=some (.bool b)/\w.cell? ⟨(a.add (i*2)).block,(a.add (i*2)).off+1,none⟩=some (.slice o l c)/\su w (.slice o l c)
theorem rY.below {w w':an} {ko:Option cH} {n kc:Nat} (h:rY w ko n kc) (hb:aC w.heap.size w w'):rY w' ko n kc:=by
 refine⟨h.1,fun i hi=>?_⟩;obtain⟨a,b,o,l,c,h1,h2,h3,h4⟩:=h.2 i hi;exact⟨a,b,o,l,c,h1,by rw[hb.cell (bS h2)];exact h2,by rw[hb.cell (by have:=bS h3;exact this)];exact h3,h4.below hb⟩
def q8 (w:an) (ko:Option cH) (n kc:Nat):Prop:=(n<=kc/\kc<=fO)/\∀ i,i<n->∃ a k b o l c d p m q,ko=some a /\
  (w.cell? (a.add (i*5))=some (.int .i64 k)/\w.cell? ⟨(a.add (i*5)).block,(a.add (i*5)).off+1,none⟩=some (.bool b)/\w.cell? ⟨(a.add (i*5)).block,(a.add (i*5)).off+2,none⟩=some (.slice o l c)/\w.cell? ⟨(a.add (i*5)).block,(a.add (i*5)).off+3,none⟩=some (.bool d)/\w.cell? ⟨(a.add (i*5)).block,(a.add (i*5)).off+4,none⟩=some (.slice p m q)) /\
  (-9223372036854775808<=k/\k<=9223372036854775807)/\su w (.slice o l c)/\rY w p m q
theorem q8.below {w w':an} {ko:Option cH} {n kc:Nat} (h:q8 w ko n kc) (hb:aC w.heap.size w w'):q8 w' ko n kc:=by
 refine⟨h.1,fun i hi=>?_⟩;obtain⟨a,k,b,o,l,c,d,p,m,q,h0,⟨h1,h2,h3,h4,h5⟩,h6,h7,h8⟩:=h.2 i hi;exact⟨a,k,b,o,l,c,d,p,m,q,h0,⟨by rw[hb.cell (bS h1)];exact h1,by rw[hb.cell (by have:=bS h2;exact this)];exact h2,by rw[hb.cell (by have:=bS h3;exact this)];exact h3,by rw[hb.cell (by have:=bS h4;exact this)];exact h4,by rw[hb.cell (by have:=bS h5;exact this)];exact h5⟩,h6,h7.below hb,h8.below hb⟩
theorem Cd (b:Bool) (o:Option cH) (l c:Nat) (w:an) (hx:su w (.slice o l c)) :
  bf ax 109 #[.agg #[.bool b,.slice o l c]] w fun e w'=>∃ v z,e=.returned v/\CI w' v z 4/\aC w.heap.size w w':=by
 obtain⟨m,hm⟩:∃ m,m=min l 4:=⟨_,rfl⟩
 have hmin:min (l:Int) 4=(m:Int):=by omega
 have Wh:m<=4:=by omega
 have hml:m<=l:=by omega
 have nR:∃ n,GN w (.slice o m c) n 4/\l<=c/\c<=9223372036854775807:=by
  obtain⟨xs,hs,hd⟩:=hx;have hl:=qI hs;obtain⟨_,_,e,h1,h2,_⟩:=id hs;injection e with e1 e2 e3;subst e3;exact⟨_,⟨xs.take m,hs.take m (by omega),hd.take m,rfl,by rw[List.length_take];omega⟩,by omega,h2⟩
 obtain⟨n,hn,hlc,hc⟩:=nR;have K8:m<=c:=by omega
 have HX:=aa hn;clear hn hx hm;have HW:=aa (av w.heap.size w);go_enter Tryz.func109,Tryz.ntmps109
 obtain⟨x1,k1,e1,Cz,dm,nB,cP⟩:=aL w #[.bool b,.slice o l c] 26;replace HX:=aa (HX.out.below dm.out);replace HW:=aa (HW.out.trans (dm.out.mono HW.out.size));obtain⟨x2,k2,e2,Dm,cV,fA,dZ⟩:=aL x1 #[.bool false,.slice none 0 0] 26;replace cP:=aG cV.out cP;replace HX:=aa (HX.out.below cV.out);replace HW:=aa (HW.out.trans (cV.out.mono HW.out.size));have sK:w.heap.size<=k2:=aq dm.out.size fA.out;go_upto_region 1 with fail
 have Cs:=ag cP.out;have fK:Hid (∀ q,q<0->(fun q=>0) q<x2.heap.size):=aa (fun q h=>absurd h (ah _));refine R7.region (by kernel_rfl) [[],[0],[],[2],[],[4],[4,5],[4,5,6],[2,3,4,5,6,7],[0,1,2,3,4,5,6,7,8],[0,1,2,3,4,5,6,7,8,9]] [] [] (fun q=>0) 0 10 (by kernel_rfl) (by kernel_rfl) (by rfl) fK.out (fun q q' h h' hn=>absurd hn (by omega)) ?_;refine R7.az.bT ?_ (by rfl) (fun T xs wr hA=>?_) ?_
 rotate_left 1
 ·have e1:=hA.pre 1 (by kernel_rfl);simp only[eY,fD,fm] at e1;clear hA;refine⟨(by rfl),?_⟩;go_simp<;>(try with_reducible rfl)
 refine R7.az.bT ?_ (by rfl) (fun T xs wr hA=>?_) ?_
 rotate_left 1
 ·have e3:=hA.tm 0 3 (by rfl) (by rfl);have f3:xs 0=_:=hA.fa 0 (by rfl)
  (try simp (disch:=first | rfl | decide) only [R7.ai] at f3)
  rw[f3] at e3;clear f3;have aP:wr.heap[k1]?=_:=(hA.bl _ Cs (fun q h=>absurd h (ah _))).trans cP.out;have q0:=ae (v:=.bool b) aP 0 rfl;have q1:=ae (v:=.slice o l c) aP 1 rfl;clear aP;clear hA;refine⟨(by rfl),?_⟩;go_simp<;>(try with_reducible rfl)
 refine R7.az.bT ?_ (by rfl) (fun T xs wr hA=>?_) ?_
 rotate_left 1
 ·have e1:=hA.pre 1 (by kernel_rfl);simp only[eY,fD,fm] at e1;clear hA;refine⟨(by rfl),?_⟩;go_simp<;>(try with_reducible rfl)
 refine R7.az.bT ?_ (by rfl) (fun T xs wr hA=>?_) ?_
 rotate_left 1
 ·have e5:=hA.tm 2 5 (by rfl) (by rfl);have f5:xs 2=_:=hA.fa 2 (by rfl)
  (try simp (disch:=first | rfl | decide) only [R7.ai] at f5)
  rw[f5] at e5;clear f5;have aP:wr.heap[k1]?=_:=(hA.bl _ Cs (fun q h=>absurd h (ah _))).trans cP.out;have q0:=ae (v:=.bool b) aP 0 rfl;have q1:=ae (v:=.slice o l c) aP 1 rfl;clear aP;clear hA;refine⟨(by rfl),?_⟩;go_simp<;>(try with_reducible rfl)
 refine R7.az.bT ?_ (by rfl) (fun T xs wr hA=>?_) ?_
 rotate_left 1
 ·have e1:=hA.pre 1 (by kernel_rfl);simp only[eY,fD,fm] at e1;clear hA;refine⟨(by rfl),?_⟩;go_simp<;>(try with_reducible rfl)
 refine R7.az.bT ?_ (by rfl) (fun T xs wr hA=>?_) ?_
 rotate_left 1
 ·have e7:=hA.tm 4 7 (by rfl) (by rfl);have f7:xs 4=_:=hA.fa 4 (by rfl)
  (try simp (disch:=first | rfl | decide) only [R7.ai] at f7)
  rw[f7] at e7;clear f7;have aP:wr.heap[k1]?=_:=(hA.bl _ Cs (fun q h=>absurd h (ah _))).trans cP.out;have q0:=ae (v:=.bool b) aP 0 rfl;have q1:=ae (v:=.slice o l c) aP 1 rfl;clear aP;clear hA;refine⟨(by rfl),?_⟩;go_simp<;>(try with_reducible rfl)
 refine R7.az.bT ?_ (by rfl) (fun T xs wr hA=>?_) ?_
 rotate_left 1
 ·have e8:=hA.tm 5 8 (by rfl) (by rfl);have f8:xs 5=_:=hA.fa 5 (by rfl)
  (try simp (disch:=first | rfl | decide) only [R7.ai] at f8)
  rw[f8] at e8;clear f8;clear hA;refine⟨(by rfl),?_⟩;go_simp<;>(try with_reducible rfl)
 refine R7.az.bT ?_ (by rfl) (fun T xs wr hA=>?_) ?_
 rotate_left 1
 ·have e9:=hA.tm 6 9 (by rfl) (by rfl);have f9:xs 6=_:=hA.fa 6 (by rfl)
  (try simp (disch:=first | rfl | decide) only [R7.ai] at f9)
  rw[f9] at e9;clear f9;clear hA;refine⟨(by rfl),?_⟩;go_simp<;>(try with_reducible rfl)
 refine R7.az.bT ?_ (by rfl) (fun T xs wr hA=>?_) ?_
 rotate_left 1
 ·have e6:=hA.tm 3 6 (by rfl) (by rfl);have f6:xs 3=_:=hA.fa 3 (by rfl)
  (try simp (disch:=first | rfl | decide) only [R7.ai] at f6)
  rw[f6] at e6;clear f6;have Fw:=hA.tm 7 10 (by rfl) (by rfl);have f10:xs 7=_:=hA.fa 7 (by rfl)
  (try simp (disch:=first | rfl | decide) only [R7.ai] at f10)
  rw[f10] at Fw;clear f10;clear hA;refine⟨(by rfl),?_⟩;go_simp<;>(try with_reducible rfl)
 refine R7.az.call (fun xs v w=>∃ z,CI w v z 4) (fun _ _ _ _ h hb=>by obtain⟨z,h2⟩:=h;exact⟨z,h2.below hb⟩) (fun _ _ _ _ _ _ h _=>by obtain⟨q,hq,_⟩:=h;exact absurd hq (ah _)) (by rfl) (fun T xs wr hA=>?_) ?_
 ·have ki:=(hA.be 0 (au _) (fun _ _=>au _)).size;have e4:=hA.tm 1 4 (by rfl) (by rfl);have f4:xs 1=_:=hA.fa 1 (by rfl)
  (try simp (disch:=first | rfl | decide) only [R7.ai] at f4)
  rw[f4] at e4;clear f4;have Gk:=hA.tm 8 11 (by rfl) (by rfl);have f11:xs 8=_:=hA.fa 8 (by rfl)
  (try simp (disch:=first | rfl | decide) only [R7.ai] at f11)
  rw[f11] at Gk;clear f11;have dK:=aT (hA.be x2.heap.size (ak _) (fun q h=>absurd h (ah q)));clear hA;refine⟨(by rfl),fun K hK=>?_⟩;go_simp
  refine (mA b _ n 4 wr (HX.out.below dK) (by omega)).mono ?_;rintro e w' ⟨v,rfl,hc,hb'⟩;exact hK.out _ _ ⟨_,hc⟩ hb'
 refine R7.az.done (fun xs x3 hL=>?_);obtain⟨⟨ei,cG⟩,hf,-,-⟩:=hL;have f0:xs 0=_:=hf 0 (by decide)
 (try simp (disch:=first | rfl | decide) only [R7.ai] at f0)
 have f1:xs 1=_:=hf 1 (by decide)
 (try simp (disch:=first | rfl | decide) only [R7.ai] at f1)
 have f2:xs 2=_:=hf 2 (by decide)
 (try simp (disch:=first | rfl | decide) only [R7.ai] at f2)
 have f3:xs 3=_:=hf 3 (by decide)
 (try simp (disch:=first | rfl | decide) only [R7.ai] at f3)
 have f4:xs 4=_:=hf 4 (by decide)
 (try simp (disch:=first | rfl | decide) only [R7.ai] at f4)
 have f5:xs 5=_:=hf 5 (by decide)
 (try simp (disch:=first | rfl | decide) only [R7.ai] at f5)
 have f6:xs 6=_:=hf 6 (by decide)
 (try simp (disch:=first | rfl | decide) only [R7.ai] at f6)
 have f7:xs 7=_:=hf 7 (by decide)
 (try simp (disch:=first | rfl | decide) only [R7.ai] at f7)
 have f8:xs 8=_:=hf 8 (by decide)
 (try simp (disch:=first | rfl | decide) only [R7.ai] at f8)
 have F9:∃ z,CI x3 (xs 9) z 4:=hf 9 (by decide);have hb0:aC 0 x2 x3:=aT (ei 0 (au _) (fun _ _=>au _));have jR:∀ j,j<x2.heap.size->(∀ q,q<0->(fun q=>0) q≠j)->x3.heap[j]?=x2.heap[j]?:=cG;clear ei cG hf;have hb:aC x2.heap.size x2 x3:=⟨hb0.os,hb0.tape,hb0.output,hb0.size,fun q hq=>jR q hq (fun q h=>absurd h (ah _))⟩
 refine R7.g_ (by decide) (by kernel_rfl) ?_;simp only[R7.fill,Cb,Ca,B_,B9,xz,xy,xx,f0,f1,f2,f3,f4,f5,f6,f7,f8];clear hb0 jR fK Cs f0 f1 f2 f3 f4 f5 f6 f7 f8;replace cP:=aG hb cP;replace dZ:=aG hb dZ;replace HX:=aa (HX.out.below hb);replace HW:=aa (HW.out.trans (hb.mono HW.out.size));replace hb:=aa hb;obtain⟨z,pg⟩:=F9;obtain⟨bb,oo,ll,cc,hv⟩:=pg.shape;rw[hv] at pg;rw[show (0+1+1+1+1+1+1+1+1+1:Nat)=9 from rfl,hv];have HC:=aa pg;clear pg hv;have d0:=ae (v:=.bool false) dZ.out 0 rfl;have rB:=af dZ.out 0;have d1:=ae (v:=.slice none 0 0) dZ.out 1 rfl;have xp:=af dZ.out 1;go_wp2_with fail
 obtain⟨r1,r2⟩:=mM HW.out dZ.out jP sK (.bool bb) (.slice oo ll cc);exact aB (v:=.agg #[.bool bb,.slice oo ll cc]) (by simp[results,Tryz.results109,go_sem,d0,d1]) rfl ⟨_,_,rfl,HC.out.fr r1,r2⟩
theorem VC.unit {w:an} {v:ay} {x:V} (h:VC w v x):∃ (u:VU) (k:Int) (b:Bool) (o:Option cH) (l c:Nat) (d:Bool) (p:Option cH) (m q:Nat),v=.agg #[.int .i64 k,.bool b,.slice o l c,.bool d,.slice p m q]/\vC u=[.int .i64 k,.bool b,.slice o l c,.bool d,.slice p m q]/\u.x=x/\VR w u:=by
 obtain⟨u,rfl,h1,h2⟩:=h;exact⟨u,_,_,_,_,_,_,_,_,_,rfl,rfl,h1,h2⟩
theorem CI.unit {w:an} {v:ay} {z:Int} {k:Nat} (h:CI w v z k) (hk:k<=600):∃ (u:NU) (b:Bool) (o:Option cH) (l c:Nat),v=.agg #[.bool b,.slice o l c]/\nC u=[.bool b,.slice o l c]/\u.z=z/\NR w u:=by
 obtain⟨u,rfl,h1,h2⟩:=CF h hk;exact⟨u,_,_,_,_,rfl,rfl,h1,h2⟩
theorem yH {w:an} {g:Nat} {u:VU} {k:Int} {b d:Bool} {o p:Option cH} {l c m q:Nat} (hB:w.heap[g]?=some (.cells #[.int .i64 k,.bool b,.slice o l c,.bool d,.slice p m q] 41 (0,0))) (hu:vC u=[.int .i64 k,.bool b,.slice o l c,.bool d,.slice p m q]) (hR:VR w u):vE.At w (.slice (some ⟨g,0,none⟩) 1 1) [u]:=
 El.At.block (E:=vE) (el:=[u]) (by show _=some (Obj.cells (([u]:List VU).flatMap vC).toArray _ _);rw[eT,hu];exact hB) (by simp[fO]) (fun a ha=>by rw[dG] at ha;subst ha;exact hR)
theorem Cm {w:an} {g:Nat} {u:NU} {b:Bool} {o:Option cH} {l c:Nat} (hB:w.heap[g]?=some (.cells #[.bool b,.slice o l c] 26 (0,0))) (hu:nC u=[.bool b,.slice o l c]) (hR:NR w u):nE.At w (.slice (some ⟨g,0,none⟩) 1 1) [u]:=
 El.At.block (E:=nE) (el:=[u]) (by show _=some (Obj.cells (([u]:List NU).flatMap nC).toArray _ _);rw[eT,hu];exact hB) (by simp[fO]) (fun a ha=>by rw[dG] at ha;subst ha;exact hR)
def TV:V->Prop
 | .I z=>z.natAbs<aH ^ 4
 | .B _=>True
 | .L l=>l.length<=6/\∀ z ∈ l,z.natAbs<aH ^ 4
theorem CI.lt {w:an} {v:ay} {z:Int} {k:Nat} (h:CI w v z k):z.natAbs<aH ^ k:=by obtain⟨_,_,_,h3⟩:=h;exact h3
def fu:V->Int
 | .I _=>0
 | .B _=>1
 | .L _=>2
def KS (w:an) (ko:Option cH) (xs:List V):Prop:=∀ i (h:i<xs.length) a k,ko=some a->w.cell? (a.add (i*5))=some (.int .i64 k)->fu xs[i]=(k.tmod 3+3).tmod 3
theorem KS.snoc {w:an} {ko:Option cH} {xs:List V} {x:V} (h:KS w ko xs) (hx:∀ a k,ko=some a->w.cell? (a.add (xs.length*5))=some (.int .i64 k)->fu x=(k.tmod 3+3).tmod 3):KS w ko (xs++[x]):=by
 intro i hi a k ha hc
 by_cases hlt:i<xs.length
 ·rw[rQ hlt];exact h i hlt a k ha hc
 have e:i=xs.length:=by simp at hi;omega
 subst e;rw[List.getElem_append_right (ak _)];simp only[Nat.sub_self,List.getElem_cons_zero];exact hx a k ha hc
def M5 (w:an) (ko:Option cH) (N:Nat) (ov iv:ay) (wr:an):Prop:=
 ∃ (j:Nat) (us:List VU),iv=.int .i64 (j:Nat)/\j<=N/\Hid (us.length=j)/\Hid (∀ u ∈ us,TV u.x)/\Hid (KS w ko (us.map (·.x)))/\Hid (vE.Row wr w.heap.size ov us)/\Hid (aC w.heap.size w wr)
def M6 (w wS:an) (M:Nat) (mv iv:ay) (wr:an):Prop:=
 ∃ (j:Nat) (ns:List NU),iv=.int .i64 (j:Nat)/\j<=M/\Hid (ns.length=j)/\Hid (∀ n ∈ ns,n.z.natAbs<aH ^ 4)/\Hid (nE.Row wr wS.heap.size mv ns)/\Hid (aC wS.heap.size wS wr)
theorem D7 (ko:Option cH) (n kc:Nat) (w:an) (hx:q8 w ko n kc) :
  bf ax 56 #[.slice ko n kc] w fun e w'=>∃ v xs,e=.returned v/\VL w' v xs/\xs.length=min n 5/\(∀ x ∈ xs,TV x)/\KS w ko xs/\aC w.heap.size w w':=by
 obtain⟨N,hN⟩:∃ N,N=min n 5:=⟨_,rfl⟩
 have hmin:min (n:Int) 5=(N:Int):=by omega
 have Wv:N<=5:=by omega
 have Wt:N<=n:=by omega
 obtain⟨h1,h2⟩:=hx.1;have Wu:N<=kc:=by omega
 have DJ:kc<=9223372036854775807:=h2;have HX:=aa hx;have Vd:=aa hN;clear hx hN h1 h2;go_enter Tryz.func56,Tryz.ntmps56
 go_wp2_with fail
 go_loopw [3,16] (M5 w ko N) (fun _ i _=>N - (fH i).toNat)
 case atStart=>exact⟨0,[],rfl,au _,aa rfl,aa (fun u hu=>by cases hu),aa (fun i h=>absurd h (ah i)),aa (El.Row.nil _ _),aa (av _ _)⟩
 case round =>
  obtain⟨j,us,rfl,hj,HU,N7,B6,HR,HW⟩:=hrel;obtain⟨oo,oc,rfl,OU,TC,-⟩:=HR.out.form;have L3:=HU.out;rw[L3] at OU
  by_cases hlt:j<N
  ·obtain⟨a,xk,b,o,l,c,d,p,m,q,rfl,⟨c0,c1,c2,c3,c4⟩,⟨VM,VK⟩,hn,hi⟩:=(HX.out.below HW.out).2 j (by omega);have Nq:Hid (∀ a2 k2,some a=some a2->w.cell? (a2.add ((us.map (·.x)).length*5))=some (.int .i64 k2)->k2=xk):=aa (fun a2 k2 e hc=>by injection e with e;subst e;rw[iM,HU.out] at hc;have h2:=(HW.out.cell (bW w _ hc)).trans hc;rw[c0] at h2;injection h2 with h2;injection h2 with _ h2;exact h2.symm);have HN:=aa hn;have HI:=aa hi;clear hn hi L3;have SO:=Int.tmod_lt_of_pos xk (b:=3) (by decide);have SN:=Int.lt_tmod_of_pos xk (b:=3) (by decide);have VP:IntKind.i64.wrap (xk.tmod 3+3)=xk.tmod 3+3:=IntWalk.i64_in _ (by omega)
   have hK:(xk.tmod 3+3).tmod 3=0\/(xk.tmod 3+3).tmod 3=1\/(xk.tmod 3+3).tmod 3=2:=by rw[Int.tmod_eq_emod_of_nonneg (by omega)];omega
   clear SO SN;obtain⟨x1,k5,e5,Us,uh,TM,nU⟩:=aL wr #[.int .i64 xk,.bool b,.slice o l c,.bool d,.slice p m q] 41;replace HN:=aa (HN.out.below uh.out);replace HI:=aa (HI.out.below uh.out);replace HR:=aa (HR.out.below uh.out);replace HW:=aa (HW.out.trans (uh.out.mono HW.out.size));have g0:=ae (v:=.int .i64 xk) nU.out 0 rfl;have nF:=af nU.out 0;have g1:=ae (v:=.bool b) nU.out 1 rfl;have nD:=af nU.out 1;have g2:=ae (v:=.slice o l c) nU.out 2 rfl;have oA:=af nU.out 2;have g3:=ae (v:=.bool d) nU.out 3 rfl;have oz:=af nU.out 3;have g4:=ae (v:=.slice p m q) nU.out 4 rfl;have oy:=af nU.out 4;rcases hK with hK | hK | hK
   ·go_wp2_with fail
    refine (Cd b o l c x1 HN.out).mono ?_;rintro e x2 ⟨v,z,rfl,hz,hb⟩;clear g0 nF g1 nD g2 oA g3 oz g4 oy;replace nU:=aG hb nU;replace HN:=aa (HN.out.below hb);replace HI:=aa (HI.out.below hb);replace HR:=aa (HR.out.below hb);replace HW:=aa (HW.out.trans (hb.mono HW.out.size));obtain⟨zb,zo,zl,zc,rfl⟩:=hz.shape;have HZ:=aa hz;clear hz hb;go_wp2_with fail
    refine (j_ _ z 4 x2 HZ.out.gi (by decide)).mono ?_;rintro e x3 ⟨v,rfl,hc,hb⟩;replace nU:=aG hb nU;replace HN:=aa (HN.out.below hb);replace HI:=aa (HI.out.below hb);replace HR:=aa (HR.out.below hb);replace HW:=aa (HW.out.trans (hb.mono HW.out.size));replace HZ:=aa (HZ.out.below hb);clear hb;obtain⟨u,uk,ub,uo,ul,uc,ud,up,um,uq,rfl,Cp,Co,Af⟩:=hc.unit;have Iw:=aa Cp;have AL:=aa Co;have xJ:=aa Af;clear hc Cp Co Af;obtain⟨x4,kq,eq,Cy,iC,yn,gA⟩:=aL x3 #[.int .i64 uk,.bool ub,.slice uo ul uc,.bool ud,.slice up um uq] 41;replace nU:=aG iC.out nU;replace HN:=aa (HN.out.below iC.out);replace HI:=aa (HI.out.below iC.out);replace HR:=aa (HR.out.below iC.out);replace HW:=aa (HW.out.trans (iC.out.mono HW.out.size))
    replace HZ:=aa (HZ.out.below iC.out);replace xJ:=aa (xJ.out.below iC.out);have qD:=aa (yH gA.out Iw.out xJ.out);go_wp2_with (at_builtin;refine El.Row.append (E:=vE) HR.out rfl (.tmp 51) (.tmp 56) rfl rfl rfl qD.out (by rw[HU.out];simp;omega) HW.out.size ?_;intro v9 w9 r1 r2 r3 r4)
    go_roundw
    case rel=>exact⟨j+1,us++[u],by go_num,hlt,aa (by rw[fI,HU.out];rfl),aa (fun y hy=>by rcases List.mem_append.1 hy with hy | hy;exact N7.out y hy;rw[dG] at hy;subst hy;rw[AL.out];exact HZ.out.lt),aa (by rw[dN];exact B6.out.snoc (fun a2 k2 e hc=>by rw[Nq.out a2 k2 e hc,hK];show fu u.x=_;rw[AL.out];rfl)),aa r1,aa (HW.out.trans r3)⟩
    case measure=>simp[fH];omega
   ·go_wp2_with fail
    refine (jb d x1).mono ?_;rintro e x2 ⟨v,rfl,hc,hb⟩;clear g0 nF g1 nD g2 oA g3 oz g4 oy;replace nU:=aG hb nU;replace HN:=aa (HN.out.below hb);replace HI:=aa (HI.out.below hb);replace HR:=aa (HR.out.below hb);replace HW:=aa (HW.out.trans (hb.mono HW.out.size));clear hb;obtain⟨u,uk,ub,uo,ul,uc,ud,up,um,uq,rfl,Cp,Co,Af⟩:=hc.unit;have Iw:=aa Cp;have AL:=aa Co;have xJ:=aa Af;clear hc Cp Co Af;obtain⟨x3,kq,eq,Cy,iC,yn,gA⟩:=aL x2 #[.int .i64 uk,.bool ub,.slice uo ul uc,.bool ud,.slice up um uq] 41;replace nU:=aG iC.out nU;replace HN:=aa (HN.out.below iC.out);replace HI:=aa (HI.out.below iC.out);replace HR:=aa (HR.out.below iC.out);replace HW:=aa (HW.out.trans (iC.out.mono HW.out.size));replace xJ:=aa (xJ.out.below iC.out)
    have qD:=aa (yH gA.out Iw.out xJ.out);go_wp2_with (at_builtin;refine El.Row.append (E:=vE) HR.out rfl (.tmp 60) (.tmp 64) rfl rfl rfl qD.out (by rw[HU.out];simp;omega) HW.out.size ?_;intro v9 w9 r1 r2 r3 r4)
    go_roundw
    case rel=>exact⟨j+1,us++[u],by go_num,hlt,aa (by rw[fI,HU.out];rfl),aa (fun y hy=>by rcases List.mem_append.1 hy with hy | hy;exact N7.out y hy;rw[dG] at hy;subst hy;rw[AL.out];exact trivial),aa (by rw[dN];exact B6.out.snoc (fun a2 k2 e hc=>by rw[Nq.out a2 k2 e hc,hK];show fu u.x=_;rw[AL.out];rfl)),aa r1,aa (HW.out.trans r3)⟩
    case measure=>simp[fH];omega
   obtain⟨M,hM⟩:∃ M,M=min m 6:=⟨_,rfl⟩
   have Rx:min (m:Int) 6=(M:Int):=by omega
   have Wz:M<=6:=by omega
   have Wx:M<=m:=by omega
   obtain⟨h1,h2⟩:=HI.out.1;have Wy:M<=q:=by omega
   have Wf:q<=9223372036854775807:=h2;clear hM h1 h2;go_wp2_with fail
   clear g0 nF g1 nD g2 oA g3 oz g4 oy
   go_loopw [7,34] (M6 w x1 M) (fun _ i _=>M - (fH i).toNat)
   case atStart=>exact⟨0,[],rfl,au _,aa rfl,aa (fun u hu=>by cases hu),aa (El.Row.nil _ _),aa (av _ _)⟩
   case round =>
    obtain⟨i,ns,rfl,hi,xq,KZ,Iz,HS⟩:=hrel;obtain⟨io,ic,rfl,Fh,Wl,-⟩:=Iz.out.form;have Rv:=xq.out;rw[Rv] at Fh
    by_cases hil2:i<M
    ·obtain⟨ia,ib,Oy,il,OD,rfl,i0,i1,hin⟩:=(HI.out.below HS.out).2 i (by omega);have zB:=aa hin;clear hin Rv;obtain⟨SJ,k9,e9,Ur,Fm,TL,DC⟩:=aL wr #[.bool ib,.slice Oy il OD] 26;replace zB:=aa (zB.out.below Fm.out);replace Iz:=aa (Iz.out.below Fm.out);replace HS:=aa (HS.out.trans (Fm.out.mono HS.out.size));have g0:=ae (v:=.bool ib) DC.out 0 rfl;have nF:=af DC.out 0;have g1:=ae (v:=.slice Oy il OD) DC.out 1 rfl;have nD:=af DC.out 1;go_wp2_with fail
     refine (Cd ib Oy il OD SJ zB.out).mono ?_;rintro e SI ⟨v,z,rfl,hz,hb⟩;clear g0 nF g1 nD;replace DC:=aG hb DC;replace zB:=aa (zB.out.below hb);replace Iz:=aa (Iz.out.below hb);replace HS:=aa (HS.out.trans (hb.mono HS.out.size));clear hb;obtain⟨nu,zb,zo,zl,zc,rfl,hne,Ai,I5⟩:=hz.unit (by decide);have IC:=aa hne;have Js:=aa Ai;have FP:=aa I5;have UP:=aa hz.lt;clear hz hne Ai I5;obtain⟨VO,kq,eq,Cy,iC,yn,gA⟩:=aL SI #[.bool zb,.slice zo zl zc] 26;replace DC:=aG iC.out DC;replace zB:=aa (zB.out.below iC.out);replace Iz:=aa (Iz.out.below iC.out);replace HS:=aa (HS.out.trans (iC.out.mono HS.out.size));replace FP:=aa (nE.below FP.out iC.out);have qD:=aa (Cm gA.out IC.out FP.out)
     go_wp2_with (at_builtin;refine El.Row.append (E:=nE) Iz.out rfl (.tmp 38) (.tmp 41) rfl rfl rfl qD.out (by rw[xq.out];simp;omega) HS.out.size ?_;intro v9 w9 r1 r2 r3 r4)
     go_roundw
     case rel=>exact⟨i+1,ns++[nu],by go_num,hil2,aa (by rw[fI,xq.out];rfl),aa (fun y hy=>by rcases List.mem_append.1 hy with hy | hy;exact KZ.out y hy;rw[dG] at hy;subst hy;rw[Js.out];exact UP.out),aa r1,aa (HS.out.trans r3)⟩
     case measure=>simp[fH];omega
    have eM:i=M:=by omega
    go_wp2_with fail
    have Kb:NL wr (.slice io M ic) (ns.map (·.z)):=⟨ns,by have h:=Iz.out.at;rw[xq.out,eM] at h;exact h,rfl⟩
    replace HR:=aa (HR.out.below HS.out);replace HW:=aa (HW.out.trans (HS.out.mono HW.out.size));refine (oW _ (ns.map (·.z)) wr Kb (by simp;omega)).mono ?_;rintro e SG ⟨v,rfl,hc,hb⟩;replace HR:=aa (HR.out.below hb);replace HW:=aa (HW.out.trans (hb.mono HW.out.size));clear hb;obtain⟨u,uk,ub,uo,ul,uc,ud,up,um,uq,rfl,Cp,Co,Af⟩:=hc.unit;have Iw:=aa Cp;have AL:=aa Co;have xJ:=aa Af;clear hc Cp Co Af;obtain⟨VN,kq,eq,Cy,iC,yn,gA⟩:=aL SG #[.int .i64 uk,.bool ub,.slice uo ul uc,.bool ud,.slice up um uq] 41;replace HR:=aa (HR.out.below iC.out);replace HW:=aa (HW.out.trans (iC.out.mono HW.out.size));replace xJ:=aa (xJ.out.below iC.out);have qD:=aa (yH gA.out Iw.out xJ.out)
    go_wp2_with (at_builtin;refine El.Row.append (E:=vE) HR.out rfl (.tmp 44) (.tmp 47) rfl rfl rfl qD.out (by rw[HU.out];simp;omega) HW.out.size ?_;intro v9 w9 r1 r2 r3 r4)
    go_roundw
    case rel=>exact⟨j+1,us++[u],by go_num,hlt,aa (by rw[fI,HU.out];rfl),aa (fun y hy=>by rcases List.mem_append.1 hy with hy | hy;exact N7.out y hy;rw[dG] at hy;subst hy;rw[AL.out];exact⟨by rw[iM,xq.out];omega,fun y hy=>by obtain⟨t,ht,rfl⟩:=List.mem_map.1 hy;exact KZ.out t ht⟩),aa (by rw[dN];exact B6.out.snoc (fun a2 k2 e hc=>by rw[Nq.out a2 k2 e hc,hK];show fu u.x=_;rw[AL.out];rfl)),aa r1,aa (HW.out.trans r3)⟩
    case measure=>simp[fH];omega
  go_wp2_with fail
  exact aB (results_tmp Tryz.results56 _ _ _) rfl ⟨_,us.map (·.x),rfl,⟨us,HR.out.at,rfl⟩,by rw[iM,HU.out,<-Vd.out];omega,fun x hx=>by obtain⟨t,ht,rfl⟩:=List.mem_map.1 hx;exact N7.out t ht,B6.out,HW.out⟩
inductive F where
 | node (o z:Int) (nm:ByteArray) (ks:List F)
def F.op:F->Int | .node o _ _ _=>o
def F.num:F->Int | .node _ z _ _=>z
def F.name:F->ByteArray | .node _ _ nm _=>nm
def F.kids:F->List F | .node _ _ _ ks=>ks
def jh (o:Int):Int:=if 8<=o/\o<=11 then 2 else if 12<=o/\o<=20 then 1 else 0
def bB (o:Int) (ss:List Int):Bool:=
 if o=0\/o=1\/o=8\/o=9\/o=12\/o=13\/o=14 then decide (ss=[])
 else if o=3\/o=5 then decide (ss=[0])
 else if o=2\/o=4\/o=15 then decide (ss=[0,0])
 else if o=6\/o=7\/o=11 then decide (ss=[2])
 else if o=10 then decide (ss=[0,2])
 else if o=16 then decide (ss=[0,0]) || decide (ss=[2,2])
 else if o=17 then decide (ss=[1])
 else if o=18\/o=19 then ss.all (fun s=>decide (s=1))
 else if o=20 then decide (ss=[1,1])
 else false
def cO (o z:Int) (ss:List Int):Bool:=bB o ss && (decide (o≠5) || decide (1<=z))
def fP (ks:List F):List Int:=ks.map fun f=>jh f.op
mutual
def rt:F->Bool
 | .node o z _ ks=>cO o z (fP ks) && rts ks
def rts:List F->Bool
 | []=>true
 | f::l=>rt f && rts l
end
theorem pF:∀ l:List F,rts l=l.all rt
 | []=>rfl
 | f::l=>by rw[rts,List.all_cons,pF l]
mutual
def F_:F->Nat
 | .node _ _ _ ks=>1+pE ks
def pE:List F->Nat
 | []=>0
 | f::l=>F_ f+pE l
end
theorem wh:∀ a b:List F,pE (a++b)=pE a+pE b
 | [],b=>by simp[pE]
 | f::a,b=>by rw[jV,pE,pE,wh a b];omega
theorem CT (ks:List F) (j:Nat) (h:j<ks.length):pE (ks.take (j+1))=pE (ks.take j)+F_ ks[j]:=by
 rw[bH h,wh,pE,pE];omega
theorem yD (ks:List F) (j:Nat):pE (ks.take j)<=pE ks:=by
 have:=wh (ks.take j) (ks.drop j);rw[List.take_append_drop] at this;omega
def fM:V->Int
 | .I z=>z
 | _=>0
def gX:V->Bool
 | .B b=>b
 | _=>false
def mB:V->List Int
 | .L l=>l
 | _=>[]
def sN (vs:List V):V:=vs.getD 0 (.I 0)
def AZ (vs:List V):V:=vs.getD 1 (.I 0)
def qJ (r:ByteArray->V) (o z:Int) (nm:ByteArray) (vs:List V):V:=
 if o=0 then .I z
 else if o=1 then .I (fM (r nm))
 else if o=2 then .I (fM (sN vs)+fM (AZ vs))
 else if o=3 then .I (z*fM (sN vs))
 else if o=4 then .I (fM (sN vs)*fM (AZ vs))
 else if o=5 then .I (Int.fdiv (fM (sN vs)) z)
 else if o=6 then .I ((mB (sN vs)).length:Nat)
 else if o=7 then .I ((mB (sN vs)).headD 0)
 else if o=8 then .L (mB (r nm))
 else if o=9 then .L []
 else if o=10 then .L (fM (sN vs)::mB (AZ vs))
 else if o=11 then .L (mB (sN vs)).tail
 else if o=12 then .B true
 else if o=13 then .B false
 else if o=14 then .B (gX (r nm))
 else if o=15 then .B (decide (fM (sN vs)<=fM (AZ vs)))
 else if o=16 then .B (decide (sN vs=AZ vs))
 else if o=17 then .B (!gX (sN vs))
 else if o=18 then .B (vs.all gX)
 else if o=19 then .B (vs.any gX)
 else if o=20 then .B (gX (sN vs)==gX (AZ vs))
 else .I 0
mutual
def ev (r:ByteArray->V):F->V
 | .node o z nm ks=>qJ r o z nm (iH r ks)
def iH (r:ByteArray->V):List F->List V
 | []=>[]
 | f::l=>ev r f::iH r l
end
theorem lO (r:ByteArray->V):∀ l:List F,iH r l=l.map (ev r)
 | []=>rfl
 | f::l=>by rw[iH,A3,lO r l]
theorem zY (o:Int):(o=0\/o=1\/o=2\/o=3\/o=4\/o=5\/o=6\/o=7\/o=8\/o=9\/o=10\/o=11\/o=12\/o=13\/o=14\/o=15\/o=16\/o=17\/o=18\/o=19\/o=20)\/(o<0\/20<o):=by omega
theorem Eo (r:ByteArray->V) (o z:Int) (nm:ByteArray) (vs:List V):fu (qJ r o z nm vs)=jh o:=by
 rcases zY o with h | h
 ·rcases h with rfl | rfl | rfl | rfl | rfl | rfl | rfl | rfl | rfl | rfl | rfl | rfl | rfl | rfl | rfl | rfl | rfl | rfl | rfl | rfl | rfl<;>rfl
 unfold qJ jh;rw[if_neg (by omega),if_neg (by omega),if_neg (by omega),if_neg (by omega),if_neg (by omega),if_neg (by omega),if_neg (by omega),if_neg (by omega),if_neg (by omega),if_neg (by omega),if_neg (by omega),if_neg (by omega),if_neg (by omega),if_neg (by omega),if_neg (by omega),if_neg (by omega),if_neg (by omega),if_neg (by omega),if_neg (by omega),if_neg (by omega),if_neg (by omega),if_neg (by omega),if_neg (by omega)]
 rfl
theorem y_ (r:ByteArray->V):∀ f:F,fu (ev r f)=jh f.op
 | .node o z nm ks=>by rw[ev];exact Eo r o z nm _
theorem mb {r:ByteArray->V} {f:F} (h:jh f.op=0):ev r f=.I (fM (ev r f)):=by
 have:=y_ r f;rw[h] at this
 cases he:ev r f with
 | I z=>rfl
 | B b=>rw[he] at this;cases this
 | L l=>rw[he] at this;cases this
theorem tD {r:ByteArray->V} {f:F} (h:jh f.op=1):ev r f=.B (gX (ev r f)):=by
 have:=y_ r f;rw[h] at this
 cases he:ev r f with
 | I z=>rw[he] at this;cases this
 | B b=>rfl
 | L l=>rw[he] at this;cases this
theorem my {r:ByteArray->V} {f:F} (h:jh f.op=2):ev r f=.L (mB (ev r f)):=by
 have:=y_ r f;rw[h] at this
 cases he:ev r f with
 | I z=>rw[he] at this;cases this
 | B b=>rw[he] at this;cases this
 | L l=>rfl
def rH:V->Prop
 | .I z=>z.natAbs<aH ^ 600
 | .B _=>True
 | .L l=>l.length<=1000/\∀ z ∈ l,z.natAbs<aH ^ 600
mutual
def Sm (r:ByteArray->V):F->Prop
 | .node o z nm ks=>rH (qJ r o z nm (iH r ks))/\Ir r ks
def Ir (r:ByteArray->V):List F->Prop
 | []=>True
 | f::l=>Sm r f/\Ir r l
end
theorem Ir.get {r:ByteArray->V}:∀ {l:List F},Ir r l->∀ f ∈ l,Sm r f
 | [],_,f,hf=>by cases hf
 | a::l,h,f,hf=>by
  rw[Ir] at h;rcases List.mem_cons.1 hf with rfl | hf
  ·exact h.1
  exact h.2.get f hf
theorem Sm.val {r:ByteArray->V}:∀ {f:F},Sm r f->rH (ev r f)
 | .node o z nm ks,h=>by rw[Sm] at h;rw[ev];exact h.1
theorem Sm.kG {r:ByteArray->V} {o z:Int} {nm:ByteArray} {ks:List F} (h:Sm r (.node o z nm ks)):∀ f ∈ ks,Sm r f:=by
 rw[Sm] at h;exact h.2.get
def a_ (env:List (ByteArray × V)) (nm:ByteArray):V:=env.foldl (fun a p=>if p.1=nm then p.2 else a) (.I 0)
theorem vI (env:List (ByteArray × V)) (p:ByteArray × V) (nm:ByteArray):a_ (env++[p]) nm=if p.1=nm then p.2 else a_ env nm:=by
 unfold a_;rw[List.foldl_append];rfl
theorem zW (env:List (ByteArray × V)) (nm:ByteArray) (j:Nat) (h:j<env.length):a_ (env.take (j+1)) nm=if env[j].1=nm then env[j].2 else a_ (env.take j) nm:=by
 rw[bH h,vI]
def xg (w:an) (v v':ay):Prop:=∀ g,v'.ownBlock=some g->v.ownBlock=some g\/w.heap.size<=g
theorem rX {P:rL} {w w':an} {t ty e:bu} {i:TypeInfo} {z:ay} (ht:P.underlying t=some (.slice e)) (hi:P.info? e=some i) (hz:i.zero=some z)
  {base n m c:Nat} {v v':ay} {xs news:List ay} (hown:w.ownsRow base e i.size v n xs) {a:cH} (hl:news.length=m*i.size) (hnews:∀ j u,news[j]?=some u->w.cell? (a.add j)=some u) (h1:∀ u ∈ news,u.oneCell'=true)
  (h63:n+m<=1000000000) (hbytes:(n+m)*i.bytes<=140737488355328) (hm:0<m) (hzs:z.cells.size=i.size) (hsz:0<i.size)
  (hr:(Builtin.append_ #[t,t] ty #[v,.slice (some a) m c]).run P w=.ok v' w'):xg w v v':=by
 have h0:=hown;rcases hown.2 with ⟨rfl,rfl⟩ | ⟨g,cap,cur,rfl,Gf,hg,hnc,K_,hcs,htake⟩
 ·have hx:xs=[]:=List.eq_nil_of_length_eq_zero (by simpa using hown.1);subst hx;obtain⟨v2,w2,vL,OW,_,_⟩:=run_append_own (P:=P) w w.heap.size t ty e i z i.size i.bytes ht hi hz rfl rfl hzs hsz (.slice none 0 0) 0 [] (World.ownsRow_nil w _ e i.size) a m c news hl hnews h1 (by unfold fO;omega) hbytes (ak _);rw[hr] at vL;injection vL with e1 e2;subst e1;exact fun g hg=>.inr (OW.lt g hg).1
 by_cases hroom:n+m<=cap
 ·have hfit:n*i.size+news.length<=cur.size:=by rw[hl,hcs,<-cL];exact aU _ hroom
  rw[run_append_room (P:=P) w t ty e i ht hi g n cap cur hg a m c news hl hnews h1 hroom hfit] at hr;injection hr with e1 e2;subst e1;exact fun q hq=>.inl hq
 rw[run_append_grow (P:=P) w t ty e i z ht hi hz ⟨g,0,none⟩ n cap xs h0.1 (h0.cells (g:=g) rfl) a m c news hl hnews (by omega) (by omega) (growslice_fits (by omega) hbytes)] at hr;injection hr with e1 e2;subst e1;intro q hq;injection hq with hq;exact .inr (by rw[<-hq];exact ak _)
theorem sR {P:rL} (w:an) {ops:Array fg} {rest:List fg} {o:fg} {a:Act} {Q:Exit->Act->an->Prop} (hgd:o.guard=none) (s x:Operand) (t:bu)
  (ho:o.op=.call { callee:=.builtin .append,args:=#[s,x],argTypes:=#[t,t] })
  (e:bu) (ht:P.underlying t=some (.slice e)) {z:ay} {size bytes:Nat} (hinfo:(P.info? e).map (fun i=>(i.zero,i.size,i.bytes))=some (some z,size,bytes)) (hzs:z.cells.size=size) (hsz:0<size) (hby:bytes<=1000)
  (base:Nat) (v:ay) (n:Nat) (xs:List ay) (hs:a.eval s=v) (hown:w.ownsRow base e size v n xs)
  (h:Nat) (T:bu) (cs:List ay) (hcs:cs.length=size) (h1:∀ u ∈ cs,u.oneCell'=true) (hx:a.eval x=.slice (some ⟨h,0,none⟩) 1 1) (hc:w.heap[h]?=some (.cells cs.toArray T (0,0)))
  (hlen:n<=1000000) (hbase:base<=w.heap.size)
  (hK:∀ v' w',w'.ownsRow base e size v' (n+1) (xs++cs)->w.grownBy w' v.ownBlock->xg w v v'->wpList P ops Q rest (a.put o.dst v') w'):wpList P ops Q (o::rest) a w:=by
 obtain⟨i,hi,hz,jK,tN⟩:=oI hinfo;subst jK tN;have hnews:∀ j u,cs[j]?=some u->w.cell? ((⟨h,0,none⟩:cH).add j)=some u:=fun j u hj=>World.news_of_block hc j u (by simpa using hj)
 have cV:(n+1)*i.bytes<=140737488355328:=aq (lj (show n+1<=1000001 by omega) hby) (by decide);refine wpList_plain hgd fun K hk=>?_
 obtain⟨v',w',hr,h2,h3,h4⟩:=run_append_own (P:=P) w base t o.type e i z i.size i.bytes ht hi hz rfl rfl hzs hsz v n xs hown ⟨h,0,none⟩ 1 1 cs (by rw[hcs,Nat.one_mul]) hnews h1 (by unfold fO;omega) cV hbase;have hf:=rX ht hi hz hown (c:=1) (m:=1) (by rw[hcs,Nat.one_mul]) hnews h1 (by omega) cV (by decide) hzs hsz hr;unfold Oper.wp execOp;simp only[ho,resolve,invoke,builtin,Sem.run_bind,Sem.run_pure,Result.andThen_ok,List.map_toArray,A3,List.map_nil,hs,hx,hr];exact hk _ _ (hK v' w' h2 h3 hf)
theorem BW {w w':an} {p:cH} (h:w'.heap[p.block]?=w.heap[p.block]?):w'.cell? p=w.cell? p:=sD h
def Gq (n:Nat) (w:an) (ko:Option cH) (i:Nat) (cs:List ay):Prop:=∃ a,ko=some a/\∀ j v,cs[j]?=some v->w.cell? ((a.add (i*n)).add j)=some v
theorem Gq.keep {n:Nat} {w w':an} {ko:Option cH} {i:Nat} {cs:List ay} (h:Gq n w ko i cs) (hk:∀ a,ko=some a->w'.heap[a.block]?=w.heap[a.block]?):Gq n w' ko i cs:=by
 obtain⟨a,rfl,h⟩:=h;refine⟨a,rfl,fun j v hv=>?_⟩;rw[BW (w:=w) (by rw[kI,kI];exact hk a rfl)];exact h j v hv
theorem Gq.lt {n:Nat} {w:an} {ko:Option cH} {i:Nat} {c:ay} {cs:List ay} (h:Gq n w ko i (c::cs)):∀ a,ko=some a->a.block<w.heap.size:=by
 obtain⟨a,rfl,h⟩:=h;rintro _ ⟨⟩;have:=bS (h 0 _ rfl)
 rwa [kI,kI] at this
theorem Cj {n:Nat} {w:an} {base:Nat} {e:bu} {ko:Option cH} {m kc:Nat} {α:Type} (f:α->List ay) (hf:∀ a,(f a).length=n) {ys:List α} (hm:m=ys.length) (h:w.ownsRow base e n (.slice ko m kc) m (ys.flatMap f)) (i:Nat) (hi:i<ys.length):Gq n w ko i (f ys[i]):=by
 have hfl:∀ (l:List α) (i j:Nat) (hi:i<l.length),j<n->(l.flatMap f)[i*n+j]?=(f l[i])[j]?:=by
  intro l
  induction l with
  | nil=>intro i j hi;simp at hi
  | cons a l ih =>
   intro i j hi hj;rw[eT]
   cases i with
   | zero=>rw[Nat.zero_mul,eG,iK (by rw[hf];exact hj)];rfl
   | succ i =>
    rw[iz (by rw[hf,cL];omega),hf,show (i+1)*n+j - n=i*n+j by rw[cL];omega,List.getElem_cons_succ];exact ih i j (by simpa using hi) hj
 have Wi:∀ l:List α,(l.flatMap f).length=l.length*n:=by
  intro l
  induction l with
  | nil=>simp
  | cons a l ih=>rw[eT,fI,ih,hf,ru,cL];omega
 have h0:=h;rcases h.2 with ⟨hv,h1⟩ | ⟨g,cap,cur,hv,hb,hg,h1,h2,h3,h4⟩
 ·omega
 injection hv with e1 e2 e3;subst e1 e3;refine⟨_,rfl,fun j v hj=>?_⟩;have Mh:j<n:=by have:=(List.getElem?_eq_some_iff.1 hj).1;rwa [hf] at this
 rw[j8,j8,eG,lC h0 (i*n+j) (by
  rw[hm]
  calc i*n+j<i*n+n:=by omega
   _=(i+1)*n:=by rw[cL];omega
   _<=ys.length*n:=aU _ hi),hfl ys i j hi Mh]
 exact hj
theorem xX {w:an} {base:Nat} {e:bu} {size:Nat} {v:ay} {n:Nat} {xs:List ay} (h:w.ownsRow base e size v n xs):∃ ko kc,v=.slice ko n kc/\n<=kc:=by
 rcases h.2 with ⟨rfl,rfl⟩ | ⟨g,cap,cur,rfl,_,_,h1,_⟩
 ·exact⟨_,_,rfl,ak _⟩
 exact⟨_,_,rfl,h1⟩
def KN (w w':an):Prop:=∀ (a:cH) (z:Int),w.cell? a=some (.int .u32 z)->w'.cell? a=some (.int .u32 z)
theorem KN.oV {w w':an} (h:aC w.heap.size w w'):KN w w':=fun a z hc=>by rw[h.cell (bW w a hc)];exact hc
theorem KN.fG {e:bu} {w w':an} (h:Fr e w w'):KN w w':=h.num
theorem KN.trans {a b c:an} (h:KN a b) (k:KN b c):KN a c:=fun p z hp=>k p z (h p z hp)
theorem Sl.kn {w w':an} {v:ay} {xs:List Nat} (h:Sl w .u32 v xs) (k:KN w w'):Sl w' .u32 v xs:=by
 obtain⟨ao,cap,e1,h1,h2,h3,h4⟩:=h;refine⟨ao,cap,e1,h1,h2,h3,fun i hi=>?_⟩;obtain⟨a,ha,hc⟩:=h4 i hi;exact⟨a,ha,k _ _ hc⟩
theorem CI.kn {w w':an} {v:ay} {z:Int} {k:Nat} (h:CI w v z k) (f:KN w w'):CI w' v z k:=by
 obtain⟨va,h1,h2,h3⟩:=h;exact⟨va,h1,h2.kn f,h3⟩
structure Es (α:Type) where
 e:bu
 n:Nat
 f:α->List ay
 R:an->(Nat->Prop)->α->Prop
 pos:0<n
 len:∀ a,(f a).length=n
 one:∀ a,∀ u ∈ f a,u.oneCell'=true
 keep:∀ {w w':an} {S:Nat->Prop} {a:α},(∀ g,S g->w'.heap[g]?=w.heap[g]?)->KN w w'->R w S a->R w' S a
 mono:∀ {w:an} {S S':Nat->Prop} {a:α},(∀ g,S g->S' g)->R w S a->R w S' a
 lt:∀ {w:an} {S:Nat->Prop} {a:α},R w S a->R w (fun g=>S g/\g<w.heap.size) a
section
variable {α:Type} (E:Es α)
theorem Es.below {w w':an} {S:Nat->Prop} {a:α} (h:E.R w S a) (hb:aC w.heap.size w w'):E.R w' S a:=E.mono (fun _ h=>h.1) (E.keep (fun g hg=>hb.block g hg.2) (KN.oV hb) (E.lt h))
theorem Es.grown {w w':an} {S:Nat->Prop} {a:α} {r:Option Nat} (h:E.R w S a) (hg:w.grownBy w' r) (hn:KN w w') (hS:∀ b,S b->r≠some b):E.R w' S a:=
 E.mono (fun _ h=>h.1) (E.keep (fun q hq=>hg.block q hq.2 (fun e=>hS q hq.1 e.symm)) hn (E.lt h))
variable {E}
def Es.At (E:Es α) (w:an) (S:Nat->Prop) (v:ay) (el:List α):Prop:=∃ ko kc,v=.slice ko el.length kc/\(el.length<=kc/\kc<=fO/\(ko=none->kc=0))/\(el.length≠0->∀ a,ko=some a->S a.block)/\∀ i (h:i<el.length),Gq E.n w ko i (E.f el[i])/\E.R w S el[i]
theorem Es.At.keep {w w':an} {S:Nat->Prop} {v:ay} {el:List α} (hk:∀ g,S g->w'.heap[g]?=w.heap[g]?) (hn:KN w w') (h:E.At w S v el):E.At w' S v el:=by
 obtain⟨ko,kc,rfl,h1,h2,h3⟩:=h;exact⟨ko,kc,rfl,h1,h2,fun i hi=>⟨(h3 i hi).1.keep fun a ha=>hk _ (h2 (by omega) a ha),E.keep hk hn (h3 i hi).2⟩⟩
theorem Es.At.mono {w:an} {S S':Nat->Prop} {v:ay} {el:List α} (hs:∀ g,S g->S' g) (h:E.At w S v el):E.At w S' v el:=by
 obtain⟨ko,kc,rfl,h1,h2,h3⟩:=h;exact⟨ko,kc,rfl,h1,fun h0 a ha=>hs _ (h2 h0 a ha),fun i hi=>⟨(h3 i hi).1,E.mono hs (h3 i hi).2⟩⟩
theorem Es.At.lt {w:an} {S:Nat->Prop} {v:ay} {el:List α} (h:E.At w S v el):E.At w (fun g=>S g/\g<w.heap.size) v el:=by
 obtain⟨ko,kc,rfl,h1,h2,h3⟩:=h;refine⟨ko,kc,rfl,h1,fun h0 a ha=>⟨h2 h0 a ha,?_⟩,fun i hi=>⟨(h3 i hi).1,E.lt (h3 i hi).2⟩⟩;have h:=(h3 0 (by omega)).1
 cases hf:E.f (el[0]'(by omega)) with
 | nil=>have:=E.len (el[0]'(by omega));rw[hf] at this;have:=E.pos;simp at *;omega
 | cons c cs=>rw[hf] at h;exact h.lt a ha
theorem Es.At.below {w w':an} {S:Nat->Prop} {v:ay} {el:List α} (h:E.At w S v el) (hb:aC w.heap.size w w'):E.At w' S v el:=(Es.At.keep (fun g hg=>hb.block g hg.2) (KN.oV hb) h.lt).mono fun _ h=>h.1
theorem Es.At.grown {w w':an} {S:Nat->Prop} {v:ay} {el:List α} {r:Option Nat} (h:E.At w S v el) (hg:w.grownBy w' r) (hn:KN w w') (hS:∀ b,S b->r≠some b):E.At w' S v el:=
 (Es.At.keep (fun q hq=>hg.block q hq.2 (fun e=>hS q hq.1 e.symm)) hn h.lt).mono fun _ h=>h.1
end
theorem EN:(Tryz.prog.info? 29).map (fun i=>(i.zero,i.size,i.bytes))=some (some (.agg #[.int .i64 0,.bool false,.slice none 0 0,.string ⟨#[]⟩,.slice none 0 0]),5,80):=by kernel_rfl
structure FU where
 k:Int
 n:NU
 nm:ByteArray
 ko:Option cH
 kl:Nat
 kc:Nat
def fC (u:FU):List ay:=[.int .i64 u.k,.bool (decide (u.n.z<0)),.slice u.n.o u.n.l u.n.c,.string u.nm,.slice u.ko u.kl u.kc]
def fV (u:FU):ay:=.agg #[.int .i64 u.k,.bool (decide (u.n.z<0)),.slice u.n.o u.n.l u.n.c,.string u.nm,.slice u.ko u.kl u.kc]
def IR (z:Int):Prop:=-9223372036854775808<=z/\z<=9223372036854775807
def FT (w:an) (S:Nat->Prop):Nat->FU->F->Prop
 | 0,_,_=>False
 | d+1,u,t=>(u.k=t.op/\IR u.k/\u.n.z=t.num/\u.nm=t.name)/\NR w u.n/\∃ el:List (FU × F),el.map (·.2)=t.kids/\(u.kl=el.length/\el.length<=u.kc/\u.kc<=fO/\(u.ko=none->u.kc=0)) /\
   (el.length≠0->∀ a,u.ko=some a->S a.block)/\∀ i (h:i<el.length),Gq 5 w u.ko i (fC el[i].1)/\FT w S d el[i].1 el[i].2
theorem FT.keep {w w':an} {S:Nat->Prop} (hk:∀ g,S g->w'.heap[g]?=w.heap[g]?) (hn:KN w w'):∀ {d:Nat} {u:FU} {t:F},FT w S d u t->FT w' S d u t
 | 0,_,_,h=>h
 | d+1,u,t,⟨h1,h2,el,h3,h4,h5,h6⟩=>⟨h1,CI.kn h2 hn,el,h3,h4,h5,fun i hi=>⟨(h6 i hi).1.keep fun a ha=>hk _ (h5 (by omega) a ha),(h6 i hi).2.keep hk hn⟩⟩
theorem FT.mono {w:an} {S S':Nat->Prop} (hs:∀ g,S g->S' g):∀ {d:Nat} {u:FU} {t:F},FT w S d u t->FT w S' d u t
 | 0,_,_,h=>h
 | d+1,u,t,⟨h1,h2,el,h3,h4,h5,h6⟩=>⟨h1,h2,el,h3,h4,fun h0 a ha=>hs _ (h5 h0 a ha),fun i hi=>⟨(h6 i hi).1,(h6 i hi).2.mono hs⟩⟩
theorem FT.lt {w:an} {S:Nat->Prop}:∀ {d:Nat} {u:FU} {t:F},FT w S d u t->FT w (fun g=>S g/\g<w.heap.size) d u t
 | 0,_,_,h=>h
 | d+1,u,t,⟨h1,h2,el,h3,h4,h5,h6⟩=>⟨h1,h2,el,h3,h4,fun h0 a ha=>⟨h5 h0 a ha,(h6 0 (by omega)).1.lt a ha⟩,fun i hi=>⟨(h6 i hi).1,(h6 i hi).2.lt⟩⟩
theorem FT.up {w:an} {S:Nat->Prop}:∀ {d:Nat} {u:FU} {t:F},FT w S d u t->∀ {d':Nat},d<=d'->FT w S d' u t
 | 0,_,_,h,_,_=>absurd h id
 | d+1,u,t,⟨h1,h2,el,h3,h4,h5,h6⟩,0,hd=>by omega
 | d+1,u,t,⟨h1,h2,el,h3,h4,h5,h6⟩,d'+1,hd=>⟨h1,h2,el,h3,h4,h5,fun i hi=>⟨(h6 i hi).1,(h6 i hi).2.up (Nat.le_of_succ_le_succ hd)⟩⟩
def fE (d:Nat):Es (FU × F) where
 e:=29
 n:=5
 f q:=fC q.1
 R w S q:=FT w S d q.1 q.2
 pos:=by decide
 len _:=rfl
 one q:=by
  intro u hu;simp only[fC,dw,cl,or_false] at hu;rcases hu with rfl | rfl | rfl | rfl | rfl<;>rfl
 keep h n k:=k.keep h n
 mono h k:=k.mono h
 lt k:=k.lt
theorem FT.below {w w':an} {S:Nat->Prop} {d:Nat} {u:FU} {t:F} (h:FT w S d u t) (hb:aC w.heap.size w w'):FT w' S d u t:=(fE d).below (a:=(u,t)) h hb
theorem FT.grown {w w':an} {S:Nat->Prop} {d:Nat} {u:FU} {t:F} {r:Option Nat} (h:FT w S d u t) (hg:w.grownBy w' r) (hn:KN w w') (hS:∀ b,S b->r≠some b):FT w' S d u t:=(fE d).grown (a:=(u,t)) h hg hn hS
def FC (w:an) (S:Nat->Prop) (d:Nat) (v:ay) (t:F):Prop:=∃ u:FU,v=fV u/\FT w S d u t
def FL (w:an) (S:Nat->Prop) (d:Nat) (v:ay) (ts:List F):Prop:=∃ el:List (FU × F),(fE d).At w S v el/\el.map (·.2)=ts
theorem FC.below {w w':an} {S:Nat->Prop} {d:Nat} {v:ay} {t:F} (h:FC w S d v t) (hb:aC w.heap.size w w'):FC w' S d v t:=by
 obtain⟨u,h1,h2⟩:=h;exact⟨u,h1,h2.below hb⟩
theorem FC.mono {w:an} {S S':Nat->Prop} {d:Nat} {v:ay} {t:F} (hs:∀ g,S g->S' g) (h:FC w S d v t):FC w S' d v t:=by
 obtain⟨u,h1,h2⟩:=h;exact⟨u,h1,h2.mono hs⟩
theorem FC.up {w:an} {S:Nat->Prop} {d d':Nat} {v:ay} {t:F} (h:FC w S d v t) (hd:d<=d'):FC w S d' v t:=by
 obtain⟨u,h1,h2⟩:=h;exact⟨u,h1,h2.up hd⟩
theorem FC.grown {w w':an} {S:Nat->Prop} {d:Nat} {v:ay} {t:F} {r:Option Nat} (h:FC w S d v t) (hg:w.grownBy w' r) (hn:KN w w') (hS:∀ b,S b->r≠some b):FC w' S d v t:=by
 obtain⟨u,h1,h2⟩:=h;exact⟨u,h1,h2.grown hg hn hS⟩
theorem FL.below {w w':an} {S:Nat->Prop} {d:Nat} {v:ay} {ts:List F} (h:FL w S d v ts) (hb:aC w.heap.size w w'):FL w' S d v ts:=by
 obtain⟨el,h1,h2⟩:=h;exact⟨el,h1.below hb,h2⟩
theorem FL.mono {w:an} {S S':Nat->Prop} {d:Nat} {v:ay} {ts:List F} (hs:∀ g,S g->S' g) (h:FL w S d v ts):FL w S' d v ts:=by
 obtain⟨el,h1,h2⟩:=h;exact⟨el,h1.mono hs,h2⟩
theorem FL.grown {w w':an} {S:Nat->Prop} {d:Nat} {v:ay} {ts:List F} {r:Option Nat} (h:FL w S d v ts) (hg:w.grownBy w' r) (hn:KN w w') (hS:∀ b,S b->r≠some b):FL w' S d v ts:=by
 obtain⟨el,h1,h2⟩:=h;exact⟨el,h1.grown hg hn hS,h2⟩
theorem FC.open {w:an} {S:Nat->Prop} {d:Nat} {v:ay} {t:F} (h:FC w S d v t):∃ (b:Bool) (o:Option cH) (l c:Nat) (ko:Option cH) (kl kc:Nat),
  v=.agg #[.int .i64 t.op,.bool b,.slice o l c,.string t.name,.slice ko kl kc]/\(IR t.op/\CI w (.agg #[.bool b,.slice o l c]) t.num 600/\kl=t.kids.length/\kl<=kc/\kc<=fO)/\1<=d/\FL w S (d - 1) (.slice ko kl kc) t.kids:=by
 obtain⟨u,rfl,h⟩:=h
 cases d with
 | zero=>exact absurd h id
 | succ d =>
  obtain⟨⟨h1,h2,h3,h4⟩,h5,el,h6,⟨h7,h8,h9,h10⟩,h11,h12⟩:=h;have Uj:u.kl=t.kids.length:=by rw[h7,<-h6,iM]
  have Ku:u.kl<=u.kc:=by rw[h7];exact h8
  refine⟨decide (u.n.z<0),u.n.o,u.n.l,u.n.c,u.ko,u.kl,u.kc,?_,⟨by rw[<-h1];exact h2,?_,Uj,Ku,h9⟩,Nat.succ_le_succ (au _),el,⟨u.ko,u.kc,by rw[h7],⟨h8,h9,h10⟩,h11,h12⟩,h6⟩
  ·unfold fV;rw[h1,h4]
  rw[<-h3];exact h5
theorem FL.form {w:an} {S:Nat->Prop} {d:Nat} {v:ay} {ts:List F} (h:FL w S d v ts):∃ ko kc,v=.slice ko ts.length kc/\(ts.length<=kc/\kc<=fO/\(ko=none->kc=0)):=by
 obtain⟨el,⟨ko,kc,rfl,h1,-⟩,rfl⟩:=h;exact⟨ko,kc,by simp,by simpa using h1⟩
theorem FL.cells {w:an} {S:Nat->Prop} {d:Nat} {ko:Option cH} {n kc:Nat} {ts:List F} (h:FL w S d (.slice ko n kc) ts) (i:Nat) (hi:i<ts.length):∃ (a:cH) (b:Bool) (o:Option cH) (l c:Nat) (po:Option cH) (pl pc:Nat),ko=some a /\
  (w.cell? (a.add (i*5))=some (.int .i64 ts[i].op)/\w.cell? ⟨(a.add (i*5)).block,(a.add (i*5)).off+1,none⟩=some (.bool b)/\w.cell? ⟨(a.add (i*5)).block,(a.add (i*5)).off+2,none⟩=some (.slice o l c) /\
   w.cell? ⟨(a.add (i*5)).block,(a.add (i*5)).off+3,none⟩=some (.string ts[i].name)/\w.cell? ⟨(a.add (i*5)).block,(a.add (i*5)).off+4,none⟩=some (.slice po pl pc)) /\
  FC w S d (.agg #[.int .i64 ts[i].op,.bool b,.slice o l c,.string ts[i].name,.slice po pl pc]) ts[i]:=by
 obtain⟨el,⟨EG,Bn,e,h1,h2,h3⟩,rfl⟩:=h;injection e with e1 e2 e3;subst e1;have hi':i<el.length:=by simpa using hi
 obtain⟨⟨a,ha,hc⟩,hT⟩:=h3 i hi';simp only[nX]
 have hk:el[i].1.k=el[i].2.op/\el[i].1.nm=el[i].2.name:=by
  cases d with
  | zero=>exact absurd hT id
  | succ d=>obtain⟨⟨h1,h2,h3,h4⟩,-⟩:=hT;exact⟨h1,h4⟩
 refine⟨a,_,_,_,_,_,_,_,ha,⟨by have:=hc 0 _ rfl;rw[<-hk.1];exact this,hc 1 _ rfl,hc 2 _ rfl,by have:=hc 3 _ rfl;rw[<-hk.2];exact this,hc 4 _ rfl⟩,el[i].1,?_,hT⟩;unfold fV;rw[hk.1,hk.2]
theorem FC.mk {w:an} {S:Nat->Prop} {d:Nat} {b:Bool} {o:Option cH} {l c:Nat} {nm:ByteArray} {ko:Option cH} {kl kc:Nat} {op z:Int} {ks:List F} (hr:IR op) (hz:CI w (.agg #[.bool b,.slice o l c]) z 600)  (hk:FL w S d (.slice ko kl kc) ks) :
  FC w S (d+1) (.agg #[.int .i64 op,.bool b,.slice o l c,.string nm,.slice ko kl kc]) (.node op z nm ks):=by
 have hb:b=decide (z<0):=by
  obtain⟨va,e,_⟩:=hz;injection e with e;have e1:=congrArg (fun t:Array ay=>t[0]?) e;injection e1 with e1;injection e1 with e1
 subst hb;obtain⟨el,⟨EG,Bn,e,h1,h2,h3⟩,rfl⟩:=hk;injection e with e1 e2 e3;subst e1;subst e3;exact⟨⟨op,⟨o,l,c,z⟩,nm,ko,kl,kc⟩,rfl,⟨rfl,hr,rfl,rfl⟩,hz,el,rfl,⟨e2,h1⟩,h2,h3⟩
theorem FL.nil (w:an) (S:Nat->Prop) (d:Nat):FL w S d (.slice none 0 0) []:=⟨[],⟨none,0,rfl,⟨ak _,au _,fun _=>rfl⟩,fun h=>absurd rfl h,fun i hi=>absurd hi (ah i)⟩,rfl⟩
abbrev Bs:=List UInt8
theorem cellsByte:Tryz.prog.cellsOf 5=1:=by kernel_rfl
theorem sO.fresh (w:an):sO w.heap.size w.heap.size [] (w.alloc (.cells #[.pointer none,.slice none 0 0] 109)):=Lib.fresh_isBuilder 109 5 w
theorem sO.lt {B b:Nat} {l:Bs} {w:an} (h:sO B b l w):B<=b/\b<w.heap.size:=by
 obtain⟨p,v,h1,-,-,h2,-⟩:=h.at;exact⟨h2,ag h1⟩
def zC (w w':an):Prop:=∀ (g:Nat) (c:Array ay) (T:bu) (fz:Nat × Nat),w.heap[g]?=some (.cells c T fz)->T≠5->T≠109->w'.heap[g]?=some (.cells c T fz)
theorem zC.refl (w:an):zC w w:=fun _ _ _ _ h _ _=>h
theorem zC.trans {a b c:an} (h:zC a b) (k:zC b c):zC a c:=fun g x T fz h1 h2 h3=>k g x T fz (h g x T fz h1 h2 h3) h2 h3
theorem eS {w w':an} (h:aC w.heap.size w w'):zC w w':=fun g c T fz h1 _ _=>by rw[h.block g (ag h1)];exact h1
theorem BG {w:an} {b:Nat} {c0:Array ay} {f0:Nat × Nat} (hb:w.heap[b]?=some (.cells c0 109 f0)) (i:Nat) (x:ay):zC w (w.setCell ⟨b,i,none⟩ x):=fun g c T fz h1 _ h3=>by
 by_cases e:g=b
 ·subst e;rw[hb] at h1;injection h1 with h1;injection h1 with _ h1 _;exact absurd h1.symm h3
 rw[heap_setCell_other _ _ g _ (by simpa using e)];exact h1
theorem As {w w':an} {B:Nat} {v:ay} {n:Nat} {xs:List ay} (hown:w.ownsRow B 5 1 v n xs) (hg:w.grownBy w' v.ownBlock):zC w w':=fun g c T fz h1 h2 _=>by
 rw[hg.block g (ag h1) (fun e=>?_)];exact h1;rcases hown.2 with ⟨rfl,_⟩ | ⟨q,cap,cur,rfl,_,hq,_⟩
 ·cases e
 injection e with e;subst e;rw[hq] at h1;injection h1 with h1;injection h1 with _ h1 _;exact h2 h1.symm
theorem wR {B b:Nat} {l:Bs} {w:an} (h:sO B b l w):∃ v,bf ax 150 #[.pointer (some ⟨b,0,none⟩)] w fun e w1=>e=.returned (.tuple #[])/\w1.heap[b]?=some (.cells #[.pointer (some ⟨b,0,none⟩),v] 109 (0,0))/\w1.ownsRow B 5 1 v l.length (c_ l)/\v.ownBlock≠some b/\aC B w w1/\zC w w1:=by
 obtain⟨p,v,hbk,hown,hne,DL,hp⟩:=h.at;refine⟨v,?_⟩;rcases hp with rfl | rfl
 ·refine (qp b w (by rw[dM w b 0 _ 109 (0,0) hbk];rfl) (by simp[World.shape?,hbk]) (rJ w b 0 _ 109 hbk)).mono ?_;rintro e w1 ⟨rfl,rfl⟩;refine⟨rfl,?_,?_,hne,(av _ _).setCell DL _,BG hbk 0 _⟩
  ·rw[aF w b 0 _ 109 _ hbk];rfl
  exact ownsRow_setCell_other hown (by simpa using hne) _
 refine (q6 b w (by rw[dM w b 0 _ 109 (0,0) hbk];rfl)).mono ?_;rintro e w1 ⟨rfl,rfl⟩;exact⟨rfl,hbk,hown,hne,av _ _,zC.refl _⟩
def q_ (B b:Nat) (l:Bs) (w:an) (e:Ending) (w':an):Prop:=(∃ v,e=.returned v)/\sO B b l w'/\aC B w w'/\zC w w'
theorem oF (B b:Nat) (l m:Bs) (w:an) (h:sO B b l w) (hlen:l.length+m.length<=1000000) (hBw:B<=w.heap.size) :
  bf ax 100 #[.pointer (some ⟨b,0,none⟩),.string ⟨m.toArray⟩] w (q_ B b (l++m) w):=by
 obtain⟨i0,hi,hz0,jK,tN⟩:=oI infoByte;obtain⟨v,cc⟩:=wR h;have DL:=h.lt.1;have hsz:(⟨m.toArray⟩:ByteArray).size=m.length:=rfl;have CC:=aa cc;clear cc h;go_enter Tryz.func100,Tryz.ntmps100
 go_wp2_with fail
 refine CC.out.mono ?_;rintro e w1 ⟨rfl,sj,rT,hne,dm,Fi⟩;have fZ:=aa Fi;clear Fi;have c0:w1.cell? ⟨b,0,none⟩=some (.pointer (some ⟨b,0,none⟩)):=by rw[dM w1 b 0 _ 109 (0,0) sj];rfl
 have c1:w1.cell? ⟨b,1,none⟩=some v:=by rw[dM w1 b 1 _ 109 (0,0) sj];rfl
 have HK:=aa sj;clear sj;have Hz:=dm.size;go_wp2_with (at_builtin;refine Lib.wpList_append_own_string _ rfl (.tmp 12) (.tmp 13) 99 9 rfl B 5 i0 oh Tryz.underlying9 hi hz0 jK tN _ _ _ rfl rT ⟨m.toArray⟩ rfl ?c3 ?c4 ?c5 ?_)
 case c3=>unfold fO;omega
 case c4=>omega
 case c5=>omega
 intro v' w2 hown' hgrow _;have Vy:=aa (As rT hgrow);have H9:b<w1.heap.size:=ag HK.out
 have cV:w2.heap[b]?=some (.cells #[.pointer (some ⟨b,0,none⟩),v] 109 (0,0)):=by
  rw[hgrow.block b H9 (fun e=>hne e.symm)];exact HK.out
 have d0:w2.cell? ⟨b,0,none⟩=some (.pointer (some ⟨b,0,none⟩)):=by rw[dM w2 b 0 _ 109 (0,0) cV];rfl
 have d1:w2.cell? ⟨b,1,none⟩=some v:=by rw[dM w2 b 1 _ 109 (0,0) cV];rfl
 have f1:w2.frozen? ⟨b,1,none⟩=false:=rJ w2 b 1 _ 109 cV;obtain⟨ao,cap,rfl,-⟩:=xX hown';have dZ:=aa cV;clear cV
 go_wp2
 go_ret2
 refine⟨⟨_,rfl⟩,?_,(dm.grown hgrow (by omega) (fun k hk=>(rT.lt k hk).1)).setCell (p:=⟨b,1,none⟩) DL _,(fZ.out.trans Vy.out).trans (BG dZ.out 1 _)⟩;refine .inr ?_;rw[<-qG];refine Lib.BuilderAt.put (T:=109) (e:=5) DL dZ.out (bs':=c_ l++Lib.strCells ⟨m.toArray⟩) ?_ (by decide);rw[fI,o_,Lib.strCells_length];exact hown'
theorem p7 (B b:Nat) (l:Bs) (c:UInt8) (z:Int) (hz:z=(c.toNat:Int)) (w:an) (h:sO B b l w) (hlen:l.length<=1000000) (hBw:B<=w.heap.size) :
  bf ax 116 #[.pointer (some ⟨b,0,none⟩),.int .u8 z] w (q_ B b (l++[c]) w):=by
 obtain⟨v,cc⟩:=wR h;have DL:=h.lt.1;have CC:=aa cc;have HZ:=aa hz;clear cc h hz;go_enter Tryz.func116,Tryz.ntmps116
 go_wp2_with fail
 refine CC.out.mono ?_;rintro e w1 ⟨rfl,sj,rT,hne,dm,Fi⟩;have fZ:=aa Fi;clear Fi;have H9:b<w1.heap.size:=ag sj;have c0:w1.cell? ⟨b,0,none⟩=some (.pointer (some ⟨b,0,none⟩)):=by rw[dM w1 b 0 _ 109 (0,0) sj];rfl
 have c1:w1.cell? ⟨b,1,none⟩=some v:=by rw[dM w1 b 1 _ 109 (0,0) sj];rfl
 have hA:=rT.alloc (.cells #[.int .u8 z] 5);have HA:=aa hA;have HK:=aa (bQ sj (.cells #[.int .u8 z] 5));have HM:=aa (cy w1 (.cells #[.int .u8 z] 5) _ rfl);clear sj hA;have Hz:=dm.size
 go_wp2_with (at_builtin;go_loud (refine sR _ rfl (.tmp 11) (.tmp 13) 99 rfl 5 oh infoByte rfl (by decide) (by decide) B v l.length _ rfl HA.out w1.heap.size 5 [.int .u8 z] rfl (by intro u hu;simp at hu;subst hu;rfl) rfl HM.out (by omega) (by simp;omega) ?_;intro v' w2 hown' hgrow hfr;have cV:=(hgrow.block b (ag HK.out) (fun e=>hne e.symm)).trans HK.out;have d1:w2.cell? ⟨b,1,none⟩=some v:=(by rw[dM w2 b 1 _ 109 (0,0) cV];rfl);have f1:w2.frozen? ⟨b,1,none⟩=false:=rJ w2 b 1 _ 109 cV;obtain⟨ao,cap,rfl,-⟩:=xX hown';have dZ:=aa cV;have Vb:=aa hown';have Sv:=aa hgrow;clear cV hown' hgrow hfr))
 go_ret
 have MI:aC B w (w1.alloc (.cells #[.int .u8 z] 5)):=dm.alloc (by omega) _;refine⟨⟨_,rfl⟩,.inr ?_,(MI.grown Sv.out (by have:=MI.size;omega) (fun k hk=>(HA.out.lt k hk).1)).setCell (p:=⟨b,1,none⟩) DL _,((fZ.out.trans (eS ((av _ _).alloc (ak _) _))).trans (As HA.out Sv.out)).trans (BG dZ.out 1 _)⟩;have e:c_ (l++[c])=c_ l++[.int .u8 z]:=by rw[HZ.out];simp[c_]
 rw[e];refine Lib.BuilderAt.put (T:=109) (e:=5) DL dZ.out (bs':=c_ l++[.int .u8 z]) ?_ (by decide);rw[fI,o_];exact Vb.out
theorem wQ (B b g cap:Nat) (p:ay) (cur:Array ay) (l:Bs) (w:an) (h0:l ≠ []) (hB:B<=g) (hbk:w.heap[b]?=some (.cells #[p,.slice (some ⟨g,0,none⟩) l.length cap] 109 (0,0))) (hg:w.heap[g]?=some (.cells cur 5 (0,0)))
  (hnc:l.length<=cap) (K_:cap<=fO) (hcs:cur.size=cap) (hcell:∀ j (x:UInt8),l[j]?=some x->w.cell? ((⟨g,0,none⟩:cH).add j)=some (.int .u8 x.toNat)) :
  bf ax 68 #[.pointer (some ⟨b,0,none⟩)] w fun e w'=>e=.returned (.string ⟨l.toArray⟩)/\aC B w w':=by
 have By:l.length≠0:=by simpa using h0
 have c1:w.drew.cell? ⟨b,1,none⟩=some (.slice (some ⟨g,0,none⟩) l.length cap):=by
  have:w.drew.heap[b]?=some (.cells #[p,.slice (some ⟨g,0,none⟩) l.length cap] 109 (0,0)):=hbk;rw[Lib.cell_of_heap this];rfl
 have Wr:(Builtin.unsafeSliceData_ #[99] 159 #[.slice (some ⟨g,0,none⟩) l.length cap]).run ax w.drew=.ok (.pointer (some ⟨g,0,none⟩)) w.drew:=
  Lib.run_unsafeSliceData_row _ _ _ _ _ _ (by omega)
 have Wq:(Builtin.unsafeString_ #[159,3] 9 #[.pointer (some ⟨g,0,none⟩),.int .i64 l.length]).run ax w.drew=.ok (.string ⟨l.toArray⟩) (w.drew.freeze ⟨g,0,none⟩ l.length):=by
  refine Lib.run_unsafeString_row w.drew 159 3 9 5 Tryz.underlying159 cellsByte g cur.size (by have Mo:w.drew.heap[g]?=some (.cells cur 5 (0,0)):=hg;simp[World.shape?,Mo]) l h0 (by omega) (by unfold fO at K_;omega) ?_;intro j x hx;exact hcell j x hx
 clear hcell hcs hg hbk;go_enter Tryz.func68,Tryz.ntmps68
 go_wp2
 go_region
 all_goals (go_wp2;go_ret;exact⟨rfl,Lib.below_freeze (Below.drew (av B w)) (p:=⟨g,0,none⟩) hB _⟩)
theorem Dw (B b:Nat) (l:Bs) (w:an) (h:sO B b l w) (h0:l ≠ []) :
  bf ax 68 #[.pointer (some ⟨b,0,none⟩)] w fun e w'=>e=.returned (.string ⟨l.toArray⟩)/\aC B w w':=by
 obtain⟨p,v,hbk,hown,hne,DL,hp⟩:=h.at;have By:l.length≠0:=by simpa using h0
 have h1:=hown;rcases hown.2 with ⟨_,hz⟩ | ⟨g,cap,cur,rfl,Gf,hg,hnc,K_,hcs,htake⟩
 ·exact absurd hz By
 refine wQ B b g cap p cur l w h0 Gf hbk hg hnc K_ (by omega) fun j x hx=>?_
 exact h1.cells (g:=g) rfl j (.int .u8 x.toNat) (by simp[c_,hx])
theorem wk (o:Int) (b:Bool) (ao:Option cH) (l c:Nat) (nm:ByteArray) (ko:Option cH) (kl kc:Nat) (w:an) :
  bf ax 22 #[.agg #[.int .i64 o,.bool b,.slice ao l c,.string nm,.slice ko kl kc]] w fun e w'=>e=.returned (.int .i64 (jh o))/\aC w.heap.size w w':=by
 have hb:=(av w.heap.size w).alloc (ak _) (.cells #[.int .i64 o,.bool b,.slice ao l c,.string nm,.slice ko kl kc] 29);have HB:=aa hb;clear hb
 by_cases h1:8<=o/\o<=20
 ·have:o=8\/o=9\/o=10\/o=11\/o=12\/o=13\/o=14\/o=15\/o=16\/o=17\/o=18\/o=19\/o=20:=by omega
  clear h1;rcases this with rfl | rfl | rfl | rfl | rfl | rfl | rfl | rfl | rfl | rfl | rfl | rfl | rfl
  all_goals (go_enter Tryz.func22,Tryz.ntmps22;go_wp2_with fail;go_ret;exact⟨rfl,HB.out⟩)
 have hs:jh o=0:=by unfold jh;rw[if_neg (by omega),if_neg (by omega)]
 have n8:(o==8)=false:=beq_eq_false_iff_ne.2 (by omega);have n9:(o==9)=false:=beq_eq_false_iff_ne.2 (by omega);have S1:(o==10)=false:=beq_eq_false_iff_ne.2 (by omega);have Ox:(o==11)=false:=beq_eq_false_iff_ne.2 (by omega);have S0:(o==12)=false:=beq_eq_false_iff_ne.2 (by omega);have n13:(o==13)=false:=beq_eq_false_iff_ne.2 (by omega);have SZ:(o==14)=false:=beq_eq_false_iff_ne.2 (by omega);have n15:(o==15)=false:=beq_eq_false_iff_ne.2 (by omega);have n16:(o==16)=false:=beq_eq_false_iff_ne.2 (by omega);have n17:(o==17)=false:=beq_eq_false_iff_ne.2 (by omega);have n18:(o==18)=false:=beq_eq_false_iff_ne.2 (by omega);have n19:(o==19)=false:=beq_eq_false_iff_ne.2 (by omega);have n20:(o==20)=false:=beq_eq_false_iff_ne.2 (by omega);clear h1;go_enter Tryz.func22,Tryz.ntmps22
 go_wp2_with fail
 go_ret
 exact⟨by rw[hs];rfl,HB.out⟩
theorem FF (o:Int) (b:Bool) (ao:Option cH) (l c:Nat) (nm:ByteArray) (ko:Option cH) (kl kc:Nat) (s:Int) (w:an) :
  bf ax 159 #[.agg #[.int .i64 o,.bool b,.slice ao l c,.string nm,.slice ko kl kc],.int .i64 s] w fun e w'=>e=.returned (.bool (jh o==s))/\aC w.heap.size w w':=by
 have hb:=(av w.heap.size w).alloc (ak _) (.cells #[.int .i64 o,.bool b,.slice ao l c,.string nm,.slice ko kl kc] 29);have HB:=aa hb;clear hb;go_enter Tryz.func159,Tryz.ntmps159
 go_wp2_with fail
 refine (wk o b ao l c nm ko kl kc _).mono ?_;rintro e w2 ⟨rfl,hb⟩;have HW:=aa (HB.out.trans (hb.mono HB.out.size));clear hb;go_wp2_with fail
 go_ret
 exact⟨rfl,HW.out⟩
theorem Dx (o:Int) (b:Bool) (ao:Option cH) (l c:Nat) (nm:ByteArray) (ko:Option cH) (kl kc:Nat) (s:Int) (kb:Nat) (w:an) (hB:w.heap[kb]?=some (.cells #[.int .i64 s] 36 (0,0))) :
  bf ax 161 #[.agg #[.int .i64 o,.bool b,.slice ao l c,.string nm,.slice ko kl kc],.pointer (some ⟨kb,0,none⟩)] w fun e w'=>e=.returned (.bool (jh o != s))/\aC w.heap.size w w':=by
 have r5:=aa hB;clear hB;have HW:=aa (av w.heap.size w);go_enter Tryz.func161,Tryz.ntmps161
 obtain⟨x1,kf,ef,hO,aR,gL,aj⟩:=aL w #[.int .i64 o,.bool b,.slice ao l c,.string nm,.slice ko kl kc] 29;replace r5:=aG aR.out r5;replace HW:=aa (HW.out.trans (aR.out.mono HW.out.size));have c0:=ae (v:=.int .i64 o) aj.out 0 rfl;have bM:=af aj.out 0;have c1:=ae (v:=.bool b) aj.out 1 rfl;have bL:=af aj.out 1;have c2:=ae (v:=.slice ao l c) aj.out 2 rfl;have bK:=af aj.out 2;have c3:=ae (v:=.string nm) aj.out 3 rfl;have bJ:=af aj.out 3;have c4:=ae (v:=.slice ko kl kc) aj.out 4 rfl;have bI:=af aj.out 4;go_upto_region 1 with fail
 clear c0 bM c1 bL c2 bK c3 bJ c4 bI;have cK:=ag aj.out;have An:=ag r5.out;have fK:Hid (∀ q,q<0->(fun q=>0) q<x1.heap.size):=aa (fun q h=>absurd h (ah _));refine R7.region (by kernel_rfl) [[],[0],[],[0,1,2],[0,1,2,3]] [] [] (fun q=>0) 0 5 (by kernel_rfl) (by kernel_rfl) (by rfl) fK.out (fun q q' h h' hn=>absurd hn (by omega)) ?_;refine R7.az.bT ?_ (by rfl) (fun T xs wr hA=>?_) ?_
 rotate_left 1
 ·have e2:=hA.pre 2 (by kernel_rfl);simp only[eY,fD,fm] at e2;have aP:wr.heap[kf]?=_:=(hA.bl _ cK (fun q h=>absurd h (ah _))).trans aj.out;have q0:=ae (v:=.int .i64 o) aP 0 rfl;have q1:=ae (v:=.bool b) aP 1 rfl;have q2:=ae (v:=.slice ao l c) aP 2 rfl;have q3:=ae (v:=.string nm) aP 3 rfl;have q4:=ae (v:=.slice ko kl kc) aP 4 rfl;clear aP;clear hA;refine⟨(by rfl),?_⟩;go_simp<;>(try with_reducible rfl)
 refine R7.az.call (fun xs v w=>v=.int .i64 (jh o)) (fun _ _ _ _ h _=>h) (fun _ _ _ _ _ h _ _=>h) (by rfl) (fun T xs wr hA=>?_) ?_
 ·have ki:=(hA.be 0 (au _) (fun _ _=>au _)).size;have e4:=hA.tm 0 4 (by rfl) (by rfl);have f4:xs 0=_:=hA.fa 0 (by rfl)
  (try simp (disch:=first | rfl | decide) only [R7.ai] at f4)
  rw[f4] at e4;clear f4;have dK:=aT (hA.be x1.heap.size (ak _) (fun q h=>absurd h (ah q)));clear hA;refine⟨(by rfl),fun K hK=>?_⟩;go_simp
  refine (wk o b ao l c nm ko kl kc wr).mono ?_;rintro e w' ⟨rfl,hb'⟩;exact hK.out _ _ rfl hb'
 refine R7.az.bT ?_ (by rfl) (fun T xs wr hA=>?_) ?_
 rotate_left 1
 ·have e1:=hA.pre 1 (by kernel_rfl);simp only[eY,fD,fm] at e1;have aP:wr.heap[kb]?=_:=(hA.bl _ An (fun q h=>absurd h (ah _))).trans r5.out;have q0:=ae (v:=.int .i64 s) aP 0 rfl;clear aP;clear hA;refine⟨(by rfl),?_⟩;go_simp<;>(try with_reducible rfl)
 refine R7.az.bT ?_ (by rfl) (fun T xs wr hA=>?_) ?_
 rotate_left 1
 ·have e5:=hA.tm 1 5 (by rfl) (by rfl);have f5:xs 1=(.int .i64 (jh o)):=hA.fa 1 (by rfl);rw[f5] at e5;clear f5;have e6:=hA.tm 2 6 (by rfl) (by rfl);have f6:xs 2=_:=hA.fa 2 (by rfl)
  (try simp (disch:=first | rfl | decide) only [R7.ai] at f6)
  rw[f6] at e6;clear f6;clear hA;refine⟨(by rfl),?_⟩;go_simp<;>(try with_reducible rfl)
 refine R7.az.bT ?_ (by rfl) (fun T xs wr hA=>?_) ?_
 rotate_left 1
 ·have e7:=hA.tm 3 7 (by rfl) (by rfl);have f7:xs 3=_:=hA.fa 3 (by rfl)
  (try simp (disch:=first | rfl | decide) only [R7.ai] at f7)
  rw[f7] at e7;clear f7;clear hA;refine⟨(by rfl),?_⟩;go_simp<;>(try with_reducible rfl)
 refine R7.az.done (fun xs x2 hL=>?_);obtain⟨⟨ei,cG⟩,hf,-,-⟩:=hL;have f0:xs 0=_:=hf 0 (by decide)
 (try simp (disch:=first | rfl | decide) only [R7.ai] at f0)
 have f1:xs 1=(.int .i64 (jh o)):=hf 1 (by decide);have f2:xs 2=_:=hf 2 (by decide)
 (try simp (disch:=first | rfl | decide) only [R7.ai] at f2)
 have f3:xs 3=_:=hf 3 (by decide)
 (try simp (disch:=first | rfl | decide) only [R7.ai] at f3)
 have f4:xs 4=_:=hf 4 (by decide)
 (try simp (disch:=first | rfl | decide) only [R7.ai] at f4)
 have hb0:aC 0 x1 x2:=aT (ei 0 (au _) (fun _ _=>au _));have jR:∀ j,j<x1.heap.size->(∀ q,q<0->(fun q=>0) q≠j)->x2.heap[j]?=x1.heap[j]?:=cG;clear ei cG hf;have hb:aC x1.heap.size x1 x2:=⟨hb0.os,hb0.tape,hb0.output,hb0.size,fun q hq=>jR q hq (fun q h=>absurd h (ah _))⟩
 refine R7.gg ?_;simp only[R7.fill,xz,xy,xx,f0,f1,f2,f3,f4];clear hb0 jR fK cK An f0 f1 f2 f3 f4;replace r5:=aG hb r5;replace aj:=aG hb aj;replace HW:=aa (HW.out.trans (hb.mono HW.out.size));replace hb:=aa hb;go_wp2_with fail
 go_ret
 exact⟨rfl,HW.out⟩
def BL (w:an) (v:ay) (ss:List Int):Prop:=∃ ko kc,v=.slice ko ss.length kc/\(ss.length<=kc/\kc<=fO)/\∀ i (hi:i<ss.length),∃ a,ko=some a/\w.cell? (a.add i)=some (.int .i64 ss[i])
theorem BL.below {w w':an} {v:ay} {ss:List Int} (h:BL w v ss) (hb:aC w.heap.size w w'):BL w' v ss:=by
 obtain⟨ko,kc,rfl,h1,h2⟩:=h;refine⟨ko,kc,rfl,h1,fun i hi=>?_⟩;obtain⟨a,ha,hc⟩:=h2 i hi;exact⟨a,ha,by rw[hb.cell (bW w _ hc)];exact hc⟩
theorem BL.cells {w:an} {ko:Option cH} {n kc:Nat} {ss:List Int} (h:BL w (.slice ko n kc) ss) (i:Nat) (hi:i<ss.length):∃ a,ko=some a/\w.cell? (a.add i)=some (.int .i64 ss[i]):=by
 obtain⟨EG,Bn,e,h1,h2⟩:=h;injection e with e1 e2 e3;subst e1;exact h2 i hi
theorem BL.block {w:an} {g:Nat} {ss:List Int} {T:bu} (h:w.heap[g]?=some (.cells (ss.map (Value.int .i64)).toArray T (0,0))) (hl:ss.length<=fO):BL w (.slice (some ⟨g,0,none⟩) ss.length ss.length) ss:=
 ⟨_,_,rfl,⟨ak _,hl⟩,fun i hi=>⟨_,rfl,by rw[j8,eG,dM w g _ _ _ _ h];simp[hi]⟩⟩
theorem BL.nil (w:an):BL w (.slice none 0 0) []:=⟨none,0,rfl,⟨ak _,au _⟩,fun i hi=>absurd hi (ah i)⟩
theorem sY (ts:List F):(fP ts).length=ts.length:=by unfold fP;rw[iM]
theorem zS (ts:List F) (i:Nat) (hi:i<ts.length) (hi':i<(fP ts).length):(fP ts)[i]=jh ts[i].op:=nX (fun f:F=>jh f.op)
theorem Fu (va vb:ay) (ts:List F) (M:List Int) (d:Nat) (S:Nat->Prop) (w:an) (h1:FL w S d va ts) (h2:BL w vb M) :
  bf ax 158 #[va,vb,.func (.func 159) #[] #[]] w fun e w'=>e=.returned (.bool (decide (fP ts=M)))/\aC w.heap.size w w':=by
 obtain⟨ko,kc,rfl,⟨hq1,hq2,-⟩⟩:=h1.form;have Jj:=h2;obtain⟨po,pc,rfl,⟨hr1,vL⟩,-⟩:=Jj;have DJ:kc<=9223372036854775807:=hq2;have TD:pc<=9223372036854775807:=vL;have HX:=aa h1;have HY:=aa h2;clear h1 h2 hq2 vL
 by_cases hl:ts.length=M.length
 ·have hne:(((ts.length:Nat):Int) != ((M.length:Nat):Int))=false:=by rw[hl];exact bne_self_eq_false _
  have HL:=aa hl;obtain⟨n,hn⟩:∃ n,n=ts.length:=⟨_,rfl⟩
  rw[<-hn] at HL hne hq1 HX ⊢;obtain⟨n',hn'⟩:∃ n,n=M.length:=⟨_,rfl⟩
  rw[<-hn'] at HL hne hr1 HY ⊢;have HN:=aa hn;have Nj:=aa hn';clear hl hn hn';go_enter Tryz.func158,Tryz.ntmps158
  go_wp2_with fail
  clear hne
  go_loopw [17] (fun i wr=>∃ j:Nat,i=.int .i64 (j:Nat)/\j<=n/\Hid ((fP ts).take j=M.take j)/\Hid (aC w.heap.size w wr)) (fun i _=>n - (fH i).toNat)
  case atStart=>exact⟨0,rfl,au _,aa rfl,aa (av _ _)⟩
  case round =>
   obtain⟨j,rfl,hj,HT,HW⟩:=hrel
   by_cases hlt:j<n
   ·have hz:j<ts.length:=by rw[<-HN.out];exact hlt
    have tN:j<M.length:=by rw[<-Nj.out,<-HL.out];exact hlt
    have Kc:j<n':=by rw[<-HL.out];exact hlt
    obtain⟨a,bb,ao,al,ac,qo,ql,qc,rfl,⟨c0,c1,c2,c3,c4⟩,-⟩:=(HX.out.below HW.out).cells j hz;obtain⟨b,rfl,d0⟩:=(HY.out.below HW.out).cells j tN;obtain⟨x,ry⟩:∃ x,x=ts[j].op:=⟨_,rfl⟩
    obtain⟨nm,hnm⟩:∃ x,x=ts[j].name:=⟨_,rfl⟩
    obtain⟨y,Bp⟩:∃ y,y=M[j]:=⟨_,rfl⟩
    rw[<-ry] at c0;rw[<-hnm] at c3;rw[<-Bp] at d0;have Nc:=aa ry;have Na:=aa Bp;clear ry Bp hnm;obtain⟨x1,k8,e8,NZ,yp,NN,lD⟩:=aL wr #[.int .i64 x,.bool bb,.slice ao al ac,.string nm,.slice qo ql qc] 29;replace HW:=aa (HW.out.trans (yp.out.mono HW.out.size));rw[<-yp.out.cell (by have:=bS d0;exact this)] at d0;have g0:=ae (v:=.int .i64 x) lD.out 0 rfl;have nF:=af lD.out 0;have g1:=ae (v:=.bool bb) lD.out 1 rfl;have nD:=af lD.out 1;have g2:=ae (v:=.slice ao al ac) lD.out 2 rfl;have oA:=af lD.out 2;have g3:=ae (v:=.string nm) lD.out 3 rfl;have oz:=af lD.out 3;have g4:=ae (v:=.slice qo ql qc) lD.out 4 rfl;have oy:=af lD.out 4
    by_cases he:jh x=y
    ·have Ap:(jh x==y)=true:=by simp[he]
     have HE:=aa he;clear he;go_wp2_with fail
     refine (FF x bb ao al ac nm qo ql qc y x1).mono ?_;rintro e w3 ⟨rfl,hb⟩;rw[Ap];replace HW:=aa (HW.out.trans (hb.mono HW.out.size));clear hb Ap;go_wp2_with fail
     go_roundw
     case rel=>exact⟨j+1,by go_num,hlt,aa (wg HT.out (by rw[sY];exact hz) tN (by rw[zS ts j hz,<-Nc.out,<-Na.out];exact HE.out)),HW⟩
     case measure=>simp[fH];omega
    have Ap:(jh x==y)=false:=by simp[he]
    have HE:=aa he;clear he;go_wp2_with fail
    refine (FF x bb ao al ac nm qo ql qc y x1).mono ?_;rintro e w3 ⟨rfl,hb⟩;rw[Ap];replace HW:=aa (HW.out.trans (hb.mono HW.out.size));clear hb Ap;go_wp2_with fail
    go_ret
    refine⟨?_,HW.out⟩;rw[decide_eq_false (fun e=>HE.out (by rw[Nc.out,Na.out];subst e;rw[zS ts j hz]))];rfl
   go_wp2_with fail
   go_ret
   refine⟨?_,HW.out⟩;have e:=HT.out;rw[show j=n by omega,HN.out,<-sY,bD,sY,<-HN.out,HL.out,Nj.out,bD] at e;rw[decide_eq_true e];rfl
 have hne:(((ts.length:Nat):Int) != ((M.length:Nat):Int))=true:=by rw[bne_iff_ne];omega
 have HL:=aa hl;clear hl;go_enter Tryz.func158,Tryz.ntmps158
 go_wp2_with fail
 go_ret
 refine⟨?_,av _ _⟩;rw[decide_eq_false (fun e=>HL.out (by rw[<-e,sY]))];rfl
theorem kL (va vb:ay) (ts:List F) (M:List Int) (d:Nat) (S:Nat->Prop) (w:an) (h1:FL w S d va ts) (h2:BL w vb M) :
  bf ax 112 #[va,vb] w fun e w'=>e=.returned (.bool (decide (fP ts=M)))/\aC w.heap.size w w':=by
 have HX:=aa h1;have HY:=aa h2;clear h1 h2;go_enter Tryz.func112,Tryz.ntmps112
 go_wp2_with fail
 refine (Fu _ _ ts M d S w HX.out HY.out).mono ?_;rintro e w3 ⟨rfl,hb⟩;have HB:=aa hb;clear hb;go_wp2_with fail
 go_ret
 exact⟨rfl,HB.out⟩
theorem C' (va:ay) (ts:List F) (P:F->Bool) (d:Nat) (S:Nat->Prop) (w:an) (kb:Nat) (h1:FL w S d va ts) (hc:∀ f ∈ ts,∀ (v:ay) (w':an),aC w.heap.size w w'->FC w' S d v f->bf ax 161 #[v,.pointer (some ⟨kb,0,none⟩)] w' fun e w''=>e=.returned (.bool (P f))/\aC w'.heap.size w' w'') :
  bf ax 190 #[va,.func (.func 161) #[] #[.pointer (some ⟨kb,0,none⟩)]] w fun e w'=>∃ r:Int,e=.returned (.int .i64 r)/\decide (0<=r)=ts.any P/\aC w.heap.size w w':=by
 obtain⟨ko,kc,rfl,⟨hq1,hq2,-⟩⟩:=h1.form;have DJ:kc<=9223372036854775807:=hq2;have HX:=aa h1;have HC:=aa hc;clear h1 hc hq2;obtain⟨n,hn⟩:∃ n,n=ts.length:=⟨_,rfl⟩
 rw[<-hn] at hq1 HX ⊢;have HN:=aa hn;clear hn;go_enter Tryz.func190,Tryz.ntmps190
 go_wp2_with fail
 go_loopw [8] (fun i wr=>∃ j:Nat,i=.int .i64 (j:Nat)/\j<=n/\Hid ((ts.take j).any P=false)/\Hid (aC w.heap.size w wr)) (fun i _=>n - (fH i).toNat)
 case atStart=>exact⟨0,rfl,au _,aa rfl,aa (av _ _)⟩
 case round =>
  obtain⟨j,rfl,hj,HT,HW⟩:=hrel
  by_cases hlt:j<n
  ·have hz:j<ts.length:=by rw[<-HN.out];exact hlt
   obtain⟨a,bb,ao,al,ac,qo,ql,qc,rfl,⟨c0,c1,c2,c3,c4⟩,hf⟩:=(HX.out.below HW.out).cells j hz;have HF:=aa (HC.out ts[j] (cI hz) _ wr HW.out hf);clear hf;obtain⟨x,ry⟩:∃ x,x=ts[j].op:=⟨_,rfl⟩
   obtain⟨nm,hnm⟩:∃ x,x=ts[j].name:=⟨_,rfl⟩
   rw[<-ry] at c0 HF;rw[<-hnm] at c3 HF;clear ry hnm;have Jr:Hid ((ts.take (j+1)).any P=P ts[j]):=aa (by rw[bH hz,List.any_append,HT.out];simp);have HA:Hid (P ts[j]=true->ts.any P=true):=aa (fun h=>List.any_eq_true.2 ⟨_,cI hz,h⟩);obtain⟨p,hp⟩:∃ p,p=P ts[j]:=⟨_,rfl⟩
   rw[<-hp] at HF Jr HA;clear hp;go_wp2_with fail
   refine HF.out.mono ?_;rintro e w3 ⟨rfl,hb⟩;replace HW:=aa (HW.out.trans (hb.mono HW.out.size));clear hb HF
   cases p with
   | true =>
    go_wp2_with fail
    go_ret
    exact⟨j,rfl,by rw[HA.out (by trivial)];simp,HW.out⟩
   | false =>
    go_wp2_with fail
    go_roundw
    case rel=>exact⟨j+1,by go_num,hlt,Jr,HW⟩
    case measure=>simp[fH];omega
  go_wp2_with fail
  go_ret
  refine⟨-1,rfl,?_,HW.out⟩;have e:=HT.out;rw[show j=n by omega,HN.out,bD] at e;rw[e];rfl
theorem zh (va:ay) (ts:List F) (P:F->Bool) (d:Nat) (S:Nat->Prop) (w:an) (kb:Nat) (h1:FL w S d va ts) (hc:∀ f ∈ ts,∀ (v:ay) (w':an),aC w.heap.size w w'->FC w' S d v f->bf ax 161 #[v,.pointer (some ⟨kb,0,none⟩)] w' fun e w''=>e=.returned (.bool (P f))/\aC w'.heap.size w' w'') :
  bf ax 160 #[va,.func (.func 161) #[] #[.pointer (some ⟨kb,0,none⟩)]] w fun e w'=>e=.returned (.bool (ts.any P))/\aC w.heap.size w w':=by
 have HI:=aa (C' va ts P d S w kb h1 hc);clear h1 hc;go_enter Tryz.func160,Tryz.ntmps160
 go_wp2_with fail
 refine HI.out.mono ?_;rintro e w3 ⟨r,rfl,hr,hb⟩;have HB:=aa hb;have HR:=aa hr;clear hb hr HI;go_wp2_with fail
 go_ret
 exact⟨by rw[<-HR.out];rfl,HB.out⟩
theorem C_ (va:ay) (ts:List F) (P:F->Bool) (d:Nat) (S:Nat->Prop) (w:an) (kb:Nat) (h1:FL w S d va ts) (hc:∀ f ∈ ts,∀ (v:ay) (w':an),aC w.heap.size w w'->FC w' S d v f->bf ax 192 #[v,.pointer (some ⟨kb,0,none⟩)] w' fun e w''=>e=.returned (.bool (P f))/\aC w'.heap.size w' w'') :
  bf ax 190 #[va,.func (.func 192) #[] #[.pointer (some ⟨kb,0,none⟩)]] w fun e w'=>∃ r:Int,e=.returned (.int .i64 r)/\decide (0<=r)=ts.any P/\aC w.heap.size w w':=by
 obtain⟨ko,kc,rfl,⟨hq1,hq2,-⟩⟩:=h1.form;have DJ:kc<=9223372036854775807:=hq2;have HX:=aa h1;have HC:=aa hc;clear h1 hc hq2;obtain⟨n,hn⟩:∃ n,n=ts.length:=⟨_,rfl⟩
 rw[<-hn] at hq1 HX ⊢;have HN:=aa hn;clear hn;go_enter Tryz.func190,Tryz.ntmps190
 go_wp2_with fail
 go_loopw [8] (fun i wr=>∃ j:Nat,i=.int .i64 (j:Nat)/\j<=n/\Hid ((ts.take j).any P=false)/\Hid (aC w.heap.size w wr)) (fun i _=>n - (fH i).toNat)
 case atStart=>exact⟨0,rfl,au _,aa rfl,aa (av _ _)⟩
 case round =>
  obtain⟨j,rfl,hj,HT,HW⟩:=hrel
  by_cases hlt:j<n
  ·have hz:j<ts.length:=by rw[<-HN.out];exact hlt
   obtain⟨a,bb,ao,al,ac,qo,ql,qc,rfl,⟨c0,c1,c2,c3,c4⟩,hf⟩:=(HX.out.below HW.out).cells j hz;have HF:=aa (HC.out ts[j] (cI hz) _ wr HW.out hf);clear hf;obtain⟨x,ry⟩:∃ x,x=ts[j].op:=⟨_,rfl⟩
   obtain⟨nm,hnm⟩:∃ x,x=ts[j].name:=⟨_,rfl⟩
   rw[<-ry] at c0 HF;rw[<-hnm] at c3 HF;clear ry hnm;have Jr:Hid ((ts.take (j+1)).any P=P ts[j]):=aa (by rw[bH hz,List.any_append,HT.out];simp);have HA:Hid (P ts[j]=true->ts.any P=true):=aa (fun h=>List.any_eq_true.2 ⟨_,cI hz,h⟩);obtain⟨p,hp⟩:∃ p,p=P ts[j]:=⟨_,rfl⟩
   rw[<-hp] at HF Jr HA;clear hp;go_wp2_with fail
   refine HF.out.mono ?_;rintro e w3 ⟨rfl,hb⟩;replace HW:=aa (HW.out.trans (hb.mono HW.out.size));clear hb HF
   cases p with
   | true =>
    go_wp2_with fail
    go_ret
    exact⟨j,rfl,by rw[HA.out (by trivial)];simp,HW.out⟩
   | false =>
    go_wp2_with fail
    go_roundw
    case rel=>exact⟨j+1,by go_num,hlt,Jr,HW⟩
    case measure=>simp[fH];omega
  go_wp2_with fail
  go_ret
  refine⟨-1,rfl,?_,HW.out⟩;have e:=HT.out;rw[show j=n by omega,HN.out,bD] at e;rw[e];rfl
theorem zg (va:ay) (ts:List F) (P:F->Bool) (d:Nat) (S:Nat->Prop) (w:an) (kb:Nat) (h1:FL w S d va ts) (hc:∀ f ∈ ts,∀ (v:ay) (w':an),aC w.heap.size w w'->FC w' S d v f->bf ax 192 #[v,.pointer (some ⟨kb,0,none⟩)] w' fun e w''=>e=.returned (.bool (P f))/\aC w'.heap.size w' w'') :
  bf ax 160 #[va,.func (.func 192) #[] #[.pointer (some ⟨kb,0,none⟩)]] w fun e w'=>e=.returned (.bool (ts.any P))/\aC w.heap.size w w':=by
 have HI:=aa (C_ va ts P d S w kb h1 hc);clear h1 hc;go_enter Tryz.func160,Tryz.ntmps160
 go_wp2_with fail
 refine HI.out.mono ?_;rintro e w3 ⟨r,rfl,hr,hb⟩;have HB:=aa hb;have HR:=aa hr;clear hb hr HI;go_wp2_with fail
 go_ret
 exact⟨by rw[<-HR.out];rfl,HB.out⟩
theorem EP (va:ay) (ts:List F) (P:F->Bool) (d:Nat) (S:Nat->Prop) (w:an) (ve:ay) (h1:FL w S d va ts) (hc:∀ f ∈ ts,∀ (v:ay) (w':an),aC w.heap.size w w'->FC w' S d v f->bf ax 162 #[ve,v] w' fun e w''=>e=.returned (.bool (P f))/\aC w'.heap.size w' w'') :
  bf ax 190 #[va,.func (.func 162) #[ve] #[]] w fun e w'=>∃ r:Int,e=.returned (.int .i64 r)/\decide (0<=r)=ts.any P/\aC w.heap.size w w':=by
 obtain⟨ko,kc,rfl,⟨hq1,hq2,-⟩⟩:=h1.form;have DJ:kc<=9223372036854775807:=hq2;have HX:=aa h1;have HC:=aa hc;clear h1 hc hq2;obtain⟨n,hn⟩:∃ n,n=ts.length:=⟨_,rfl⟩
 rw[<-hn] at hq1 HX ⊢;have HN:=aa hn;clear hn;go_enter Tryz.func190,Tryz.ntmps190
 go_wp2_with fail
 go_loopw [8] (fun i wr=>∃ j:Nat,i=.int .i64 (j:Nat)/\j<=n/\Hid ((ts.take j).any P=false)/\Hid (aC w.heap.size w wr)) (fun i _=>n - (fH i).toNat)
 case atStart=>exact⟨0,rfl,au _,aa rfl,aa (av _ _)⟩
 case round =>
  obtain⟨j,rfl,hj,HT,HW⟩:=hrel
  by_cases hlt:j<n
  ·have hz:j<ts.length:=by rw[<-HN.out];exact hlt
   obtain⟨a,bb,ao,al,ac,qo,ql,qc,rfl,⟨c0,c1,c2,c3,c4⟩,hf⟩:=(HX.out.below HW.out).cells j hz;have HF:=aa (HC.out ts[j] (cI hz) _ wr HW.out hf);clear hf;obtain⟨x,ry⟩:∃ x,x=ts[j].op:=⟨_,rfl⟩
   obtain⟨nm,hnm⟩:∃ x,x=ts[j].name:=⟨_,rfl⟩
   rw[<-ry] at c0 HF;rw[<-hnm] at c3 HF;clear ry hnm;have Jr:Hid ((ts.take (j+1)).any P=P ts[j]):=aa (by rw[bH hz,List.any_append,HT.out];simp);have HA:Hid (P ts[j]=true->ts.any P=true):=aa (fun h=>List.any_eq_true.2 ⟨_,cI hz,h⟩);obtain⟨p,hp⟩:∃ p,p=P ts[j]:=⟨_,rfl⟩
   rw[<-hp] at HF Jr HA;clear hp;go_wp2_with fail
   refine HF.out.mono ?_;rintro e w3 ⟨rfl,hb⟩;replace HW:=aa (HW.out.trans (hb.mono HW.out.size));clear hb HF
   cases p with
   | true =>
    go_wp2_with fail
    go_ret
    exact⟨j,rfl,by rw[HA.out (by trivial)];simp,HW.out⟩
   | false =>
    go_wp2_with fail
    go_roundw
    case rel=>exact⟨j+1,by go_num,hlt,Jr,HW⟩
    case measure=>simp[fH];omega
  go_wp2_with fail
  go_ret
  refine⟨-1,rfl,?_,HW.out⟩;have e:=HT.out;rw[show j=n by omega,HN.out,bD] at e;rw[e];rfl
theorem AD (va:ay) (ts:List F) (P:F->Bool) (d:Nat) (S:Nat->Prop) (w:an) (ve:ay) (h1:FL w S d va ts) (hc:∀ f ∈ ts,∀ (v:ay) (w':an),aC w.heap.size w w'->FC w' S d v f->bf ax 162 #[ve,v] w' fun e w''=>e=.returned (.bool (P f))/\aC w'.heap.size w' w'') :
  bf ax 160 #[va,.func (.func 162) #[ve] #[]] w fun e w'=>e=.returned (.bool (ts.any P))/\aC w.heap.size w w':=by
 have HI:=aa (EP va ts P d S w ve h1 hc);clear h1 hc;go_enter Tryz.func160,Tryz.ntmps160
 go_wp2_with fail
 refine HI.out.mono ?_;rintro e w3 ⟨r,rfl,hr,hb⟩;have HB:=aa hb;have HR:=aa hr;clear hb hr HI;go_wp2_with fail
 go_ret
 exact⟨by rw[<-HR.out];rfl,HB.out⟩
theorem AI (va:ay) (s:Int) (ts:List F) (d:Nat) (S:Nat->Prop) (w:an) (h1:FL w S d va ts) :
  bf ax 113 #[va,.int .i64 s] w fun e w'=>e=.returned (.bool ((fP ts).all fun q=>decide (q=s)))/\aC w.heap.size w w':=by
 have HX:=aa h1;clear h1;have HW:=aa (av w.heap.size w);go_enter Tryz.func113,Tryz.ntmps113
 obtain⟨x1,kb,eb,Uq,Gg,hkb,r5⟩:=aL w #[.int .i64 s] 36;replace HW:=aa (HW.out.trans (Gg.out.mono HW.out.size));replace HX:=aa (HX.out.below Gg.out);go_wp2_with fail
 refine (zh va ts (fun f=>jh f.op != s) d S x1 kb HX.out (fun f hf v w' hb hv=>?_)).mono ?_
 ·obtain⟨b,ao,l,c,ko,kl,kc,rfl,-,-,-⟩:=hv.open;exact Dx _ _ _ _ _ _ _ _ _ s kb w' ((hb.block _ (ag r5.out)).trans r5.out)
 rintro e w3 ⟨rfl,hb⟩;replace HW:=aa (HW.out.trans (hb.mono HW.out.size));clear hb;go_wp2_with fail
 go_ret
 refine⟨?_,HW.out⟩
 rw[show (fP ts).all (fun q=>decide (q=s)) = !ts.any (fun f=>jh f.op != s) by
  unfold fP;rw[List.all_map,List.not_any_eq_all_not];congr 1;funext f;by_cases h:jh f.op=s<;>simp[h]]
 rfl
end Go.Proofs.YtoncclhbdkjhmaaGreatDoor
