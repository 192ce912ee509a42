/-
 Joined texts: fP,LgBg,LgBo,FaE,FaF,FaG,FaH,FaI,FaJ,FaK,FaKb,FaU,FaV,FaL,FaW,FaQ.
-/
import Derived.Carry
import Derived.Lib.AppendZeros
import Derived.Test.YtoncclhbdkjhmaaGreatDoorJFactsGrow2
import Derived.Test.YtoncclhbdkjhmaaGreatDoorJFactsGrow3
import Derived.Test.YtoncclhbdkjhmaaGreatDoorJFactsGrow5
set_option maxHeartbeats 32000000
open Array renaming size_setIfInBounds→bj,replicate→nh
open Bool renaming false_ne_true→cB,or_eq_true→fS
open Go renaming lt_of_block→ae,World→af,Value→ak,bodyPost_ret→aJ,Calls→aV,TypeId→aZ,maxLen→bn,heap_alloc_new→bz,Addr→cu,wpList→mq
open Go.Builtin renaming append_→gE,zeroCells→gG
open Go.Lib renaming hid→aa
open Go.Proofs.Tryz renaming prog→aj,underlying9→eF
open Go.Result renaming andThen_ok→jP
open Go.RowKit renaming Below→aB
open Go.RowKit.Below renaming refl→ax
open Go.Sem renaming run_pure→CA,run_bind→CB
open Go.Value renaming int→dz,slice→gC
open Go.World.grownBy renaming refl→aE
open List renaming not_mem_nil→aK,map_cons→aL,mem_cons→aP,take_succ_eq_append_getElem→aT,mem_singleton→aX,map_nil→bg,setIfInBounds_toArray→bu,set_cons_succ→bQ,getElem_mem→bS,drop_succ_cons→bT,set_cons_zero→bW,drop_zero→cf,mem_append_left→dm,map_toArray→mA,map_congr_left→ud
open Nat renaming le_refl→ag,zero_le→ah,le_trans→ai,lt_of_lt_of_le→az,add_right_cancel→bZ,reduceAdd→dV,mul_le_mul→gj
open Option renaming getD_some→jX
namespace Go.Proofs.YtoncclhbdkjhmaaGreatDoor
open Go.RowKit
set_option maxRecDepth 100000
set_option linter.unusedVariables false
namespace fP
open R7
def pA (d:Nat->Bool) (i:Nat):Nat->Bool:=fun j=>decide (j=i) || d j
section
variable {P:Program} {ops:List Oper} {D:List (List Nat)} {m:Nat} {t0:Array ak} {ds:List Deferred} {Q:Exit->Act->af->Prop}
theorem main (hok:ok ops D m t0.size=true) (hin:qq ops m=true) (J:(Nat->Bool)->Array ak->af->Prop)
  (hstep:∀ d T wc i o,J d T wc->ops[i]?=some o->i<m->d i=false->(∀ j,(dep D i).contains j=true->d j=true)->(∀ j k,d j=true->(dep D j).contains k=true->d k=true)->o.guard=none/\∀ K:Act->af->Prop,Hid (∀ T' w',J (pA d i) T' w'->K ⟨T',ds⟩ w')->o.wp P ⟨T,ds⟩ wc K Q)
  (Bd:∀ T wc,J (fun j=>decide (j<m)) T wc->mq P ops.toArray Q (ops.drop m) ⟨T,ds⟩ wc) :
  ∀ (fuel:Nat) (l:Array Bool) (T:Array ak) (w:af),l.size=ops.length->l.toList.count false=fuel->(∀ j,l.getD j false=true->j<m)->(∀ j k,l.getD j false=true->(dep D j).contains k=true->l.getD k false=true)->J (fun j=>l.getD j false) T w->wpAny P .any ops.toArray Q fuel l ⟨T,ds⟩ w:=by
 have hml:=vS hok;have fin:∀ (l:Array Bool) (T:Array ak) (w:af),l.size=ops.length->(∀ j,l.getD j false=true->j<m)->(∀ j,j<m->l.getD j false=true)->J (fun j=>l.getD j false) T w->wpAny P .any ops.toArray Q (l.toList.count false) l ⟨T,ds⟩ w:=by
  intro l T w hs hlt hall hJ;have hl:l=vm ops.length m:=by
   refine Array.ext (by simp[vm,hs];omega) fun i h1 h2=>?_
   have e1:l[i]=l.getD i false:=by simp[Array.getD_eq_getD_getElem?,h1]
   rw[e1];by_cases hi:i<m
   ·rw[hall i hi];simp[vm,hi]
   have:l.getD i false=false:=by
    cases h:l.getD i false with
    | false=>rfl
    | true=>exact absurd (hlt i h) hi
   rw[this];simp[vm,List.getElem_append,hi]
  have Qb:(fun j=>l.getD j false)=fun j=>decide (j<m):=funext fun j=>by
   by_cases hj:j<m
   ·rw[hall j hj];simp[hj]
   cases h:l.getD j false with
   | false=>simp[hj]
   | true=>exact absurd (hlt j h) hj
  rw[Qb] at hJ;have hc:l.toList.count false=ops.length - m:=by rw[hl];simp[vm,List.count_append,List.count_replicate]
  rw[hc,hl];refine sW (ops.length - m) m (by omega) (fun i h1 h2=>?_) _ _ (Bd T w hJ);unfold qq at hin;have:=List.all_eq_true.1 hin i (List.mem_range.2 h2);simp only[fS,decide_eq_true_eq,beq_iff_eq] at this;exact this.resolve_left (by omega)
 intro fuel;induction fuel with
 | zero =>
  intro l T w hs hc hlt cE hJ;rw[<-hc];refine fin l T w hs hlt (fun j hj=>?_) hJ;rw[Array.getD_eq_getD_getElem?,Array.getElem?_eq_getElem (by omega)];simp only[jX];have h0:=List.count_eq_zero.1 hc;cases h:l[j]'(by omega) with
  | true=>rfl
  | false=>exact absurd (by rw[<-h];simp) h0
 | succ fuel ih =>
  intro l T w hs hc hlt cE hJ;by_cases hall:∀ j,j<m->l.getD j false=true
  ·rw[<-hc];exact fin l T w hs hlt hall hJ
  have tf:∀ i,i<ops.length->(l.getD i true=false ↔ l.getD i false=false):=fun i hi=>by simp[Array.getD_eq_getD_getElem?,show i<l.size by omega]
  refine⟨fun h0=>?_,fun i hi=>?_⟩
  ·have:∃ j,(j<m/\l.getD j false≠true)/\∀ i,i<j->l.getD i false=true:=by
    obtain⟨j,hj⟩:=Classical.not_forall.1 hall;obtain⟨Uh,uJ⟩:=Classical.not_imp.1 hj;clear hj;induction j using Nat.strongRecOn with
    | ind j ihj =>
     by_cases h:∀ i,i<j->l.getD i false=true
     ·exact⟨j,⟨Uh,uJ⟩,h⟩
     obtain⟨i,hi⟩:=Classical.not_forall.1 h;obtain⟨xd,oV⟩:=Classical.not_imp.1 hi;exact ihj i xd (by omega) oV
   obtain⟨j,⟨Uh,uJ⟩,Rt⟩:=this;have jq:j<ops.length:=by omega
   have hm:j ∈ Region.ready .any ops.toArray l:=by
    rw[mem_ready];refine⟨(tf j jq).2 (by simpa using uJ),ops[j],by simp[jq],fun e he hb=>Rt _ ?_⟩;exact (rI hok (List.getElem?_eq_getElem jq)).1 e he hb
   rw[h0] at hm;cases hm
  obtain⟨h1,o,ho,he⟩:=mem_ready.1 hi;have lY:ops[i]?=some o:=by simpa using ho
  have oL:i<ops.length:=(List.getElem?_eq_some_iff.1 lY).1;have MG:=(tf i oL).1 h1;have hk:=rI hok lY;have aC:∀ j,(dep D i).contains j=true->l.getD j false=true:=fun j hj=>by
   obtain⟨⟨e,e1,e2,e3⟩,-,-⟩:=hk.2.1 j hj;have:=he e e1 e2;rcases e3 with e3 | e3
   ·rw[<-e3];exact this
   exact cE _ _ this e3
  have Ik:i<m:=by
   rcases hk.2.2.1 with h | h
   ·exact h
   exact absurd (fun j hj=>aC j (h j hj)) hall
  obtain⟨hg,hw⟩:=hstep _ T w i o hJ lY Ik MG aC cE;unfold wpOp;rw[ho];have Nu:Region.wanted o (yielded ops.toArray T)=true:=by unfold Region.wanted;rw[hg]
  simp only[Nu,if_true];refine Or.inl (hw _ (aa fun T' w' XP=>?_));have La:i<l.size:=by omega
  have Xa:(fun j=>(l.setIfInBounds i true).getD j false)=pA (fun j=>l.getD j false) i:=funext fun j=>R7.gR La
  have RB:l.toList[i]?=some false:=by
   rw[Array.getElem?_toList,Array.getElem?_eq_getElem La];have:=MG;rw[Array.getD_eq_getD_getElem?,Array.getElem?_eq_getElem La] at this;exact congrArg some this
  refine ih _ T' w' (by simpa using hs) ?_ (fun j hj=>?_) (fun j k hj B9=>?_) (by rw[Xa];exact XP)
  ·rw[Array.toList_setIfInBounds];have:=rQ RB;omega
  ·rw[R7.gR La,fS,decide_eq_true_eq] at hj;rcases hj with rfl | hj
   ·exact Ik
   exact hlt j hj
  rw[R7.gR La,fS,decide_eq_true_eq] at hj ⊢;rcases hj with rfl | hj
  ·exact .inr (aC k B9)
  exact .inr (cE j k hj B9)
theorem region {id:Nat} {w:af} (hm:P.follows .mixedOrders=true) (D:List (List Nat)) (m:Nat) (hok:ok ops D m t0.size=true) (hin:qq ops m=true) (J:(Nat->Bool)->Array ak->af->Prop)
  (h0:J (fun _=>false) t0 w.drew)
  (hstep:∀ d T wc i o,J d T wc->ops[i]?=some o->i<m->d i=false->(∀ j,(dep D i).contains j=true->d j=true)->(∀ j k,d j=true->(dep D j).contains k=true->d k=true)->o.guard=none/\∀ K:Act->af->Prop,Hid (∀ T' w',J (pA d i) T' w'->K ⟨T',ds⟩ w')->o.wp P ⟨T,ds⟩ wc K Q)
  (Bd:∀ T wc,J (fun j=>decide (j<m)) T wc->mq P ops.toArray Q (ops.drop m) ⟨T,ds⟩ wc):(Code.region id ops.toArray true).wp P Q ⟨t0,ds⟩ w:=by
 refine wp_region_any hm ?_;have hno:(fun j=>(nh ops.toArray.size false).getD j false)=fun _=>false:=funext fun j=>by
  rw[Array.getD_eq_getD_getElem?];by_cases h:j<ops.length<;>simp[h]
 have hnn:∀ j,(nh ops.toArray.size false).getD j false=true->False:=fun j hj=>by
  have:=congrFun hno j;rw[this] at hj;cases hj
 have hc:(nh ops.toArray.size false).toList.count false=ops.toArray.size:=by simp
 exact main hok hin J hstep Bd _ _ t0 _ (by simp) hc (fun j hj=>(hnn j hj).elim) (fun j k hj=>(hnn j hj).elim) (by rw[hno];exact h0)
end
end fP
end Go.Proofs.YtoncclhbdkjhmaaGreatDoor
namespace Go.Proofs.YtoncclhbdkjhmaaGreatDoor
open Go.RowKit
set_option maxRecDepth 100000
set_option linter.unusedVariables false
set_option linter.unusedSimpArgs false
def I8:Obj:=.cells #[.int .i64 0,.bool false,.slice none 0 0,.string ⟨#[]⟩,.slice none 0 0] 29 (0,0)
def nX (g:Nat):ak:=.pointer (some ⟨g,0,none⟩)
theorem AY {g h:Nat} (e:(some (nX g):Option ak)=some (nX h)):g=h:=by unfold nX at e;injection e with e;injection e with e;injection e with e;injection e
def Qr (w:af) (T:Array ak) (s a b:Nat) (D:Nat) (P:F->Prop) (da db:Bool):Prop:=
 ∃ y t lo hi,T[s]?=some (fV y)/\FT w (fun q=>lo<=q/\q<hi) D y t/\hi<=w.heap.size/\P t/\(∀ g,da=true->T[a]?=some (nX g)->g<lo\/hi<=g)/\(∀ g,db=true->T[b]?=some (nX g)->g<lo\/hi<=g)
def O1 (W0 w:af) (T:Array ak) (s:Nat):Prop:=∃ g,T[s]?=some (nX g)/\W0.heap.size<=g/\w.heap[g]?=some I8
structure TJ (W0:af) (t0:Array ak) (sl:Nat->Nat) (X Y:ak) (D1 D3:Nat) (P1 P3:F->Prop) (d:Nat->Bool) (T:Array ak) (w:af):Prop where
 be:aB W0.heap.size W0 w
 sz:T.size=t0.size
 gP:∀ j,(∀ i,i<6->j≠sl i)->T[j]?=t0[j]?
 v0:d 0=true->T[sl 0]?=some X
 v2:d 2=true->T[sl 2]?=some Y
 v1:d 1=true->Qr w T (sl 1) (sl 4) (sl 5) D1 P1 (d 4) (d 5)
 v3:d 3=true->Qr w T (sl 3) (sl 4) (sl 5) D3 P3 (d 4) (d 5)
 v4:d 4=true->O1 W0 w T (sl 4)
 v5:d 5=true->O1 W0 w T (sl 5)
 Ts:d 4=true->d 5=true->T[sl 4]? ≠ T[sl 5]?
section
variable {W0:af} {t0:Array ak} {sl:Nat->Nat} {X Y:ak} {D1 D3:Nat} {P1 P3:F->Prop} {d:Nat->Bool} {T:Array ak} {w w':af}
theorem eW {T:Array ak} {i j:Nat} {v:ak} (h:j≠i):(T.setIfInBounds i v)[j]?=T[j]?:=by
 rw[Array.getElem?_setIfInBounds];simp[h.symm]
theorem fI {T:Array ak} {i:Nat} {v:ak} (h:i<T.size):(T.setIfInBounds i v)[i]?=some v:=by
 rw[Array.getElem?_setIfInBounds];simp[h]
theorem fU {d:Nat->Bool} {i k:Nat} (h:k≠i):fP.pA d i k=d k:=by unfold fP.pA;simp[h]
theorem TJ.step (h:TJ W0 t0 sl X Y D1 D3 P1 P3 d T w) (hne:∀ i j,i<6->j<6->i≠j->sl i≠sl j) (hlt:∀ i,i<6->sl i<t0.size) (i:Nat) (hi:i<6) (hd:d i=false) (v:ak) (hb:aB w.heap.size w w')
  (n0:i=0->v=X) (n2:i=2->v=Y) (n1:i=1->∃ y t,v=fV y/\FT w' (fun b=>w.heap.size<=b) D1 y t/\P1 t) (n3:i=3->∃ y t,v=fV y/\FT w' (fun b=>w.heap.size<=b) D3 y t/\P3 t)
  (n4:i=4->v=nX w.heap.size/\w'.heap[w.heap.size]?=some I8) (n5:i=5->v=nX w.heap.size/\w'.heap[w.heap.size]?=some I8):TJ W0 t0 sl X Y D1 D3 P1 P3 (fP.pA d i) (T.setIfInBounds (sl i) v) w':=by
 have hsz:sl i<T.size:=by rw[h.sz];exact hlt i hi
 have TP:W0.heap.size<=w.heap.size:=h.be.size;have get:∀ k,k<6->k≠i->(T.setIfInBounds (sl i) v)[sl k]?=T[sl k]?:=fun k hk uq=>eW (hne k i hk hi uq)
 have zY:(T.setIfInBounds (sl i) v)[sl i]?=some v:=fI hsz;have PS:∀ k,k=4\/k=5->d k=true->∀ g,T[sl k]?=some (nX g)->g<w.heap.size:=by
  intro k hk MC g hg;have:O1 W0 w T (sl k):=by rcases hk with rfl | rfl;exact h.v4 MC;exact h.v5 MC
  obtain⟨q,hq,_,hc⟩:=this;rw[hq] at hg;rw[<-AY hg];exact ae hc
 have var:∀ k,k=4\/k=5->(d k=true->O1 W0 w T (sl k))->(i=k->v=nX w.heap.size/\w'.heap[w.heap.size]?=some I8)->fP.pA d i k=true->O1 W0 w' (T.setIfInBounds (sl i) v) (sl k):=by
  intro k hk hv hn hu;by_cases uq:k=i
  ·subst uq;obtain⟨e1,e2⟩:=hn rfl;exact⟨w.heap.size,by rw[zY,e1],TP,e2⟩
  rw[fU uq] at hu;obtain⟨g,h1,h2,h3⟩:=hv hu;exact⟨g,by rw[get k (by omega) uq];exact h1,h2,by rw[hb.block g (ae h3)];exact h3⟩
 have UW:∀ k,k=4\/k=5->∀ lo hi,hi<=w.heap.size->(∀ g,d k=true->T[sl k]?=some (nX g)->g<lo\/hi<=g)->(i=k->v=nX w.heap.size)->∀ g,fP.pA d i k=true->(T.setIfInBounds (sl i) v)[sl k]?=some (nX g)->g<lo\/hi<=g:=by
  intro k hk lo hi' hhi ho hn g hu hg;by_cases uq:k=i
  ·subst uq;rw[zY,hn rfl] at hg;have:=AY hg;omega
  rw[fU uq] at hu;rw[get k (by omega) uq] at hg;exact ho g hu hg
 have tree:∀ s D P,s=1\/s=3->(d s=true->Qr w T (sl s) (sl 4) (sl 5) D P (d 4) (d 5))->(i=s->∃ y t,v=fV y/\FT w' (fun b=>w.heap.size<=b) D y t/\P t)->fP.pA d i s=true->Qr w' (T.setIfInBounds (sl i) v) (sl s) (sl 4) (sl 5) D P (fP.pA d i 4) (fP.pA d i 5):=by
  intro s D P hs ho hn hu;by_cases hsi:s=i
  ·subst hsi;obtain⟨y,t,e1,e2,e3⟩:=hn rfl;have h4:fP.pA d s 4=d 4:=fU (by omega);have h5:fP.pA d s 5=d 5:=fU (by omega);refine⟨y,t,w.heap.size,w'.heap.size,by rw[zY,e1],e2.lt,ag _,e3,fun g hg hgt=>?_,fun g hg hgt=>?_⟩
   ·rw[h4] at hg;rw[get 4 (by omega) (by omega)] at hgt;exact .inl (PS 4 (.inl rfl) hg g hgt)
   rw[h5] at hg;rw[get 5 (by omega) (by omega)] at hgt;exact .inl (PS 5 (.inr rfl) hg g hgt)
  rw[fU hsi] at hu;obtain⟨y,t,lo,hi',a1,a2,a3,a4,a5,a6⟩:=ho hu;exact⟨y,t,lo,hi',by rw[get s (by omega) hsi];exact a1,a2.below hb,ai a3 hb.size,a4,UW 4 (.inl rfl) lo hi' a3 a5 (fun e=>(n4 e).1),UW 5 (.inr rfl) lo hi' a3 a6 (fun e=>(n5 e).1)⟩
 refine⟨h.be.trans (hb.mono TP),by rw[bj,h.sz],fun j hj=>?_,fun hu=>?_,fun hu=>?_,tree 1 D1 P1 (.inl rfl) h.v1 n1,tree 3 D3 P3 (.inr rfl) h.v3 n3,var 4 (.inl rfl) h.v4 n4,var 5 (.inr rfl) h.v5 n5,fun h4 h5=>?_⟩
 ·rw[eW (hj i hi)];exact h.gP j hj
 ·by_cases hi0:i=0
  ·subst hi0;rw[zY,n0 rfl]
  rw[fU (fun e=>hi0 e.symm)] at hu;rw[get 0 (by omega) (fun e=>hi0 e.symm)];exact h.v0 hu
 ·by_cases hi0:i=2
  ·subst hi0;rw[zY,n2 rfl]
  rw[fU (fun e=>hi0 e.symm)] at hu;rw[get 2 (by omega) (fun e=>hi0 e.symm)];exact h.v2 hu
 by_cases h4i:i=4
 ·subst h4i;rw[fU (by omega)] at h5;rw[get 5 (by omega) (by omega),zY,(n4 rfl).1];intro e;have:=PS 5 (.inr rfl) h5 _ e.symm;omega
 rw[fU (fun e=>h4i e.symm)] at h4;by_cases h5i:i=5
 ·subst h5i;rw[get 4 (by omega) (by omega),zY,(n5 rfl).1];intro e;have:=PS 4 (.inl rfl) h4 _ e;omega
 rw[fU (fun e=>h5i e.symm)] at h5;rw[get 4 (by omega) (fun e=>h4i e.symm),get 5 (by omega) (fun e=>h5i e.symm)];exact h.Ts h4 h5
theorem TJ.start (W0:af) (t0:Array ak) (sl:Nat->Nat) (X Y:ak) (D1 D3:Nat) (P1 P3:F->Prop):TJ W0 t0 sl X Y D1 D3 P1 P3 (fun _=>false) t0 W0.drew:=
 ⟨(ax _ _).drew,rfl,fun _ _=>rfl,fun h=>absurd h cB,fun h=>absurd h cB,fun h=>absurd h cB,fun h=>absurd h cB,fun h=>absurd h cB,fun h=>absurd h cB,fun h=>absurd h cB⟩
theorem TJ.all (h:TJ W0 t0 sl X Y D1 D3 P1 P3 (fun j=>decide (j<6)) T w):∃ y1 t1 y3 t3 g4 g5,(T[sl 1]?=some (fV y1)/\T[sl 3]?=some (fV y3)/\T[sl 4]?=some (nX g4)/\T[sl 5]?=some (nX g5)) /\
  FT w (fun b=>b≠g4/\b≠g5) D1 y1 t1/\FT w (fun b=>b≠g4/\b≠g5) D3 y3 t3/\P1 t1/\P3 t3/\(W0.heap.size<=g4/\W0.heap.size<=g5/\g4≠g5)/\w.heap[g4]?=some I8/\w.heap[g5]?=some I8:=by
 obtain⟨y1,t1,lo,hi,a1,a2,a3,a4,a5,a6⟩:=h.v1 rfl;obtain⟨y3,t3,lo',hi',b1,b2,b3,b4,b5,b6⟩:=h.v3 rfl;obtain⟨g4,c1,c2,c3⟩:=h.v4 rfl;obtain⟨g5,d1,d2,d3⟩:=h.v5 rfl;have x4:=a5 g4 rfl c1;have x5:=a6 g5 rfl d1;have z4:=b5 g4 rfl c1;have z5:=b6 g5 rfl d1;exact⟨y1,t1,y3,t3,g4,g5,⟨a1,b1,c1,d1⟩,a2.mono (fun b hb=>⟨by omega,by omega⟩),b2.mono (fun b hb=>⟨by omega,by omega⟩),a4,b4,⟨c2,d2,fun e=>h.Ts rfl rfl (by rw[c1,d1,e])⟩,c3,d3⟩
theorem Lw {T t0:Array ak} {s0 s1 s2 s3 s4 s5:Nat} {u0 u1 u2 u3 u4 u5:ak} (hsz:T.size=t0.size) (hne:[s0,s1,s2,s3,s4,s5].Nodup) (hlt:∀ s ∈ [s0,s1,s2,s3,s4,s5],s<t0.size) (h0:T[s0]?=some u0) (h1:T[s1]?=some u1) (h2:T[s2]?=some u2) (h3:T[s3]?=some u3) (h4:T[s4]?=some u4) (h5:T[s5]?=some u5)
  (ho:∀ j,j≠s0->j≠s1->j≠s2->j≠s3->j≠s4->j≠s5->T[j]?=t0[j]?):T=(((((t0.setIfInBounds s0 u0).setIfInBounds s1 u1).setIfInBounds s2 u2).setIfInBounds s3 u3).setIfInBounds s4 u4).setIfInBounds s5 u5:=by
 simp only[List.nodup_cons,aP,aK,or_false,not_or,List.nodup_nil,and_true,not_false_eq_true] at hne;obtain⟨⟨a1,a2,a3,a4,a5⟩,⟨b2,b3,b4,b5⟩,⟨c3,c4,c5⟩,⟨d4,d5⟩,e5⟩:=hne;have l0:=hlt s0 (by simp);have l1:=hlt s1 (by simp);have l2:=hlt s2 (by simp);have l3:=hlt s3 (by simp);have l4:=hlt s4 (by simp);have l5:=hlt s5 (by simp);apply Array.ext_getElem?;intro j;by_cases j5:j=s5
 ·subst j5;rw[fI (by simp;exact l5)];exact h5
 rw[eW j5];by_cases j4:j=s4
 ·subst j4;rw[fI (by simp;exact l4)];exact h4
 rw[eW j4];by_cases j3:j=s3
 ·subst j3;rw[fI (by simp;exact l3)];exact h3
 rw[eW j3];by_cases j2:j=s2
 ·subst j2;rw[fI (by simp;exact l2)];exact h2
 rw[eW j2];by_cases j1:j=s1
 ·subst j1;rw[fI (by simp;exact l1)];exact h1
 rw[eW j1];by_cases j0:j=s0
 ·subst j0;rw[fI l0];exact h0
 rw[eW j0];exact ho j j0 j1 j2 j3 j4 j5
end
section
variable {W0:af} {t0:Array ak} {n q:Nat} {sl:Nat->Nat} {Fk:Nat->ak->af->Prop} {Rk:Nat->ak->ak->af->Prop} {d:Nat->Bool} {T:Array ak} {w w':af}
end
def Q5 (b:Bool) (o:Option cu) (l c:Nat):ak:=.agg #[.int .i64 0,.bool b,.slice o l c,.string ⟨#[]⟩,.slice none 0 0]
def F8 (X:af) (pn:ByteArray) (V1 V3:ak) (t3 P:F):Nat->ak->af->Prop
 | 0,v,_=>v=V1
 | 1,v,_=>v=.string pn
 | 2,v,w=>YA w v [pn,i9]
 | 3,v,_=>v=V3
 | 4,v,w=>∃ b o l c,v=Q5 b o l c/\CI w (.agg #[.bool b,.slice o l c]) 1 600
 | 5,v,w=>FL w (fun b=>b<w.heap.size) 4 v [t3,Q0]
 | 6,v,w=>FC w (fun b=>b<w.heap.size) 9 v P
 | 7,v,w=>∃ g,v=nX g/\X.heap.size<=g/\w.heap[g]?=some I8
 | _,_,_=>True
structure JP (W0:af) (t0:Array ak) (n q:Nat) (sl:Nat->Nat) (G:af->af->Prop) (Fk:Nat->ak->af->Prop) (d:Nat->Bool) (T:Array ak) (w:af):Prop where
 be:G W0 w
 bl:d q=false->aB W0.heap.size W0 w
 sz:T.size=t0.size
 gP:∀ j,(∀ i,i<n->j≠sl i)->T[j]?=t0[j]?
 val:∀ k,k<n->d k=true->∃ v,T[sl k]?=some v/\Fk k v w
section
variable {W0:af} {t0:Array ak} {n q:Nat} {sl:Nat->Nat} {G:af->af->Prop} {Fk:Nat->ak->af->Prop} {d:Nat->Bool} {T:Array ak} {w w':af}
theorem JP.start (hG:G W0 W0.drew):JP W0 t0 n q sl G Fk (fun _=>false) t0 W0.drew:=
 ⟨hG,fun _=>(ax _ _).drew,rfl,fun _ _=>rfl,fun k _ h=>absurd h cB⟩
theorem JP.put (h:JP W0 t0 n q sl G Fk d T w) (hne:∀ i j,i<n->j<n->i≠j->sl i≠sl j) (hlt:∀ i,i<n->sl i<t0.size) (i:Nat) (hi:i<n) (v:ak) (iB:G W0 w') (cS:fP.pA d i q=false->aB W0.heap.size W0 w')
  (h1:Fk i v w') (h2:∀ k,k<n->k≠i->d k=true->∀ x,Fk k x w->Fk k x w'):JP W0 t0 n q sl G Fk (fP.pA d i) (T.setIfInBounds (sl i) v) w':=by
 have hsz:sl i<T.size:=by rw[h.sz];exact hlt i hi
 refine⟨iB,cS,by rw[bj,h.sz],fun j hj=>?_,fun k hk hu=>?_⟩
 ·rw[eW (hj i hi)];exact h.gP j hj
 by_cases uq:k=i
 ·subst uq;exact⟨v,fI hsz,h1⟩
 rw[fU uq] at hu;obtain⟨x,hx,hf⟩:=h.val k hk hu;exact⟨x,by rw[eW (hne k i hk hi uq)];exact hx,h2 k hk uq hu x hf⟩
theorem JP.step (h:JP W0 t0 n q sl G Fk d T w) (hG:∀ w w':af,G W0 w->aB w.heap.size w w'->G W0 w') (hF:∀ k v (w w':af),aB w.heap.size w w'->Fk k v w->Fk k v w') (hne:∀ i j,i<n->j<n->i≠j->sl i≠sl j) (hlt:∀ i,i<n->sl i<t0.size) (i:Nat) (hi:i<n) (Xz:q≠i) (v:ak) (hb:aB w.heap.size w w') (h1:Fk i v w'):JP W0 t0 n q sl G Fk (fP.pA d i) (T.setIfInBounds (sl i) v) w':=
 h.put hne hlt i hi v (hG w w' h.be hb) (fun hu=>by rw[fU Xz] at hu;exact (h.bl hu).trans (hb.mono (h.bl hu).size)) h1 (fun k _ _ _ x hx=>hF k x w w' hb hx)
theorem JP.C6 (h:JP W0 t0 n q sl G Fk d T w) (hq:q<n) (hne:∀ i j,i<n->j<n->i≠j->sl i≠sl j) (hlt:∀ i,i<n->sl i<t0.size) (v:ak) (iB:G W0 w') (h1:Fk q v w') (h2:∀ k,k<n->k≠q->d k=true->∀ x,Fk k x w->Fk k x w'):JP W0 t0 n q sl G Fk (fP.pA d q) (T.setIfInBounds (sl q) v) w':=
 h.put hne hlt q hq v iB (fun hu=>by unfold fP.pA at hu;simp at hu) h1 h2
end
section
variable {W0:af} {t0:Array ak} {n:Nat} {sl:Nat->Nat} {G:Nat->af->af->Prop} {Fk:Nat->ak->af->Prop} {d:Nat->Bool} {T:Array ak} {w w':af}
end
theorem Eu {T t0:Array ak} {s0 s1 s2 s3 s4 s5 s6 s7 s8 s9:Nat} {u0 u1 u2 u3 u4 u5 u6 u7 u8 u9:ak} (hsz:T.size=t0.size) (hlt:∀ s ∈ [s0,s1,s2,s3,s4,s5,s6,s7,s8,s9],s<t0.size) (h0:T[s0]?=some u0) (h1:T[s1]?=some u1) (h2:T[s2]?=some u2) (h3:T[s3]?=some u3) (h4:T[s4]?=some u4) (h5:T[s5]?=some u5) (h6:T[s6]?=some u6) (h7:T[s7]?=some u7) (h8:T[s8]?=some u8) (h9:T[s9]?=some u9) (ho:∀ j,(∀ s ∈ [s0,s1,s2,s3,s4,s5,s6,s7,s8,s9],j≠s)->T[j]?=t0[j]?):T=((((((((((t0.setIfInBounds s0 u0).setIfInBounds s1 u1).setIfInBounds s2 u2).setIfInBounds s3 u3).setIfInBounds s4 u4).setIfInBounds s5 u5).setIfInBounds s6 u6).setIfInBounds s7 u7).setIfInBounds s8 u8).setIfInBounds s9 u9):=by
 have l0:=hlt s0 (by simp);have l1:=hlt s1 (by simp);have l2:=hlt s2 (by simp);have l3:=hlt s3 (by simp);have l4:=hlt s4 (by simp);have l5:=hlt s5 (by simp);have l6:=hlt s6 (by simp);have l7:=hlt s7 (by simp);have l8:=hlt s8 (by simp);have l9:=hlt s9 (by simp);apply Array.ext_getElem?;intro j;by_cases j9:j=s9
 ·subst j9;rw[fI (by (try simp only[bj]);exact l9)];exact h9
 rw[eW j9];by_cases j8:j=s8
 ·subst j8;rw[fI (by (try simp only[bj]);exact l8)];exact h8
 rw[eW j8];by_cases j7:j=s7
 ·subst j7;rw[fI (by (try simp only[bj]);exact l7)];exact h7
 rw[eW j7];by_cases j6:j=s6
 ·subst j6;rw[fI (by (try simp only[bj]);exact l6)];exact h6
 rw[eW j6];by_cases j5:j=s5
 ·subst j5;rw[fI (by (try simp only[bj]);exact l5)];exact h5
 rw[eW j5];by_cases j4:j=s4
 ·subst j4;rw[fI (by (try simp only[bj]);exact l4)];exact h4
 rw[eW j4];by_cases j3:j=s3
 ·subst j3;rw[fI (by (try simp only[bj]);exact l3)];exact h3
 rw[eW j3];by_cases j2:j=s2
 ·subst j2;rw[fI (by (try simp only[bj]);exact l2)];exact h2
 rw[eW j2];by_cases j1:j=s1
 ·subst j1;rw[fI (by (try simp only[bj]);exact l1)];exact h1
 rw[eW j1];by_cases j0:j=s0
 ·subst j0;rw[fI (by (try simp only[bj]);exact l0)];exact h0
 rw[eW j0];refine ho j (fun s hs=>?_);simp only[aP,aK,or_false] at hs;rcases hs with rfl | rfl | rfl | rfl | rfl | rfl | rfl | rfl | rfl | rfl<;>assumption
theorem zi {o:Oper} {a:Act} {w w':af} {v x v':ak} {t:aZ} {K:Act->af->Prop} {Q:Exit->Act->af->Prop} (s y:Operand)
  (ho:o.op=.call { callee:=.builtin .append,args:=#[s,y],argTypes:=#[t,t] }) (hs:a.eval s=v) (hx:a.eval y=x) (hr:(gE #[t,t] o.type #[v,x]).run aj w=.ok v' w') (hK:K (a.put o.dst v') w'):o.wp aj a w K Q:=by
 unfold Oper.wp execOp;simp only[ho,resolve,invoke,builtin,CB,CA,jP,mA,aL,bg,hs,hx,hr];exact hK
theorem uW {α:Type} {E:El α} {w w':af} {B:Nat} {v v':ak} {el ns:List α} {a:cu} {m c:Nat} (h:E.Row w B v el) (hx:E.At w (.slice (some a) m c) ns) (h0:0<ns.length) (hlen:el.length+ns.length<=1000000) (ty:aZ) (hr:(gE #[E.t,E.t] ty #[v,.slice (some a) m c]).run aj w=.ok v' w'):jF w v v':=by
 obtain⟨i,hi,hz,iq,mP⟩:=info_parts E.info;have hm:m=ns.length:=by obtain⟨_,_,e,_⟩:=hx;injection e
 subst hm;have hl:(ns.flatMap E.f).length=ns.length*i.size:=by rw[iq];exact gI E.f E.len ns
 have h1:∀ u ∈ ns.flatMap E.f,u.oneCell'=true:=fun u hu=>by
  obtain⟨b,_,hb⟩:=List.mem_flatMap.1 hu;exact E.one b u hb
 have hown:w.ownsRow B E.e i.size v el.length (el.flatMap E.f):=by rw[iq];exact h.own
 exact lI (P:=aj) E.ht hi hz hown hl hx.news h1 (by omega) (by rw[mP];exact ai (gj hlen E.CP) (by decide)) h0 (by rw[iq];exact E.zs) (by rw[iq];exact E.pos) hr
attribute [local go_sem] cL cK cJ cI
def Ext (s s':List F) (n:Nat):Prop:=∃ m,s'=s++m/\m.length<=n
theorem Ext.refl (s:List F):Ext s s 0:=⟨[],by simp,ag _⟩
theorem Ext.trans {a b c:List F} {m n k:Nat} (h:Ext a b m) (g:Ext b c n) (hk:m+n<=k):Ext a c k:=by
 obtain⟨x,rfl,hx⟩:=h;obtain⟨y,rfl,hy⟩:=g;exact⟨x++y,by rw[List.append_assoc],by rw[dB];omega⟩
theorem Ext.up {a b:List F} {m n:Nat} (h:Ext a b m) (hn:m<=n):Ext a b n:=by
 obtain⟨x,h1,h2⟩:=h;exact⟨x,h1,ai h2 hn⟩
theorem Ext.get {a b:List F} {n i:Nat} {t:F} (h:Ext a b n) (hi:a[i]?=some t):b[i]?=some t:=by
 obtain⟨x,rfl,-⟩:=h;obtain⟨hl,e⟩:=List.getElem?_eq_some_iff.1 hi;rw[List.getElem?_append_left hl];exact hi
theorem Ext.len {a b:List F} {n:Nat} (h:Ext a b n):b.length<=a.length+n:=by
 obtain⟨x,rfl,hx⟩:=h;rw[dB];omega
def fj (B k:Nat) (E:Nat->Prop) (L s:List F) (t:F) (n:Nat) (w:af) (e:Ending) (w':af):Prop:=∃ (i:Nat) (s':List F),e=.returned (.int .i64 ((i:Nat):Int))/\St B k E L s' w'/\Ext s s' n/\s'[i]?=some t/\cA B k w w'
theorem CU (w:af):(zeroValue 116).run aj w=.ok (.int .i64 0) w:=by kernel_rfl
theorem DQ {d:Nat} {s:List F} {t:F} (ht:Tg d t) (hs:s.length<=1000000) (hk:∀ c ∈ t.kids,c ∈ s):(jx s t).length<=bn:=by
 have h1:=sA 2 _ (sN ht hs hk);have h2:=A' 2 (by decide);unfold jx bn
 omega
theorem JW.more {B k:Nat} {E:Nat->Prop} {L s:List F} {w w':af} {km:Nat} {v v':ak} {us:List xk} {M:Bs->Option ak} (h:JW B k E L s w km v us M) {t:F} {u:xk} (hn:t ∉ s) (hg:Gd t) (hks:∀ x ∈ t.kids,x ∈ s) (Rq:s.length+1<=900000)
  (hst:cA B k w w') (bk:w'.heap[k]?=some (.cells #[.map (some km),v'] 163 (0,0))) (mp:iz aj 9 w' km (fun x=>if x=jx s t then some (.int .i64 ((s.length:Nat):Int)) else M x)) (row:nR.Row w' (k+1) v' (us++[u]))
  (hft:FT w' (NS B k E w') 9 u.u t) (gN:IL B k E w' (.slice u.ko u.kl u.kc) (t.kids.map (idx s))) (hb:u.b=false):St B k E L (s++[t]) w':=by
 have hid:∀ x ∈ s,x.kids.map (idx (s++[t]))=x.kids.map (idx s):=fun x hx=>ud fun c hc=>wh (h.cl x hx c hc)
 have Rz:t.kids.map (idx (s++[t]))=t.kids.map (idx s):=ud fun c hc=>wh (hks c hc)
 have get:∀ (i:Nat) (x:xk) (y:F),(us++[u])[i]?=some x->(s++[t])[i]?=some y->(us[i]?=some x/\s[i]?=some y)\/(x=u/\y=t):=by
  intro i x y hx hy;by_cases hi:i<s.length
  ·rw[List.getElem?_append_left (by rw[h.len];exact hi)] at hx;rw[List.getElem?_append_left hi] at hy;exact .inl ⟨hx,hy⟩
  rw[List.getElem?_append_right (by rw[h.len];omega),h.len] at hx;rw[List.getElem?_append_right (by omega)] at hy;have e:i - s.length=0:=by
   have:=(List.getElem?_eq_some_iff.1 hy).1;simp only[jo,qE] at this;omega
  rw[e] at hx hy;exact .inr ⟨by simpa using hx.symm,by simpa using hy.symm⟩
 have hkey:∀ x ∈ s,jx (s++[t]) x=jx s x:=fun x hx=>xU (h.cl x hx)
 have lZ:jx (s++[t]) t=jx s t:=xU hks;have hne:∀ x ∈ s,jx s x≠jx s t:=fun x hx e=>hn (by
  have:=xT (h.good x hx).2 hg.2 (h.good x hx).1 hg.1 (ai h.max (by decide)) (h.cl x hx) hks e;rw[<-this];exact hx)
 refine⟨km,v',us++[u],(fun x=>if x=jx s t then some (.int .i64 ((s.length:Nat):Int)) else M x),?_⟩;exact {
  bk:=bk
  kB:=h.kB
  mB:=h.mB
  sz:=ai h.sz hst.size
  mp:=mp
  dom:=by
   obtain⟨l,hl,hx⟩:=h.dom;refine⟨jx s t::l,by rw[jo,dB];simpa using hl,fun x hm=>?_⟩;by_cases e:x=jx s t
   ·rw[e];simp
   refine List.mem_cons_of_mem _ (hx x ?_);have yV:(if x=jx s t then some (dz .i64 ((s.length:Nat):Int)) else M x).isSome=true:=hm;rw[if_neg e] at yV;exact yV
  m1:=fun i x hi=>by
   by_cases hl:i<s.length
   ·rw[List.getElem?_append_left hl] at hi;have hx:=List.mem_of_getElem? hi;rw[hkey x hx,if_neg (hne x hx)];exact h.m1 i x hi
   rw[List.getElem?_append_right (by omega)] at hi;have e:i=s.length:=by
    have:=(List.getElem?_eq_some_iff.1 hi).1;simp only[jo,qE] at this;omega
   subst e;have:x=t:=by simpa using hi.symm
   subst this;rw[lZ,if_pos rfl]
  m2:=fun x q hm0=>by
   have hm:(if x=jx s t then some (dz .i64 ((s.length:Nat):Int)) else M x)=some q:=hm0;by_cases e:x=jx s t
   ·rw[if_pos e] at hm;injection hm with hm;exact⟨s.length,t,by simp,by rw[lZ,e],hm.symm⟩
   rw[if_neg e] at hm;obtain⟨i,y,h1,h2,h3⟩:=h.m2 x q hm;have hl:=(List.getElem?_eq_some_iff.1 h1).1;exact⟨i,y,by rw[List.getElem?_append_left hl];exact h1,by rw[hkey y (List.mem_of_getElem? h1)];exact h2,h3⟩
  row:=row
  len:=by rw[dB,dB,h.len];rfl
  nd:=by
   rw[List.nodup_append];exact⟨h.nd,by simp,fun a ha b hb e=>by rw[aX] at hb;rw[e,hb] at ha;exact hn ha⟩
  good:=fun x hx=>by
   rcases List.mem_append.1 hx with hx | hx
   ·exact h.good x hx
   rw[aX] at hx;rw[hx];exact hg
  cl:=fun x hx c hc=>by
   rcases List.mem_append.1 hx with hx | hx
   ·exact dm _ (h.cl x hx c hc)
   rw[aX] at hx;rw[hx] at hc;exact dm _ (hks c hc)
  ft:=fun i x y hx hy=>by
   rcases get i x y hx hy with ⟨h1,h2⟩ | ⟨rfl,rfl⟩
   ·exact (h.ft i x y h1 h2).rz hst
   exact hft
  ids:=fun i x y hx hy=>by
   rcases get i x y hx hy with ⟨h1,h2⟩ | ⟨rfl,rfl⟩
   ·rw[hid y (List.mem_of_getElem? h2)];exact (h.ids i x y h1 h2).rz hst
   rw[Rz];exact gN
  vm:=fun i x y hx hy=>by
   rcases get i x y hx hy with ⟨h1,h2⟩ | ⟨rfl,rfl⟩
   ·exact h.vm i x y h1 h2
   rw[hb];exact⟨fun e=>absurd e cB,fun e=>absurd (h.sub _ e) hn⟩
  sub:=fun x hx=>dm _ (h.sub x hx)
  max:=by rw[dB];exact Rq
  ex:=fun g hg=>az (h.ex g hg) hst.size
  tx:=by
   obtain⟨w0,h1,h2,h3⟩:=h.tx;exact⟨w0,h1,h2,h3.trans (hst.below h.sz)⟩ }
theorem JW.none {B k:Nat} {E:Nat->Prop} {L s:List F} {w:af} {km:Nat} {v:ak} {us:List xk} {M:Bs->Option ak} (h:JW B k E L s w km v us M) {t:F} (hn:t ∉ s) (hg:Gd t) (hks:∀ x ∈ t.kids,x ∈ s):M (jx s t)=none:=by
 cases hm:M (jx s t) with
 | none=>rfl
 | some q =>
  obtain⟨i,y,h1,h2,-⟩:=h.m2 _ q hm;have hy:=List.mem_of_getElem? h1;have:=xT (h.good y hy).2 hg.2 (h.good y hy).1 hg.1 (ai h.max (by decide)) (h.cl y hy) hks h2;rw[this] at hy;exact absurd hy hn
def PO (B:Nat) (W:af) (ks:Nat) (nv fv:ak) (u:FU) (vo:Option cu) (vl vc:Nat) (us:List xk):Nat->ak->af->Prop
 | 0,v,_=>v=.pointer (some ⟨ks,0,none⟩)
 | 1,v,_=>v=.pointer (some ⟨ks,0,none⟩)
 | 2,v,_=>v=.pointer (some ⟨ks,0,none⟩)
 | 3,v,_=>v=.pointer (some ⟨ks,1,none⟩)
 | 4,v,_=>v=nv
 | 5,v,_=>v=fv
 | 6,v,_=>v=.slice vo vl vc
 | 7,v,_=>v=.agg #[.int .i64 u.k,.bool (decide (u.n.z<0)),.slice u.n.o u.n.l u.n.c,.string u.nm,.slice u.ko u.kl u.kc,.slice vo vl vc,.bool false]
 | 8,v,w=>∃ g,v=.slice (some ⟨g,0,none⟩) 1 1/\W.heap.size<=g/\w.heap[g]?=some (.cells #[.int .i64 u.k,.bool (decide (u.n.z<0)),.slice u.n.o u.n.l u.n.c,.string u.nm,.slice u.ko u.kl u.kc,.slice vo vl vc,.bool false] 167 (0,0))
 | 9,v,w=>nR.Row w (ks+1) v (us++[⟨u,vo,vl,vc,false⟩])/\∀ g,v.ownBlock=some g->nv.ownBlock=some g\/W.heap.size<=g
 | _,_,_=>True
theorem PO.below {B:Nat} {W:af} {ks:Nat} {nv fv:ak} {u:FU} {vo:Option cu} {vl vc:Nat} {us:List xk}:∀ k v (w w':af),aB w.heap.size w w'->PO B W ks nv fv u vo vl vc us k v w->PO B W ks nv fv u vo vl vc us k v w'
 | 0,_,_,_,_,h=>h
 | 1,_,_,_,_,h=>h
 | 2,_,_,_,_,h=>h
 | 3,_,_,_,_,h=>h
 | 4,_,_,_,_,h=>h
 | 5,_,_,_,_,h=>h
 | 6,_,_,_,_,h=>h
 | 7,_,_,_,_,h=>h
 | 8,_,_,_,hb,⟨g,h1,h2,h3⟩=>⟨g,h1,h2,by rw[hb.block g (ae h3)];exact h3⟩
 | 9,_,_,_,hb,h=>⟨El.Row.below h.1 hb,h.2⟩
 | _+10,_,_,_,_,_=>trivial
def GP (B ks km:Nat) (a b:af):Prop:=cA B ks a b/\b.heap[ks]?=a.heap[ks]? /\ b.heap[km]?=a.heap[km]?
theorem GP.step {B ks km:Nat} {a b c:af} (h:GP B ks km a b) (h1:ks<a.heap.size) (h2:km<a.heap.size) (k:aB b.heap.size b c):GP B ks km a c:=
 ⟨h.1.trans (.aH k),(k.block _ (az h1 h.1.size)).trans h.2.1,(k.block _ (az h2 h.1.size)).trans h.2.2⟩
theorem iz.obj {P:Program} {k:aZ} {w:af} {b:Nat} {m:Bs->Option ak} (h:iz P k w b m):∃ es cl,w.heap[b]?=some (.map es cl):=by
 obtain⟨n,D,⟨es,cl,h1,-⟩,-⟩:=h;exact⟨es,cl,h1⟩
open Classical in
theorem KE {B ks:Nat} {E:Nat->Prop} {L s:List F} (w:af) (h:St B ks E L s w) (hm:s.length+1<=900000) (u:FU) (t:F) (hf:FT w (NS B ks E w) 9 u t) (hg:Gd t) (vo:Option cu) (vl vc:Nat) (hv:IL B ks E w (.slice vo vl vc) (t.kids.map (idx s))) (hks:∀ x ∈ t.kids,x ∈ s) :
  aV aj 119 #[.pointer (some ⟨ks,0,none⟩),.agg #[.int .i64 u.k,.bool (decide (u.n.z<0)),.slice u.n.o u.n.l u.n.c,.string u.nm,.slice u.ko u.kl u.kc],.slice vo vl vc] w (fj B ks E L s t 1 w):=by
 have HS:=aa h;have HF:=aa hf;have HV:=aa hv;have HG:=aa hg;have Fb:=aa hks;have HM:=aa hm;clear h hf hv hg hks hm;have HW:=aa (ax w.heap.size w);go_enter Tryz.func119,Tryz.ntmps119;obtain⟨x1,kf,ef,ki,cn,jC,aG⟩:=aW w #[.int .i64 u.k,.bool (decide (u.n.z<0)),.slice u.n.o u.n.l u.n.c,.string u.nm,.slice u.ko u.kl u.kc] 29;replace HW:=aa (HW.out.trans (cn.out.mono HW.out.size));replace HS:=aa (HS.out.below cn.out);replace HF:=aa (HF.out.rz (cA.aH cn.out));replace HV:=aa (HV.out.rz (cA.aH cn.out));obtain⟨⟨c0,c1,c2,c3,c4⟩,dN,dY,dX,dW,dO⟩:=ay aG.out;go_wp2_with fail;refine (Gb x1 HS.out (NS B ks E x1) 9 _ _ _ _ _ _ _ _ _ t ⟨u,rfl,HF.out⟩ HG.out _ HV.out Fb.out).mono ?_;rintro e x2 ⟨rfl,hb⟩
 clear c0 dN c1 dY c2 dX c3 dW c4 dO;replace aG:=bM hb aG;replace HW:=aa (HW.out.trans (hb.mono HW.out.size));replace HS:=aa (HS.out.below hb);replace HF:=aa (HF.out.rz (cA.aH hb));replace HV:=aa (HV.out.rz (cA.aH hb));clear hb;obtain⟨K,hK⟩:∃ K,K=jx s t:=⟨_,rfl⟩;rw[<-hK];have SS:=aa hK;have Ps:Hid (K.length<=bn):=aa (by rw[hK];exact DQ HG.out.2 (ai HS.out.len (by decide)) Fb.out);clear hK;obtain⟨km,v,us,M,hU⟩:=HS.out;obtain⟨no,nc,rfl,tC,x_,Ro⟩:=hU.row.form;have hnm:nc<=9223372036854775807:=x_;obtain⟨n,hn⟩:∃ n,n=us.length:=⟨_,rfl⟩;rw[<-hn] at hU tC;have HN:Hid (n=s.length):=aa (by rw[hn];exact hU.len);have YM:=aa hn;have HU:=aa hU;clear hU hn Ro;have Qz:=aa HU.out.mp
 have AG:=aa HU.out.bk;have AG:=aa HU.out.bk;by_cases hin:t ∈ s
 ·obtain⟨i,hi⟩:∃ i,i=idx s t:=⟨_,rfl⟩;have Qx:Hid (s[i]?=some t):=aa (by rw[hi];exact fW hin);have SM:Hid (M K=some (.int .i64 ((i:Nat):Int))):=aa (by rw[SS.out];exact HU.out.m1 i t Qx.out);clear hi hin;obtain⟨d0,d1,yX,Sh⟩:=cV AG.out;obtain⟨⟨c0,c1,c2,c3,c4⟩,dN,dY,dX,dW,dO⟩:=ay aG.out;go_wp2_with (first | (at_lookup;refine sJ _ rfl _ _ 160 rfl 9 116 eF Tryz.underlying160 (CU _) km M rfl Qz.out K rfl Ps.out ?_;rw[SM.out];simp only[Option.isSome_some,Option.isSome_none,jX,Option.getD_none]) | fail);go_ret;exact⟨i,s,rfl,HS.out,(Ext.refl s).up (ah _),Qx.out,cA.aH HW.out⟩
 have SM:Hid (M K=none):=aa (by rw[SS.out];exact HU.out.none hin HG.out Fb.out);have y8:=aa hin;clear hin;have ZB:=aa HU.out.dom;have Y_:Hid (s.length<bn):=aa (by have:=HM.out;unfold bn;omega);obtain⟨d0,d1,yX,Sh⟩:=cV AG.out;obtain⟨⟨c0,c1,c2,c3,c4⟩,dN,dY,dX,dW,dO⟩:=ay aG.out;go_upto_region 6 with (first | (at_lookup;refine sJ _ rfl _ _ 160 rfl 9 116 eF Tryz.underlying160 (CU _) km M rfl Qz.out K rfl Ps.out ?_;rw[SM.out];simp only[Option.isSome_some,Option.isSome_none,jX,Option.getD_none]) | (at_mapUpdate;refine BH _ rfl _ _ _ 160 rfl 9 116 eF Tryz.underlying160 km M rfl Qz.out ZB.out Y_.out K rfl Ps.out _ rfl ?_;intro wz Ua CK) | fail)
 clear d0 yX d1 Sh c0 dN c1 dY c2 dX c3 dW c4 dO;have XM:=Qz.out.obj;obtain⟨Ty,Tz,hmo⟩:=XM;have K8:ks≠km:=fun e=>by have h1:=AG.out;rw[e,hmo] at h1;cases h1
 have NP:kf≠km:=fun e=>by have h1:=aG.out;rw[e,hmo] at h1;cases h1
 have hbk:=(CK.block ks (ae AG.out) (fun e=>by injection e with e;exact K8 e)).trans AG.out;have cn:=(CK.block kf (ae aG.out) (fun e=>by injection e with e;exact NP e)).trans aG.out;have Nz:cA B ks x2 wz:=.aI CK (fun g e=>by injection e with e;subst e;exact⟨HU.out.mB,.inl ⟨Ty,Tz,hmo⟩⟩) (fun e=>by injection e with e;exact K8 e);have hrow:nR.Row wz (ks+1) (.slice no n nc) us:=by
  have h0:=HU.out.row;refine⟨World.ownsRow.kept h0.own CK ?_,fun g hg=>?_,fun _ _=>trivial⟩
  ·rcases hr:(gC no n nc).ownBlock with _ | j
   ·exact .inl rfl
   refine .inr (fun e=>?_);obtain⟨c9,oX,-⟩:=h0.n32 j hr;injection e with e;rw[e,hmo] at oX;cases oX
  obtain⟨c9,oX,h32⟩:=h0.n32 g hg;refine⟨c9,(CK.block g (ae oX) (fun e=>?_)).trans oX,h32⟩;injection e with e;rw[e,hmo] at oX;cases oX
 have Re:B<=wz.heap.size:=ai HU.out.sz CK.size;have SO:=aa (ae hbk);have Zg:Hid (km<wz.heap.size):=aa (az (ae hmo) CK.size);have nD:=aa hrow;have SE:=aa Nz;have bP:=aa hbk;have VH:=aa cn;have SL:=aa Ua;have yS:Hid (us.length=n):=aa YM.out.symm;clear hrow Nz hbk cn Ua CK hmo K8 NP Re AG aG;have iC:Hid (∀ i j,i<10->j<10->i≠j->(fun i=>[36,37,38,39,40,41,42,43,44,45].getD i 0) i≠(fun i=>[36,37,38,39,40,41,42,43,44,45].getD i 0) j):=aa (fun i j hi hj=>(show ∀ i,i<10->∀ j,j<10->i≠j->(fun i=>[36,37,38,39,40,41,42,43,44,45].getD i 0) i≠(fun i=>[36,37,38,39,40,41,42,43,44,45].getD i 0) j by decide) i hi j hj)
 have iS:Hid (∀ i,i<10->(fun i=>[36,37,38,39,40,41,42,43,44,45].getD i 0) i<46):=aa (by decide);refine fP.region (by kernel_rfl) [[],[],[1],[1,2],[1,2,3],[],[],[5,6],[5,6,7],[1,2,3,4,5,6,7,8],[0,1,2,3,4,5,6,7,8,9],[0,1,2,3,4,5,6,7,8,9,10],[0,1,2,3,4,5,6,7,8,9,10,11]] 10 (by kernel_rfl) (by kernel_rfl) (JP wz _ 10 9 (fun i=>[36,37,38,39,40,41,42,43,44,45].getD i 0) (GP B ks km) (PO B wz ks (.slice no n nc) (.agg #[.int .i64 u.k,.bool (decide (u.n.z<0)),.slice u.n.o u.n.l u.n.c,.string u.nm,.slice u.ko u.kl u.kc]) u vo vl vc us)) (JP.start ⟨.aH (ax _ _).drew,rfl,rfl⟩) ?_ ?_
 ·intro d T wc i o hJ ho hi hd aC cE;have hstep:=fun (hq:(9:Nat)≠i) (v:ak) (w2:af)=>hJ.step (v:=v) (w':=w2) (fun a b h k=>GP.step h SO.out Zg.out k) PO.below iC.out (fun i hi=>az (iS.out i hi) (of_decide_eq_true rfl)) i hi hq
  have HJ:=aa hJ;obtain rfl | rfl | rfl | rfl | rfl | rfl | rfl | rfl | rfl | rfl:i=0\/i=1\/i=2\/i=3\/i=4\/i=5\/i=6\/i=7\/i=8\/i=9:=by omega
  ·injection ho with ho;subst ho;have es:T[0]?=some (.pointer (some ⟨ks,0,none⟩)):=(hJ.gP 0 (by decide)).trans (by rfl);clear hJ aC cE;refine⟨rfl,fun K9 hK=>?_⟩;have bA:=aa (hstep (by decide));clear hstep;go_simp;exact hK.out _ _ (bA.out _ _ (ax _ _) rfl)
  ·injection ho with ho;subst ho;have es:T[0]?=some (.pointer (some ⟨ks,0,none⟩)):=(hJ.gP 0 (by decide)).trans (by rfl);clear hJ aC cE;refine⟨rfl,fun K9 hK=>?_⟩;have bA:=aa (hstep (by decide));clear hstep;go_simp;exact hK.out _ _ (bA.out _ _ (ax _ _) rfl)
  ·injection ho with ho;subst ho;obtain⟨s1,yA,rfl⟩:=hJ.val 1 (by decide) (aC 1 (by rfl));replace yA:T[37]?=_:=yA;clear hJ aC cE;refine⟨rfl,fun K9 hK=>?_⟩;have bA:=aa (hstep (by decide));clear hstep;go_simp;exact hK.out _ _ (bA.out _ _ (ax _ _) rfl)
  ·injection ho with ho;subst ho;obtain⟨s2,yz,rfl⟩:=hJ.val 2 (by decide) (aC 2 (by rfl));replace yz:T[38]?=_:=yz;clear hJ aC cE;refine⟨rfl,fun K9 hK=>?_⟩;have bA:=aa (hstep (by decide));clear hstep;go_simp;exact hK.out _ _ (bA.out _ _ (ax _ _) rfl)
  ·injection ho with ho;subst ho;obtain⟨s3,vv,rfl⟩:=hJ.val 3 (by decide) (aC 3 (by rfl));replace vv:T[39]?=_:=vv;have cS:=hJ.bl (by cases h9:d 9 with | false=>rfl | true=>exact absurd (cE 9 4 h9 (by rfl)) (by rw[hd];exact cB));have bB:=(cS.block _ SO.out).trans bP.out;have q0:=aq (v:=.slice no n nc) bB 1 rfl;clear bB cS hJ aC cE;refine⟨rfl,fun K9 hK=>?_⟩;have bA:=aa (hstep (by decide));clear hstep;go_simp;exact hK.out _ _ (bA.out _ _ (ax _ _) rfl)
  ·injection ho with ho;subst ho;have es:T[4]?=some (.pointer (some ⟨kf,0,none⟩)):=(hJ.gP 4 (by decide)).trans (by rfl);have cS:=hJ.bl (by cases h9:d 9 with | false=>rfl | true=>exact absurd (cE 9 5 h9 (by rfl)) (by rw[hd];exact cB));have bB:=(cS.block _ (ae VH.out)).trans VH.out;have q0:=aq (v:=.int .i64 u.k) bB 0 rfl;have q1:=aq (v:=.bool (decide (u.n.z<0))) bB 1 rfl;have q2:=aq (v:=.slice u.n.o u.n.l u.n.c) bB 2 rfl;have q3:=aq (v:=.string u.nm) bB 3 rfl;have q4:=aq (v:=.slice u.ko u.kl u.kc) bB 4 rfl;clear bB cS hJ aC cE;refine⟨rfl,fun K9 hK=>?_⟩;have bA:=aa (hstep (by decide));clear hstep;go_simp;exact hK.out _ _ (bA.out _ _ (ax _ _) rfl)
  ·injection ho with ho;subst ho;have es:T[2]?=some (.slice vo vl vc):=(hJ.gP 2 (by decide)).trans (by rfl);clear hJ aC cE;refine⟨rfl,fun K9 hK=>?_⟩;have bA:=aa (hstep (by decide));clear hstep;go_simp;exact hK.out _ _ (bA.out _ _ (ax _ _) rfl)
  ·injection ho with ho;subst ho;obtain⟨s5,xh,rfl⟩:=hJ.val 5 (by decide) (aC 5 (by rfl));replace xh:T[41]?=_:=xh;obtain⟨s6,xg,rfl⟩:=hJ.val 6 (by decide) (aC 6 (by rfl));replace xg:T[42]?=_:=xg;clear hJ aC cE;refine⟨rfl,fun K9 hK=>?_⟩;have bA:=aa (hstep (by decide));clear hstep;go_simp;exact hK.out _ _ (bA.out _ _ (ax _ _) rfl)
  ·injection ho with ho;subst ho;obtain⟨s7,uK,rfl⟩:=hJ.val 7 (by decide) (aC 7 (by rfl));replace uK:T[43]?=_:=uK;have nH:=hJ.be.1.size;clear hJ aC cE;refine⟨rfl,fun K9 hK=>?_⟩;have bA:=aa (hstep (by decide));clear hstep;go_simp;exact hK.out _ _ (bA.out _ _ ((ax _ _).alloc (ag _) _) ⟨_,rfl,nH,bz wc _⟩)
  injection ho with ho;subst ho;obtain⟨s4,uz,rfl⟩:=hJ.val 4 (by decide) (aC 4 (by rfl));replace uz:T[40]?=_:=uz;obtain⟨s8,wG,g,rfl,ic,oW⟩:=hJ.val 8 (by decide) (aC 8 (by rfl));replace wG:T[44]?=_:=wG;have cS:=hJ.bl hd;clear aC cE hstep;refine⟨rfl,fun K9 hK=>?_⟩;have hx:nR.At wc (.slice (some ⟨g,0,none⟩) 1 1) [⟨u,vo,vl,vc,false⟩]:=El.At.block (E:=nR) (el:=[⟨u,vo,vl,vc,false⟩]) oW (by show 1<=bn;decide) (fun _ _=>trivial);have hr0:=El.Row.below nD.out cS;obtain⟨v9,w9,r1,r2,r3,r4,r5⟩:=hr0.run hx 161 (by have h1:=yS.out;have h2:=HN.out;have h3:=HM.out;simp only[jo,qE];omega) (ai SO.out cS.size);have Ek:=uW hr0 hx (by simp) (by have h1:=yS.out;have h2:=HN.out;have h3:=HM.out;simp only[jo,qE];omega) 161 r1;have hbz:=cS.size
  refine zi (.tmp 40) (.tmp 44) rfl (by simp[Act.eval,uz]) (by simp[Act.eval,wG]) r1 (hK.out _ _ ?_);have hown:∀ j,(gC no n nc).ownBlock=some j->Own B ks wc j:=fun j hj=>by
   obtain⟨c9,oX,h32⟩:=hr0.n32 j hj;have Ih:=hJ.be.2.1.trans bP.out;have P9:=(hr0.ge hj).1;exact⟨ai HU.out.kB (by omega),.inr ⟨c9,_,oX,.inr ⟨rfl,P9,_,_,Ih,hj⟩,h32⟩⟩
  have N3:GP B ks km wz w9:=by
   have h1:=hJ.be;have Ih:=h1.2.1.trans bP.out;refine⟨h1.1.trans (.aI r5 hown (fun e=>by have h2:=(hr0.ge e.symm).1;omega)),?_,?_⟩
   ·refine (r5.block ks (ae Ih) (fun e=>?_)).trans h1.2.1;obtain⟨c9,oX,-⟩:=hr0.n32 ks e.symm;rw[Ih] at oX;injection oX with oX;injection oX with _ oX;exact absurd oX (by decide)
   obtain⟨WM,WN,yV⟩:=SL.out.obj;have NY:=h1.2.2.trans yV;refine (r5.block km (ae NY) (fun e=>?_)).trans h1.2.2;obtain⟨c9,oX,-⟩:=hr0.n32 km e.symm;rw[NY] at oX;cases oX
  refine HJ.out.C6 (by decide) iC.out (fun i hi=>az (iS.out i hi) (of_decide_eq_true rfl)) _ N3 ⟨r2,fun g hg=>(Ek g hg).imp id (fun h=>ai hbz h)⟩ (fun k hk qw _ x hx=>?_);have h10:k=0\/k=1\/k=2\/k=3\/k=4\/k=5\/k=6\/k=7\/k=8:=by omega
  rcases h10 with rfl | rfl | rfl | rfl | rfl | rfl | rfl | rfl | rfl<;>first | exact hx | skip
  obtain⟨g2,h1,h2,h3⟩:=hx;refine⟨g2,h1,h2,(r5.block g2 (ae h3) (fun e=>?_)).trans h3⟩;obtain⟨c9,oX,-⟩:=nD.out.n32 g2 e.symm;have h4:=ae oX;omega
 intro T wt hJ;obtain⟨s0,a0,b0⟩:=hJ.val 0 (by decide) rfl;obtain⟨s1,a1,b1⟩:=hJ.val 1 (by decide) rfl;obtain⟨s2,a2,b2⟩:=hJ.val 2 (by decide) rfl;obtain⟨s3,a3,b3⟩:=hJ.val 3 (by decide) rfl;obtain⟨s4,a4,b4⟩:=hJ.val 4 (by decide) rfl;obtain⟨s5,a5,b5⟩:=hJ.val 5 (by decide) rfl;obtain⟨s6,a6,b6⟩:=hJ.val 6 (by decide) rfl;obtain⟨s7,a7,b7⟩:=hJ.val 7 (by decide) rfl;obtain⟨s8,a8,b8⟩:=hJ.val 8 (by decide) rfl;obtain⟨s9,a9,b9⟩:=hJ.val 9 (by decide) rfl;subst b0;subst b1;subst b2;subst b3;subst b4;subst b5;subst b6;subst b7;obtain⟨g8,rfl,-,-⟩:=b8;obtain⟨Qa,Ek⟩:nR.Row wt (ks+1) s9 (us++[(⟨u,vo,vl,vc,false⟩:xk)])/\∀ g,s9.ownBlock=some g->(gC no n nc).ownBlock=some g\/wz.heap.size<=g:=b9;have N3:=hJ.be;obtain⟨so,sc,rfl,-,-,-⟩:=Qa.form
 rw[show (us++[(⟨u,vo,vl,vc,false⟩:xk)]).length=n+1 by rw[dB,yS.out];rfl] at Qa a9 Ek;have hfr:=Eu (s0:=36) (s1:=37) (s2:=38) (s3:=39) (s4:=40) (s5:=41) (s6:=42) (s7:=43) (s8:=44) (s9:=45) hJ.sz (by intro s hs;simp only[aP,aK,or_false] at hs;rcases hs with rfl | rfl | rfl | rfl | rfl | rfl | rfl | rfl | rfl | rfl<;>exact of_decide_eq_true rfl) a0 a1 a2 a3 a4 a5 a6 a7 a8 a9 (fun j hj=>hJ.gP j (fun i hi=>by have h9:i=0\/i=1\/i=2\/i=3\/i=4\/i=5\/i=6\/i=7\/i=8\/i=9:=(by omega);rcases h9 with rfl | rfl | rfl | rfl | rfl | rfl | rfl | rfl | rfl | rfl<;>exact hj _ (show _ ∈ [36,37,38,39,40,41,42,43,44,45] by decide)));clear hJ iC iS a0 a1 a2 a3 a4 a5 a6 a7 a8 a9;rw[hfr];clear hfr;simp only[bu,bW,bQ]
 simp only[bT,cf];have Ft:=N3.2.1.trans bP.out;have d0:=aq (v:=.map (some km)) Ft 0 rfl;have d1:=aq (v:=.slice no n nc) Ft 1 rfl;have Sh:=aY Ft 1;have J8:=aa Qa;have S9:=aa Ek;clear Ek;have SZ:=aa N3;have QJ:=aa Ft;clear Qa N3 Ft;go_wp2_with fail;go_ret;have ic:wt.grownBy (wt.setCell ⟨ks,1,none⟩ (.slice so (n+1) sc)) (some ks):=aD (aE _ _) _;have sE:=heap_setCell_same wt ks 1 _ _ (.slice so (n+1) sc) QJ.out;obtain⟨W2,iX⟩:∃ q,q=wt.setCell ⟨ks,1,none⟩ (.slice so (n+1) sc):=⟨_,rfl⟩;rw[<-iX] at ic sE ⊢
 have h32:lA (#[Value.map (some km),.slice no n nc]:Array ak).toList:=by intro x hx z;simp only[aP,aK,or_false] at hx;rcases hx with rfl | rfl<;>(intro h;cases h)
 have Ld:Fr 163 wt W2:=.aI ic (fun j hj=>by injection hj with hj;subst hj;exact⟨_,QJ.out,h32⟩);have KU:cA B ks wz W2:=by
  have h1:=SZ.out.1;have hks:Own B ks wz ks:=⟨HU.out.kB,.inr ⟨_,_,bP.out,.inl rfl,h32⟩⟩;refine⟨ic.os.trans h1.os,ic.tape.trans h1.tape,ic.output.trans h1.output,ai h1.size ic.size,fun g hg hn=>(ic.block g (az hg h1.size) (fun e=>?_)).trans (h1.block g hg hn),?_⟩
  ·injection e with e;subst e;exact hn hks
  rintro g hg ⟨q1,q2,q3,q4,q5⟩;have q6:W2.heap[ks]?=some (.cells #[.map (some km),.slice so (n+1) sc] 163 (0,0)):=sE;rw[q6] at q4;injection q4 with q4;injection q4 with q4;injection q4 with q4;injection q4 with _ q4;injection q4 with q4 _;rw[<-q4] at q5;rcases S9.out g q5 with h9 | h9
  ·exact⟨q1,_,_,bP.out,h9⟩
  omega
 have hst:=SE.out.trans KU;obtain⟨Ty,Tz,hmo⟩:=SL.out.obj;have jL:=SZ.out.2.2.trans hmo;have hkk:km≠ks:=fun e=>by have h1:=QJ.out;rw[<-e,jL] at h1;cases h1
 have yV:W2.heap[km]?=wz.heap[km]?:=(ic.block km (ae jL) (fun e=>by injection e with e;exact hkk e)).trans SZ.out.2.2;have hmp:=SL.out.keep yV;rw[SS.out,HN.out] at hmp;have hrow:=El.Row.h_ J8.out ic (fun j hj e=>by subst e;obtain⟨c9,oX,-⟩:=J8.out.n32 j hj;rw[QJ.out] at oX;injection oX with oX;injection oX with _ oX;exact absurd oX (by decide)) Ld trivial;have hbk:W2.heap[ks]?=some (.cells #[.map (some km),.slice so (n+1) sc] 163 (0,0)):=sE;refine⟨n,s++[t],rfl,HU.out.more (u:=⟨u,vo,vl,vc,false⟩) y8.out HG.out Fb.out HM.out hst hbk hmp hrow (HF.out.rz hst) (HV.out.rz hst) rfl,⟨[t],rfl,ag _⟩,?_,(cA.aH HW.out).trans hst⟩;rw[HN.out];simp
theorem FT.tight {w:af} {S:Nat->Prop}:∀ {d:Nat} {u:FU} {t:F},FT w S d u t->∀ {e:Nat},Tg e t->FT w S e u t
 | 0,_,_,h,_,_=>absurd h id
 | d+1,u,t,⟨h1,h2,el,h3,h4,h5,h6⟩,0,hm=>absurd hm id
 | d+1,u,t,⟨h1,h2,el,h3,h4,h5,h6⟩,e+1,hm=>⟨h1,h2,el,h3,h4,h5,fun i hi=>⟨(h6 i hi).1,(h6 i hi).2.tight (hm.2.2.2.2 _ (by rw[<-h3];exact List.mem_map_of_mem (bS hi)))⟩⟩
theorem FC.tight {w:af} {S:Nat->Prop} {d e:Nat} {v:ak} {t:F} (h:FC w S d v t) (hm:Tg e t):FC w S e v t:=by
 obtain⟨u,h1,h2⟩:=h;exact⟨u,h1,h2.tight hm⟩
theorem FC.rz {B k:Nat} {E:Nat->Prop} {w w':af} {d:Nat} {v:ak} {t:F} (h:FC w (NS B k E w) d v t) (hk:cA B k w w'):FC w' (NS B k E w') d v t:=by
 obtain⟨u,h1,h2⟩:=h;exact⟨u,h1,h2.rz hk⟩
theorem sX {B k:Nat} {E:Nat->Prop} {L s:List F} (w:af) (h:St B k E L s w) (hm:s.length+1<=900000) (d:Nat) (v:ak) (t:F) (hf:FC w (NS B k E w) d v t) (hg:Gd t) (vi:ak) (hv:IL B k E w vi (t.kids.map (idx s))) (hks:∀ x ∈ t.kids,x ∈ s) :
  aV aj 119 #[.pointer (some ⟨k,0,none⟩),v,vi] w (fj B k E L s t 1 w):=by
 obtain⟨u,rfl,yW⟩:=hf.tight hg.2;obtain⟨vo,vc,e,h1⟩:=id hv;subst e;exact KE w h hm u t yW hg _ _ _ hv hks
theorem St.nd {B k:Nat} {E:Nat->Prop} {L s:List F} {w:af} (h:St B k E L s w):s.Nodup:=by
 obtain⟨km,v,us,M,hU⟩:=h;exact hU.nd
theorem St.good {B k:Nat} {E:Nat->Prop} {L s:List F} {w:af} (h:St B k E L s w):∀ t ∈ s,Gd t:=by
 obtain⟨km,v,us,M,hU⟩:=h;exact hU.good
theorem sC {s:List F} (hn:s.Nodup):∀ (ids:List Nat) (ts:List F),ids.map (fun i=>s[i]?)=ts.map some->ids=ts.map (idx s)
 | [],[],_=>rfl
 | [],_::_,h=>by cases h
 | _::_,[],h=>by cases h
 | i::ids,t::ts,h=>by
  rw[aL,aL] at h;injection h with h1 h2;rw[aL,<-sC hn ids ts h2,zP hn h1]
theorem sB {s:List F}:∀ (ids:List Nat) (ts:List F),ids.map (fun i=>s[i]?)=ts.map some->∀ t ∈ ts,t ∈ s
 | [],[],_,t,h=>by cases h
 | [],_::_,h,_,_=>by cases h
 | _::_,[],h,_,_=>by cases h
 | i::ids,t::ts,h,x,hx=>by
  rw[aL,aL] at h;injection h with h1 h2;rcases List.mem_cons.1 hx with rfl | hx
  ·exact List.mem_of_getElem? h1
  exact sB ids ts h2 x hx
theorem Su (w:af):CI w (.agg #[.bool false,.slice none 0 0]) 0 600:=U_.out w
theorem FL.rz {B k:Nat} {E:Nat->Prop} {w w':af} {d:Nat} {v:ak} {ts:List F} (h:FL w (NS B k E w) d v ts) (hk:cA B k w w'):FL w' (NS B k E w') d v ts:=by
 obtain⟨el,h1,h2⟩:=h;exact⟨el,(Es.At.keep (fun g hg=>hk.block g hg.2 hg.1.1) hk.kn h1.lt).mono (fun g hg=>⟨hk.no hg.2 hg.1.1,hg.1.2⟩),h2⟩
theorem lX {B k:Nat} {E:Nat->Prop} {L s:List F} (w:af) (h:St B k E L s w) (hm:s.length+1<=900000) (op:Int) (hop:IR op) (v:ak) (ids:List Nat) (hv:IL B k E w v ids) (ts:List F) (hi:ids.map (fun i=>s[i]?)=ts.map some) (hg:Gd (fo op ts)) :
  aV aj 122 #[.pointer (some ⟨k,0,none⟩),.int .i64 op,v] w (fj B k E L s (fo op ts) 1 w):=by
 have Fq:ts.length<=8:=hg.2.2.2.2.1;have oL:ids.length<=900000:=by have:=cw hi;omega
 have HS:=aa h;have HV:=aa hv;have HI:=aa hi;have HG:=aa hg;have HM:=aa hm;have gF:=aa hop;have r8:=aa oL;clear h hv hi hg hm hop Fq oL;go_enter Tryz.func122,Tryz.ntmps122;go_wp2_with fail;refine (tL w HS.out v ids HV.out ts HI.out r8.out).mono ?_;rintro e x1 ⟨v',rfl,hfl,hb⟩;obtain⟨Sf,fc,rfl,sE,yW,-⟩:=hfl.form;have I1:=aa hfl;have HB:=aa hb;have hfm:fc<=9223372036854775807:=yW;clear hfl hb yW;go_wp2_with fail;have Im:FC x1 (NS B k E x1) 10 (.agg #[.int .i64 op,.bool false,.slice none 0 0,.string ⟨#[]⟩,.slice Sf ts.length fc]) (fo op ts):=FC.mk (nm:=⟨#[]⟩) gF.out (Su x1) I1.out;have hs1:=HS.out.below HB.out;have zQ:=HV.out.rz (cA.aH HB.out);rw[sC hs1.nd ids ts HI.out] at zQ
 refine (sX x1 hs1 HM.out 10 _ _ Im HG.out _ zQ (sB ids ts HI.out)).mono ?_;rintro e x2 ⟨i,s',rfl,h1,h2,h3,h4⟩;have H1:=aa h1;have H2:=aa h2;have H3:=aa h3;have H4:=aa ((cA.aH HB.out).trans h4);clear h1 h2 h3 h4 Im hs1 zQ;go_wp2_with fail;go_ret;exact⟨i,s',rfl,H1.out,H2.out,H3.out,H4.out⟩
theorem R5 {n:Int} (h:n.natAbs<bf ^ 4):Gd (nF n):=⟨rfl,(qn (d:=5) (e:=9) h (by omega)).2.g⟩
theorem mJ {B k:Nat} {E:Nat->Prop} {L s:List F} (w:af) (h:St B k E L s w) (hm:s.length+1<=900000) (n:Int) (h1 : -9223372036854775808<=n) (h2:n<=9223372036854775807) :
  aV aj 127 #[.pointer (some ⟨k,0,none⟩),.int .i64 n] w (fj B k E L s (nF n) 1 w):=by
 have HS:=aa h;have HM:=aa hm;have HN:Hid (n.natAbs<bf ^ 4):=aa (Nat.lt_of_le_of_lt (show n.natAbs<=9223372036854775808 by omega) (by decide));have HR:Hid (-9223372036854775808<=n/\n<=9223372036854775807):=aa ⟨h1,h2⟩;clear h hm h1 h2;go_enter Tryz.func127,Tryz.ntmps127;go_wp2_with fail;refine (Nl n w HR.out.1 HR.out.2).mono ?_;rintro e x1 ⟨b,o,l,c,rfl,hc,hb⟩;have HC:=aa hc;have HB:=aa hb;clear hc hb;go_wp2_with fail;have Im:FC x1 (NS B k E x1) 1 (.agg #[.int .i64 0,.bool b,.slice o l c,.string ⟨#[]⟩,.slice none 0 0]) (nF n):=FC.mk (op:=0) (nm:=⟨#[]⟩) ⟨by decide,by decide⟩ HC.out (FL.nil x1 (NS B k E x1) 0);refine (sX x1 (HS.out.below HB.out) HM.out 1 _ _ Im (R5 HN.out) _ (IL.nil B k E x1) (fun x hx=>by cases hx)).mono ?_
 rintro e x2 ⟨i,s',rfl,h1,h2,h3,h4⟩;have H1:=aa h1;have H2:=aa h2;have H3:=aa h3;have H4:=aa ((cA.aH HB.out).trans h4);clear h1 h2 h3 h4 Im;go_wp2_with fail;go_ret;exact⟨i,s',rfl,H1.out,H2.out,H3.out,H4.out⟩
theorem cx {t x:F} (h:Gd t) (hx:x ∈ t.kids):Gd x:=by
 obtain⟨o,z,nm,ks⟩:=t;exact⟨(gQ h.1).2.2 x hx,(show Tg 8 x from h.2.2.2.2.2 x hx).Fo⟩
theorem ik {B k:Nat} {E:Nat->Prop} {L s:List F} (w:af) (h:St B k E L s w) (hm:s.length+1<=900000) (i:Nat) (a:F) (hi:s[i]?=some a) (hg:Gd (cr a)) :
  aV aj 131 #[.pointer (some ⟨k,0,none⟩),.int .i64 ((i:Nat):Int)] w (fj B k E L s (cr a) 1 w):=by
 have HS:=aa h;have HM:=aa hm;have HG:=aa hg;have HI:=aa hi;clear h hm hg hi;go_enter Tryz.func131,Tryz.ntmps131;obtain⟨x1,kq,eq,yY,gu,qw,mz⟩:=aW w #[.int .i64 ((i:Nat):Int)] 116;go_wp2_with fail;refine (lX x1 (HS.out.below gu.out) HM.out 6 ⟨by decide,by decide⟩ _ [i] (IL.block (cs:=[.int .i64 ((i:Nat):Int)]) mz.out (by decide) (HS.out.fresh qw.out) (by show 1<=bn;decide) rfl) [a] (by simp only[aL,bg,HI.out]) HG.out).mono ?_;rintro e x2 ⟨j,s',rfl,h1,h2,h3,h4⟩;have H1:=aa h1;have H2:=aa h2;have H3:=aa h3;have H4:=aa ((cA.aH gu.out).trans h4);clear h1 h2 h3 h4;go_wp2_with fail;go_ret;exact⟨j,s',rfl,H1.out,H2.out,H3.out,H4.out⟩
theorem sZ {B k:Nat} {E:Nat->Prop} {L s:List F} (w:af) (h:St B k E L s w) (hm:s.length+1<=900000) (i:Nat) (a:F) (hi:s[i]?=some a) (hg:Gd (bH a)) :
  aV aj 167 #[.pointer (some ⟨k,0,none⟩),.int .i64 ((i:Nat):Int)] w (fj B k E L s (bH a) 1 w):=by
 have HS:=aa h;have HM:=aa hm;have HG:=aa hg;have HI:=aa hi;clear h hm hg hi;go_enter Tryz.func167,Tryz.ntmps167;obtain⟨x1,kq,eq,yY,gu,qw,mz⟩:=aW w #[.int .i64 ((i:Nat):Int)] 116;go_wp2_with fail;refine (lX x1 (HS.out.below gu.out) HM.out 17 ⟨by decide,by decide⟩ _ [i] (IL.block (cs:=[.int .i64 ((i:Nat):Int)]) mz.out (by decide) (HS.out.fresh qw.out) (by show 1<=bn;decide) rfl) [a] (by simp only[aL,bg,HI.out]) HG.out).mono ?_;rintro e x2 ⟨j,s',rfl,h1,h2,h3,h4⟩;have H1:=aa h1;have H2:=aa h2;have H3:=aa h3;have H4:=aa ((cA.aH gu.out).trans h4);clear h1 h2 h3 h4;go_wp2_with fail;go_ret;exact⟨j,s',rfl,H1.out,H2.out,H3.out,H4.out⟩
theorem tg {B k:Nat} {E:Nat->Prop} {L s:List F} (w:af) (h:St B k E L s w) (hm:s.length+1<=900000) (i j:Nat) (a b:F) (hi:s[i]?=some a) (hj:s[j]?=some b) (hg:Gd (cN a b)) :
  aV aj 130 #[.pointer (some ⟨k,0,none⟩),.int .i64 ((i:Nat):Int),.int .i64 ((j:Nat):Int)] w (fj B k E L s (cN a b) 1 w):=by
 have HS:=aa h;have HM:=aa hm;have HG:=aa hg;have HI:=aa hi;have HJ:=aa hj;clear h hm hg hi hj;go_enter Tryz.func130,Tryz.ntmps130;obtain⟨x1,kq,eq,yY,gu,qw,mz⟩:=aW w #[.int .i64 ((i:Nat):Int),.int .i64 ((j:Nat):Int)] 116;go_wp2_with fail;refine (lX x1 (HS.out.below gu.out) HM.out 15 ⟨by decide,by decide⟩ _ [i,j] (IL.block (cs:=[.int .i64 ((i:Nat):Int),.int .i64 ((j:Nat):Int)]) mz.out (by decide) (HS.out.fresh qw.out) (by show 2<=bn;decide) rfl) [a,b] (by simp only[aL,bg,HI.out,HJ.out]) HG.out).mono ?_;rintro e x2 ⟨q,s',rfl,h1,h2,h3,h4⟩;have H1:=aa h1;have H2:=aa h2;have H3:=aa h3;have H4:=aa ((cA.aH gu.out).trans h4);clear h1 h2 h3 h4;go_wp2_with fail;go_ret;exact⟨q,s',rfl,H1.out,H2.out,H3.out,H4.out⟩
theorem iG {B k:Nat} {E:Nat->Prop} {L s:List F} (w:af) (h:St B k E L s w) (hm:s.length+1<=900000) (i j:Nat) (a b:F) (hi:s[i]?=some a) (hj:s[j]?=some b) (hg:Gd (bL a b)) :
  aV aj 121 #[.pointer (some ⟨k,0,none⟩),.int .i64 ((i:Nat):Int),.int .i64 ((j:Nat):Int)] w (fj B k E L s (bL a b) 1 w):=by
 have HS:=aa h;have HM:=aa hm;have HG:=aa hg;have HI:=aa hi;have HJ:=aa hj;clear h hm hg hi hj;go_enter Tryz.func121,Tryz.ntmps121;obtain⟨x1,kq,eq,yY,gu,qw,mz⟩:=aW w #[.int .i64 ((i:Nat):Int),.int .i64 ((j:Nat):Int)] 116;go_wp2_with fail;refine (lX x1 (HS.out.below gu.out) HM.out 16 ⟨by decide,by decide⟩ _ [i,j] (IL.block (cs:=[.int .i64 ((i:Nat):Int),.int .i64 ((j:Nat):Int)]) mz.out (by decide) (HS.out.fresh qw.out) (by show 2<=bn;decide) rfl) [a,b] (by simp only[aL,bg,HI.out,HJ.out]) HG.out).mono ?_;rintro e x2 ⟨q,s',rfl,h1,h2,h3,h4⟩;have H1:=aa h1;have H2:=aa h2;have H3:=aa h3;have H4:=aa ((cA.aH gu.out).trans h4);clear h1 h2 h3 h4;go_wp2_with fail;go_ret;exact⟨q,s',rfl,H1.out,H2.out,H3.out,H4.out⟩
theorem kj {B k:Nat} {E:Nat->Prop} {L s:List F} (w:af) (h:St B k E L s w) (hm:s.length+1<=900000) (v:ak) (ids:List Nat) (hv:IL B k E w v ids) (ts:List F) (hi:ids.map (fun i=>s[i]?)=ts.map some) (hg:Gd (eZ ts)) :
  aV aj 125 #[.pointer (some ⟨k,0,none⟩),v] w (fj B k E L s (eZ ts) 1 w):=by
 have HS:=aa h;have HM:=aa hm;have HG:=aa hg;have HV:=aa hv;have HI:=aa hi;clear h hm hg hv hi;go_enter Tryz.func125,Tryz.ntmps125;go_wp2_with fail;refine (lX w HS.out HM.out 19 ⟨by decide,by decide⟩ _ ids HV.out ts HI.out HG.out).mono ?_;rintro e x2 ⟨q,s',rfl,h1,h2,h3,h4⟩;have H1:=aa h1;have H2:=aa h2;have H3:=aa h3;have H4:=aa h4;clear h1 h2 h3 h4;go_wp2_with fail;go_ret;exact⟨q,s',rfl,H1.out,H2.out,H3.out,H4.out⟩
theorem A9 {B k:Nat} {E:Nat->Prop} {L s:List F} (w:af) (h:St B k E L s w) (hm:s.length+2<=900000) (i:Nat) (a:F) (hi:s[i]?=some a) (hg:Gd (fe a (nF 1))) :
  aV aj 132 #[.pointer (some ⟨k,0,none⟩),.int .i64 ((i:Nat):Int)] w (fj B k E L s (fe a (nF 1)) 2 w):=by
 have HS:=aa h;have HM:=aa hm;have HG:=aa hg;have HI:=aa hi;clear h hm hg hi;go_enter Tryz.func132,Tryz.ntmps132;go_wp2_with fail;refine (mJ w HS.out (by have:=HM.out;omega) 1 (by decide) (by decide)).mono ?_;rintro e x1 ⟨j,s1,rfl,h1,h2,h3,h4⟩;have H1:=aa h1;have H2:=aa h2;have H3:=aa h3;have H4:=aa h4;clear h1 h2 h3 h4;obtain⟨x2,kq,eq,yY,gu,qw,mz⟩:=aW x1 #[.int .i64 ((i:Nat):Int),.int .i64 ((j:Nat):Int)] 116;go_wp2_with fail
 refine (lX x2 (H1.out.below gu.out) (by have:=HM.out;have:=H2.out.len;omega) 2 ⟨by decide,by decide⟩ _ [i,j] (IL.block (cs:=[.int .i64 ((i:Nat):Int),.int .i64 ((j:Nat):Int)]) mz.out (by decide) (H1.out.fresh qw.out) (by show 2<=bn;decide) rfl) [a,nF 1] (by simp only[aL,bg,H2.out.get HI.out,H3.out]) HG.out).mono ?_;rintro e x3 ⟨q,s2,rfl,h1,h2,h3,h4⟩;have G1:=aa h1;have G2:=aa h2;have G3:=aa h3;have G4:=aa ((H4.out.trans (cA.aH gu.out)).trans h4);clear h1 h2 h3 h4;go_wp2_with fail;go_ret;exact⟨q,s2,rfl,G1.out,H2.out.trans G2.out (by omega),G3.out,G4.out⟩
theorem vt {B k:Nat} {E:Nat->Prop} {L s:List F} (w:af) (h:St B k E L s w) (hm:s.length+3<=900000) (i:Nat) (a:F) (hi:s[i]?=some a) (hg:Gd (fb a)) :
  aV aj 126 #[.pointer (some ⟨k,0,none⟩),.int .i64 ((i:Nat):Int)] w (fj B k E L s (fb a) 3 w):=by
 have HS:=aa h;have HM:=aa hm;have HG:=aa hg;have HI:=aa hi;clear h hm hg hi;go_enter Tryz.func126,Tryz.ntmps126;go_wp2_with fail;refine (mJ w HS.out (by have:=HM.out;omega) 1 (by decide) (by decide)).mono ?_;rintro e x1 ⟨j,s1,rfl,h1,h2,h3,h4⟩;have H1:=aa h1;have H2:=aa h2;have H3:=aa h3;have H4:=aa h4;clear h1 h2 h3 h4;go_wp2_with fail;refine (ik x1 H1.out (by have:=HM.out;have:=H2.out.len;omega) i a (H2.out.get HI.out) (cx HG.out (by simp[fb,cN,fo,F.kids]))).mono ?_;rintro e x2 ⟨p,s2,rfl,h1,h2,h3,h4⟩;have G1:=aa h1;have G2:=aa h2;have G3:=aa h3;have G4:=aa (H4.out.trans h4);clear h1 h2 h3 h4;go_wp2_with fail
 refine (tg x2 G1.out (by have:=HM.out;have:=H2.out.len;have:=G2.out.len;omega) j p (nF 1) (cr a) (G2.out.get H3.out) G3.out HG.out).mono ?_;rintro e x3 ⟨q,s3,rfl,h1,h2,h3,h4⟩;have K1:=aa h1;have K2:=aa h2;have K3:=aa h3;have K4:=aa (G4.out.trans h4);clear h1 h2 h3 h4;go_wp2_with fail;go_ret;exact⟨q,s3,rfl,K1.out,(H2.out.trans G2.out (ag _)).trans K2.out (by omega),K3.out,K4.out⟩
def qJ (cost:Nat->Nat) (d:Nat->Bool):Nat->Nat
 | 0=>0
 | n+1=>qJ cost d n+if d n then cost n else 0
theorem sP {cost:Nat->Nat} {d:Nat->Bool} {n i:Nat} (hd:d i=false):qJ cost (fP.pA d i) n=qJ cost d n+if i<n then cost i else 0:=by
 induction n with
 | zero=>rfl
 | succ n ih =>
  rw[qJ,qJ,ih];by_cases e:i=n
  ·subst e;have h2:fP.pA d i i=true:=by unfold fP.pA;simp
   rw[h2,hd,if_neg (Nat.lt_irrefl _),if_pos (Nat.lt_succ_self _)];simp
  have h2:fP.pA d i n=d n:=fU (fun h=>e h.symm);rw[h2];by_cases hl:i<n
  ·rw[if_pos hl,if_pos (show i<n+1 by omega)];omega
  rw[if_neg hl,if_neg (show ¬ i<n+1 by omega)];omega
theorem AV (cost:Nat->Nat) (d:Nat->Bool):∀ n,qJ cost d n<=qJ cost (fun _=>true) n
 | 0=>ag _
 | n+1=>by
  have:=AV cost d n;rw[qJ,qJ]
  split<;>simp<;>omega
theorem uU (cost:Nat->Nat):∀ n,qJ cost (fun _=>false) n=0
 | 0=>rfl
 | n+1=>by rw[qJ,uU];rfl
structure JF (B k:Nat) (E:Nat->Prop) (L:List F) (W0:af) (s0:List F) (t0:Array ak) (n:Nat) (sl cost:Nat->Nat) (Fk:Nat->ak->List F->af->Prop) (d:Nat->Bool) (T:Array ak) (w:af) (s:List F):Prop where
 st:St B k E L s w
 ext:Ext s0 s (qJ cost d n)
 be:cA B k W0 w
 sz:T.size=t0.size
 gP:∀ j,(∀ i,i<n->j≠sl i)->T[j]?=t0[j]?
 val:∀ j,j<n->d j=true->∃ v,T[sl j]?=some v/\Fk j v s w
section
variable {B k:Nat} {E:Nat->Prop} {L:List F} {W0:af} {s0:List F} {t0:Array ak} {n:Nat} {sl cost:Nat->Nat} {Fk:Nat->ak->List F->af->Prop} {d:Nat->Bool} {T:Array ak} {w w':af} {s s':List F}
theorem JF.start (h:St B k E L s0 W0):∃ s,JF B k E L W0 s0 t0 n sl cost Fk (fun _=>false) t0 W0.drew s:=
 ⟨s0,h.below (ax _ _).drew,by rw[uU];exact Ext.refl s0,.aH (ax _ _).drew,rfl,fun _ _=>rfl,fun j _ h=>absurd h cB⟩
theorem JF.step (h:JF B k E L W0 s0 t0 n sl cost Fk d T w s) (hF:∀ j v (s s':List F) (w w':af),(∃ c,Ext s s' c)->cA B k w w'->Fk j v s w->Fk j v s' w') (hne:∀ i j,i<n->j<n->i≠j->sl i≠sl j) (hlt:∀ i,i<n->sl i<t0.size) (i:Nat) (hi:i<n) (hd:d i=false) (v:ak)
  (hst:St B k E L s' w') (he:Ext s s' (cost i)) (hb:cA B k w w') (h1:Fk i v s' w'):∃ s,JF B k E L W0 s0 t0 n sl cost Fk (fP.pA d i) (T.setIfInBounds (sl i) v) w' s:=by
 have hsz:sl i<T.size:=by rw[h.sz];exact hlt i hi
 refine⟨s',hst,h.ext.trans he (by rw[sP hd,if_pos hi];exact ag _),h.be.trans hb,by rw[bj,h.sz],fun j hj=>?_,fun j hj hu=>?_⟩
 ·rw[eW (hj i hi)];exact h.gP j hj
 by_cases uq:j=i
 ·subst uq;exact⟨v,fI hsz,h1⟩
 rw[fU uq] at hu;obtain⟨x,hx,hf⟩:=h.val j hj hu;exact⟨x,by rw[eW (hne j i hj hi uq)];exact hx,hF j x s s' w w' ⟨_,he⟩ hb hf⟩
theorem JF.room (h:JF B k E L W0 s0 t0 n sl cost Fk d T w s) (i:Nat) (hi:i<n) (hd:d i=false) {N:Nat} (hN:s0.length+qJ cost (fun _=>true) n<=N):s.length+cost i<=N:=by
 have h1:=h.ext.len;have h2:=AV cost (fP.pA d i) n;rw[sP hd,if_pos hi] at h2
 omega
end
inductive Vs (T:Array ak) (sl:Nat->Nat):Nat->List ak->Prop
 | nil {j:Nat}:Vs T sl j []
 | cons {j:Nat} {v:ak} {l:List ak} (a:T[sl j]?=some v) (h:Vs T sl (j+1) l):Vs T sl j (v::l)
def jd (sl:Nat->Nat):List ak->Nat->Array ak->Array ak
 | [],_,t=>t
 | v::l,j,t=>jd sl l (j+1) (t.setIfInBounds (sl j) v)
theorem Vs.fill {T:Array ak} {sl:Nat->Nat}:∀ {vs:List ak} {j:Nat} {t:Array ak},Vs T sl j vs->T.size=t.size->(∀ i,j<=i->i<j+vs.length->sl i<t.size)->(∀ q,(∀ i,j<=i->i<j+vs.length->q≠sl i)->T[q]?=t[q]?)->T=jd sl vs j t
 | [],j,t,_,hs,_,ho=>Array.ext_getElem? fun q=>ho q fun i h1 h2=>by simp only[qE] at h2;omega
 | v::l,j,t,.cons a h,hs,hl,ho=>by
  show T=jd sl l (j+1) (t.setIfInBounds (sl j) v)
  refine Vs.fill h (by rw[bj];exact hs) (fun i h1 h2=>?_) (fun q hq=>?_)
  ·rw[bj];exact hl i (by omega) (by rw[jo];omega)
  by_cases e:q=sl j
  ·subst e;rw[fI (hl j (ag _) (by rw[jo];omega))];exact a
  rw[eW e];refine ho q fun i h1 h2=>?_
  by_cases e2:i=j
  ·rw[e2];exact e
  exact hq i (by omega) (by rw[jo] at h2;omega)
def LR (v:ak) (t:F) (s:List F):Prop:=∃ i:Nat,v=.int .i64 ((i:Nat):Int)/\s[i]?=some t
theorem LR.ext {v:ak} {t:F} {s s':List F} {c:Nat} (h:LR v t s) (he:Ext s s' c):LR v t s':=by
 obtain⟨i,h1,h2⟩:=h;exact⟨i,h1,he.get h2⟩
def pW (B k:Nat) (E:Nat->Prop) (v:ak) (ts:List F) (s:List F) (w:af):Prop:=∃ ids,IL B k E w v ids/\ids.map (fun i=>s[i]?)=ts.map some
theorem pW.ext {B k:Nat} {E:Nat->Prop} {v:ak} {ts:List F} {s s':List F} {w w':af} {c:Nat} (h:pW B k E v ts s w) (he:Ext s s' c) (hb:cA B k w w'):pW B k E v ts s' w':=by
 obtain⟨ids,h1,h2⟩:=h;refine⟨ids,h1.rz hb,?_⟩;have key:∀ (l:List Nat) (ts:List F),l.map (fun i=>s[i]?)=ts.map some->l.map (fun i=>s'[i]?)=ts.map some:=by
  intro l;induction l with
  | nil=>intro ts h;cases ts with | nil=>rfl | cons a m=>cases h
  | cons i l ih =>
   intro ts h;cases ts with
   | nil=>cases h
   | cons a m =>
    rw[aL,aL] at h;injection h with e1 e2;rw[aL,aL,ih m e2,he.get e1]
 exact key ids ts h2
section
variable {B k:Nat} {E:Nat->Prop} {L:List F} {W0:af} {s0:List F} {t0:Array ak} {n:Nat} {sl cost:Nat->Nat} {Fk:Nat->ak->List F->af->Prop} {d:Nat->Bool} {T:Array ak} {w:af} {s:List F}
theorem JF.vE (h:JF B k E L W0 s0 t0 n sl cost Fk d T w s) (j q:Nat) (hq:sl j=q) (hj:j<n) (hd:d j=true) {V:ak} (hF:∀ v,Fk j v s w->v=V):T[q]?=some V:=by
 obtain⟨v,e,f⟩:=h.val j hj hd;rw[<-hq,e,hF v f]
theorem JF.vI (h:JF B k E L W0 s0 t0 n sl cost Fk d T w s) (j q:Nat) (hq:sl j=q) (hj:j<n) (hd:d j=true) {t:F} (hF:∀ v,Fk j v s w->LR v t s):∃ i:Nat,T[q]?=some (.int .i64 ((i:Nat):Int))/\Hid (s[i]?=some t):=by
 obtain⟨v,e,f⟩:=h.val j hj hd;obtain⟨i,rfl,hi⟩:=hF v f;exact⟨i,by rw[<-hq,e],aa hi⟩
theorem JF.fin (h:JF B k E L W0 s0 t0 n sl cost Fk d T w s) (hlt:∀ i,i<n->sl i<t0.size) {vs:List ak} (hl:vs.length=n) (hv:Vs T sl 0 vs):T=jd sl vs 0 t0:=
 hv.fill h.sz (fun i _ h2=>hlt i (by omega)) (fun q hq=>h.gP q (fun i hi=>hq i (ah _) (by omega)))
end
def JX (B k:Nat) (E:Nat->Prop) (L:List F) (W0:af) (s0:List F) (t0:Array ak) (n:Nat) (sl cost:Nat->Nat) (Fk:Nat->ak->List F->af->Prop) (d:Nat->Bool) (T:Array ak) (w:af):Prop:=∃ s,JF B k E L W0 s0 t0 n sl cost Fk d T w s
theorem CI.nT {w:af} {v:ak} {z:Int} {k:Nat} (h:CI w v z k):∃ b o l c,v=.agg #[.bool b,.slice o l c]:=by
 obtain⟨va,rfl,⟨o,c,rfl,-⟩,-⟩:=h;exact⟨_,_,_,_,rfl⟩
theorem CI.Q2 {w:af} {v:ak} {z:Int} {k k':Nat} (h:CI w v z k) (hz:z.natAbs<bf ^ k'):CI w v z k':=by
 obtain⟨va,h1,h2,-⟩:=h;exact⟨va,h1,h2,hz⟩
theorem FL.nT {w:af} {S:Nat->Prop} {d:Nat} {v:ak} {ts:List F} (h:FL w S d v ts):∃ o l c,v=.slice o l c:=by
 obtain⟨el,⟨ko,kc,e,-⟩,-⟩:=h;exact⟨_,_,_,e⟩
theorem FC.nT {w:af} {S:Nat->Prop} {d:Nat} {v:ak} {t:F} (h:FC w S d v t):∃ x,v=.agg x:=by
 obtain⟨u,e,-⟩:=h;exact⟨_,e⟩
def AI (v:ak) (t:F) (s:List F) (w:af):Prop:=∃ g i:Nat,v=.slice (some ⟨g,0,none⟩) 1 1/\w.heap[g]?=some (.cells #[.int .i64 ((i:Nat):Int)] 116 (0,0))/\s[i]?=some t
theorem AI.ext {B k:Nat} {v:ak} {t:F} {s s':List F} {w w':af} {c:Nat} (h:AI v t s w) (he:Ext s s' c) (hb:cA B k w w'):AI v t s' w':=by
 obtain⟨g,i,h1,h2,h3⟩:=h;exact⟨g,i,h1,(hb.block g (ae h2) (NO.cells h2 (by decide))).trans h2,he.get h3⟩
inductive FD where
 | any
 | eqv (v:ak)
 | iW (t:F)
 | xW (ts:List F)
 | blk (t:F)
 | fl (ts:List F)
 | fc (t:F)
 | ci (z:Int) (n:Nat)
def FD.holds (B k:Nat) (E:Nat->Prop):FD->ak->List F->af->Prop
 | .any,_,_,_=>True
 | .eqv x,v,_,_=>v=x
 | .iW t,v,s,_=>LR v t s
 | .xW ts,v,s,w=>pW B k E v ts s w
 | .blk t,v,s,w=>AI v t s w
 | .fl ts,v,_,w=>FL w (NS B k E w) 9 v ts
 | .fc t,v,_,w=>FC w (NS B k E w) 10 v t
 | .ci z n,v,_,w=>CI w v z n
def Ab (B k:Nat) (E:Nat->Prop) (l:List FD) (j:Nat) (v:ak) (s:List F) (w:af):Prop:=(l.getD j .any).holds B k E v s w
theorem jE {B k:Nat} {E:Nat->Prop} (l:List FD):∀ j v (s s':List F) (w w':af),(∃ c,Ext s s' c)->cA B k w w'->Ab B k E l j v s w->Ab B k E l j v s' w':=by
 rintro j v s s' w w' ⟨c,he⟩ hb h;unfold Ab at h ⊢;cases hd:l.getD j .any with
 | any=>trivial
 | eqv x=>rw[hd] at h;exact h
 | iW t=>rw[hd] at h;exact LR.ext h he
 | xW ts=>rw[hd] at h;exact pW.ext h he hb
 | blk t=>rw[hd] at h;exact AI.ext h he hb
 | fl ts=>rw[hd] at h;exact FL.rz h hb
 | fc t=>rw[hd] at h;exact FC.rz h hb
 | ci z n=>rw[hd] at h;exact CI.kn h hb.kn
attribute [local go_sem] cL cK cJ cI
def qB (B k:Nat) (E:Nat->Prop) (L s:List F) (ts:List F) (n:Nat) (w:af) (e:Ending) (w':af):Prop:=∃ v s',e=.returned v/\pW B k E v ts s' w'/\St B k E L s' w'/\Ext s s' n/\cA B k w w'
theorem Bl {B k:Nat} {E:Nat->Prop} {L s:List F} (w:af) (h:St B k E L s w) (hm:s.length+7<=900000) (i:Nat) (a:F) (hi:s[i]?=some a) (hg:Gd (iw a)) :
  aV aj 120 #[.pointer (some ⟨k,0,none⟩),.int .i64 ((i:Nat):Int)] w (fj B k E L s (iw a) 7 w):=by
 have HS:=aa h;have HM:=aa hm;have HG:=aa hg;have HI:=aa hi;have G1:Hid (Gd (bH (cN (cr a) (nF 0)))):=aa (cx hg (by simp[iw,eZ,fo,F.kids]));have G2:Hid (Gd (bL a i_)):=aa (cx hg (by simp[iw,eZ,fo,F.kids]));have G3:Hid (Gd (cN (cr a) (nF 0))):=aa (cx G1.out (by simp[bH,fo,F.kids]));have G4:Hid (Gd (cr a)):=aa (cx G3.out (by simp[cN,fo,F.kids]));have G5:Hid (Gd i_):=aa (cx G2.out (by simp[bL,fo,F.kids]));clear h hm hg hi;go_enter Tryz.func120,Tryz.ntmps120;go_wp2_with fail;refine (ik w HS.out (by have:=HM.out;omega) i a HI.out G4.out).mono ?_;rintro e y1 ⟨j1,s1,rfl,h1,h2,h3,h4⟩;have S1:=aa h1;have J1:=aa h3;have E1:Hid (Ext s s1 1):=aa ((Ext.refl s).trans h2 (by omega))
 have T1:Hid (cA B k w y1):=aa (h4);clear h1 h2 h3 h4;go_wp2_with fail;refine (mJ y1 S1.out (by have:=HM.out;have:=E1.out.len;omega) 0 (by decide) (by decide)).mono ?_;rintro e y2 ⟨j2,s2,rfl,h1,h2,h3,h4⟩;have S2:=aa h1;replace J1:=aa (h2.get J1.out);have J2:=aa h3;have E2:Hid (Ext s s2 2):=aa (E1.out.trans h2 (by omega));have T2:Hid (cA B k w y2):=aa (T1.out.trans h4);clear h1 h2 h3 h4;go_wp2_with fail;refine (tg y2 S2.out (by have:=HM.out;have:=E2.out.len;omega) j1 j2 (cr a) (nF 0) J1.out J2.out G3.out).mono ?_;rintro e y3 ⟨j3,s3,rfl,h1,h2,h3,h4⟩;have S3:=aa h1;replace J1:=aa (h2.get J1.out);replace J2:=aa (h2.get J2.out);have J3:=aa h3;have E3:Hid (Ext s s3 3):=aa (E2.out.trans h2 (by omega))
 have T3:Hid (cA B k w y3):=aa (T2.out.trans h4);clear h1 h2 h3 h4;go_wp2_with fail;refine (sZ y3 S3.out (by have:=HM.out;have:=E3.out.len;omega) j3 _ J3.out G1.out).mono ?_;rintro e y4 ⟨j4,s4,rfl,h1,h2,h3,h4⟩;have S4:=aa h1;replace J1:=aa (h2.get J1.out);replace J2:=aa (h2.get J2.out);replace J3:=aa (h2.get J3.out);have J4:=aa h3;have E4:Hid (Ext s s4 4):=aa (E3.out.trans h2 (by omega));have T4:Hid (cA B k w y4):=aa (T3.out.trans h4);clear h1 h2 h3 h4;go_wp2_with fail;refine (lX y4 S4.out (by have:=HM.out;have:=E4.out.len;omega) 9 ⟨by decide,by decide⟩ _ [] (IL.nil B k E y4) [] rfl G5.out).mono ?_;rintro e y5 ⟨j5,s5,rfl,h1,h2,h3,h4⟩;have S5:=aa h1;replace J1:=aa (h2.get J1.out);replace J2:=aa (h2.get J2.out)
 replace J3:=aa (h2.get J3.out);replace J4:=aa (h2.get J4.out);have J5:=aa h3;have E5:Hid (Ext s s5 5):=aa (E4.out.trans h2 (by omega));have T5:Hid (cA B k w y5):=aa (T4.out.trans h4);clear h1 h2 h3 h4;go_wp2_with fail;refine (iG y5 S5.out (by have:=HM.out;have:=E5.out.len;omega) i j5 a i_ (E5.out.get HI.out) J5.out G2.out).mono ?_;rintro e y6 ⟨j6,s6,rfl,h1,h2,h3,h4⟩;have S6:=aa h1;replace J1:=aa (h2.get J1.out);replace J2:=aa (h2.get J2.out);replace J3:=aa (h2.get J3.out);replace J4:=aa (h2.get J4.out);replace J5:=aa (h2.get J5.out);have J6:=aa h3;have E6:Hid (Ext s s6 6):=aa (E5.out.trans h2 (by omega));have T6:Hid (cA B k w y6):=aa (T5.out.trans h4);clear h1 h2 h3 h4
 obtain⟨z6,kq,eq,yY,gu,qw,mz⟩:=aW y6 #[.int .i64 ((j4:Nat):Int),.int .i64 ((j6:Nat):Int)] 116;go_wp2_with fail;refine (kj z6 (S6.out.below gu.out) (by have:=HM.out;have:=E6.out.len;omega) _ [j4,j6] (IL.block (cs:=[.int .i64 ((j4:Nat):Int),.int .i64 ((j6:Nat):Int)]) mz.out (by decide) (S6.out.fresh qw.out) (by show 2<=bn;decide) rfl) [bH (cN (cr a) (nF 0)),bL a i_] (by simp only[aL,bg,J4.out,J6.out]) HG.out).mono ?_;rintro e y7 ⟨j7,s7,rfl,h1,h2,h3,h4⟩;have S7:=aa h1;replace J1:=aa (h2.get J1.out);replace J2:=aa (h2.get J2.out);replace J3:=aa (h2.get J3.out);replace J4:=aa (h2.get J4.out);replace J5:=aa (h2.get J5.out);replace J6:=aa (h2.get J6.out);have J7:=aa h3
 have E7:Hid (Ext s s7 7):=aa (E6.out.trans h2 (by omega));have T7:Hid (cA B k w y7):=aa ((T6.out.trans (cA.aH gu.out)).trans h4);clear h1 h2 h3 h4;go_wp2_with fail;go_ret;exact⟨j7,s7,rfl,S7.out,E7.out,J7.out,T7.out⟩
theorem AR {B k:Nat} {E:Nat->Prop} {L s:List F} (w:af) (h:St B k E L s w) (hm:s.length+2<=900000) (i f:Nat) (a p:F) (hi:s[i]?=some a) (hf:s[f]?=some p) (hg:Gd (eZ [bH p,a])) (ka kb:Nat) (ha:w.heap[ka]?=some (.cells #[.pointer (some ⟨k,0,none⟩)] 112 (0,0))) (hb:w.heap[kb]?=some (.cells #[.int .i64 ((f:Nat):Int)] 116 (0,0))) :
  aV aj 169 #[.int .i64 ((i:Nat):Int),.pointer (some ⟨ka,0,none⟩),.pointer (some ⟨kb,0,none⟩)] w (fj B k E L s (eZ [bH p,a]) 2 w):=by
 have HS:=aa h;have HM:=aa hm;have HG:=aa hg;have HI:=aa hi;have HF:=aa hf;have pS:=aa ha;have oP:=aa hb;have G1:Hid (Gd (bH p)):=aa (cx hg (by simp[eZ,fo,F.kids]));clear h hm hg hi hf ha hb;go_enter Tryz.func169,Tryz.ntmps169;go_upto_region 1 with fail;have iC:Hid (∀ i j,i<7->j<7->i≠j->(fun i=>i+5) i≠(fun i=>i+5) j):=aa (fun i j _ _ h e=>h (bZ e));have iS:Hid (∀ i,i<7->(fun i=>i+5) i<12):=aa (fun i h=>by show i+5<12;omega)
 refine fP.region (by kernel_rfl) [[],[],[],[1,2],[],[1,2,3,4],[0,1,2,3,4,5],[0,1,2,3,4,5,6]] 7 (by kernel_rfl) (by kernel_rfl) (JX B k E L w s _ 7 (fun i=>i+5) (fun i=>[0,0,0,1,0,0,1].getD i 0) (Ab B k E [.eqv (.pointer (some ⟨k,0,none⟩)),.eqv (.pointer (some ⟨k,0,none⟩)),.eqv (.int .i64 ((f:Nat):Int)),.iW (bH p),.eqv (.int .i64 ((i:Nat):Int)),.xW [bH p,a],.iW (eZ [bH p,a])])) (JF.start HS.out) ?_ ?_
 ·rintro d T wc n9 o ⟨s9,hJ⟩ ho hi hd aC cE;have hstep:=fun (v:ak) (s8:List F) (w2:af)=>hJ.step (v:=v) (s':=s8) (w':=w2) (jE (B:=B) (k:=k) (E:=E) _) iC.out (fun i hi=>az (iS.out i hi) (of_decide_eq_true rfl)) n9 hi hd
  have aU:=aa hJ.st;have bU:=aa (hJ.room n9 hi hd (N:=900000) (show s.length+2<=900000 from by have:=HM.out;omega));have m1:T[1]?=some (.pointer (some ⟨ka,0,none⟩)):=(hJ.gP 1 (by decide)).trans (by rfl);have bB:=(hJ.be.block ka (ae pS.out) (NO.cells pS.out (by decide))).trans pS.out;have PU:=aq (v:=.pointer (some ⟨k,0,none⟩)) bB 0 rfl;clear bB;have m2:T[2]?=some (.pointer (some ⟨kb,0,none⟩)):=(hJ.gP 2 (by decide)).trans (by rfl);have bB:=(hJ.be.block kb (ae oP.out) (NO.cells oP.out (by decide))).trans oP.out;have Wn:=aq (v:=.int .i64 ((f:Nat):Int)) bB 0 rfl;clear bB;have m0:T[0]?=some (.int .i64 ((i:Nat):Int)):=(hJ.gP 0 (by decide)).trans (by rfl)
  obtain rfl | rfl | rfl | rfl | rfl | rfl | rfl:n9=0\/n9=1\/n9=2\/n9=3\/n9=4\/n9=5\/n9=6:=by omega
  all_goals (injection ho with ho)
  all_goals (subst ho)
  all_goals (try (clear hJ aC cE;refine⟨rfl,fun K9 hK=>?_⟩;have bA:=aa hstep;clear hstep;go_simp;exact hK.out _ _ (bA.out _ _ _ aU.out ((Ext.refl _).up (ah _)) (cA.refl _ _ _) rfl)))
  ·have e6:=hJ.vE 1 6 rfl (by decide) (aC 1 (by rfl)) (fun _ h=>h);have e7:=hJ.vE 2 7 rfl (by decide) (aC 2 (by rfl)) (fun _ h=>h);have ct:=aa hJ.ext;clear hJ aC cE;refine⟨rfl,fun K9 hK=>?_⟩;have bA:=aa hstep;clear hstep;go_simp;refine (sZ wc aU.out bU.out f p (ct.out.get HF.out) G1.out).mono ?_;rintro e w8 ⟨i8,s8,rfl,p1,p2,p3,p4⟩;exact hK.out _ _ (bA.out _ _ _ p1 p2 p4 ⟨i8,rfl,p3⟩)
  ·obtain⟨i3,e8,H3⟩:=hJ.vI 3 8 rfl (by decide) (aC 3 (by rfl)) (fun _ h=>h);have e9:=hJ.vE 4 9 rfl (by decide) (aC 4 (by rfl)) (fun _ h=>h);have ct:=aa hJ.ext;clear hJ aC cE;refine⟨rfl,fun K9 hK=>?_⟩;have bA:=aa hstep;clear hstep;go_simp;have hal:aB wc.heap.size wc (wc.alloc _):=(ax _ _).alloc (ag _) (.cells #[.int .i64 ((i3:Nat):Int),.int .i64 ((i:Nat):Int)] 116)
   exact hK.out _ _ (bA.out _ _ _ (aU.out.below hal) ((Ext.refl _).up (ah _)) (.aH hal) ⟨[i3,i],IL.block (l:=[i3,i]) (cs:=[.int .i64 ((i3:Nat):Int),.int .i64 ((i:Nat):Int)]) (show (wc.alloc (.cells #[.int .i64 ((i3:Nat):Int),.int .i64 ((i:Nat):Int)] 116)).heap[wc.heap.size]?=some (.cells [.int .i64 ((i3:Nat):Int),.int .i64 ((i:Nat):Int)].toArray 116 (0,0)) from bz wc _) (by decide) (aU.out.fresh (ag _)) (by show 2<=bn;decide) rfl,by simp only[aL,bg,H3.out,ct.out.get HI.out]⟩)
  have e5:=hJ.vE 0 5 rfl (by decide) (aC 0 (by rfl)) (fun _ h=>h);obtain⟨v5,yC,f5⟩:=hJ.val 5 (by decide) (aC 5 (by rfl));obtain⟨l5,Lz,h5⟩:=(show pW B k E v5 [bH p,a] s9 wc from f5);obtain⟨Z8,Z9,g5,-⟩:=id Lz;rw[g5] at yC Lz;replace yC:T[10]?=_:=yC;have A5:=aa Lz;have H5:=aa h5;clear f5 Lz h5 g5;clear hJ aC cE;refine⟨rfl,fun K9 hK=>?_⟩;have bA:=aa hstep;clear hstep;go_simp;refine (kj wc aU.out bU.out _ l5 A5.out [bH p,a] H5.out HG.out).mono ?_;rintro e w8 ⟨i8,s8,rfl,p1,p2,p3,p4⟩;exact hK.out _ _ (bA.out _ _ _ p1 p2 p4 ⟨i8,rfl,p3⟩)
 rintro T wt ⟨s9,hJ⟩;have a0:=hJ.vE 0 5 rfl (by decide) rfl (fun _ h=>h);have a1:=hJ.vE 1 6 rfl (by decide) rfl (fun _ h=>h);have a2:=hJ.vE 2 7 rfl (by decide) rfl (fun _ h=>h);obtain⟨i3,a3,H3⟩:=hJ.vI 3 8 rfl (by decide) rfl (fun _ h=>h);have a4:=hJ.vE 4 9 rfl (by decide) rfl (fun _ h=>h);obtain⟨v5,a5,f5⟩:=hJ.val 5 (by decide) rfl;obtain⟨l5,Lz,h5⟩:=(show pW B k E v5 [bH p,a] s9 wt from f5);have A5:=aa Lz;clear f5 Lz h5;obtain⟨i6,a6,H6⟩:=hJ.vI 6 11 rfl (by decide) rfl (fun _ h=>h);have hfr:=hJ.fin (fun i hi=>az (iS.out i hi) (of_decide_eq_true rfl)) rfl (.cons a0 (.cons a1 (.cons a2 (.cons a3 (.cons a4 (.cons a5 (.cons a6 .nil)))))));have aU:=aa hJ.st;have gg:Hid (Ext s s9 2):=aa hJ.ext;have gK:=aa hJ.be;clear hJ iC iS a0 a1 a2 a3 a4 a5 a6
 rw[hfr];clear hfr;simp only[jd,dV,bu,bW,bQ];simp only[bT,cf];go_wp2_with fail;go_ret;exact⟨i6,s9,rfl,aU.out,gg.out,H6.out,gK.out⟩
theorem Gk {B k:Nat} {E:Nat->Prop} {L s:List F} (w:af) (h:St B k E L s w) (hm:s.length+20<=900000) (i l:Nat) (X Y:F) (hx:s[i]?=some X) (hy:s[l]?=some Y) (hg:∀ t ∈ jH X Y,Gd t) :
  aV aj 124 #[.pointer (some ⟨k,0,none⟩),.int .i64 ((i:Nat):Int),.int .i64 ((l:Nat):Int)] w (qB B k E L s (jH X Y) 20 w):=by
 have HS:=aa h;have HM:=aa hm;have HX:=aa hx;have HY:=aa hy;have g1:=hg (eZ [bH (fb Y),bL (cr Y) (fe (cr X) (nF 1))]) (by simp[jH]);have g2:=hg (eZ [fb Y,bL X i_]) (by simp[jH]);have g3:=hg (eZ [bH (fb Y),bL Y (me (sF Y) X)]) (by simp[jH]);have g4:=cx g1 (x:=bL (cr Y) (fe (cr X) (nF 1))) (by simp[eZ,fo,F.kids]);have g5:=cx g2 (x:=bL X i_) (by simp[eZ,fo,F.kids]);have g6:=cx g3 (x:=bL Y (me (sF Y) X)) (by simp[eZ,fo,F.kids]);have g7:=cx g2 (x:=fb Y) (by simp[eZ,fo,F.kids]);have g8:=cx g4 (x:=fe (cr X) (nF 1)) (by simp[bL,fo,F.kids]);have g9:=cx g4 (x:=cr Y) (by simp[bL,fo,F.kids]);have g10:=cx g8 (x:=cr X) (by simp[fe,fo,F.kids])
 have g11:=cx g6 (x:=me (sF Y) X) (by simp[bL,fo,F.kids]);have g12:=cx g11 (x:=sF Y) (by simp[me,fo,F.kids]);have g13:=cx g5 (x:=i_) (by simp[bL,fo,F.kids]);have G1:=aa g1;have G2:=aa g2;have G3:=aa g3;have G4:=aa g4;have G5:=aa g5;have G6:=aa g6;have G7:=aa g7;have G8:=aa g8;have G9:=aa g9;have ZV:=aa g10;have ZU:=aa g11;have ZT:=aa g12;have ZR:=aa g13;clear h hm hx hy hg g1 g2 g3 g4 g5 g6 g7 g8 g9 g10 g11 g12 g13;go_enter Tryz.func124,Tryz.ntmps124;have HW:=aa (ax w.heap.size w);obtain⟨x1,kS,eS,UJ,Iq,Ud,bP⟩:=aW w #[.pointer (some ⟨k,0,none⟩)] 112;replace HS:=aa (HS.out.below Iq.out);replace HW:=aa (HW.out.trans (Iq.out.mono HW.out.size))
 have c0:=aq (v:=.pointer (some ⟨k,0,none⟩)) bP.out 0 rfl;have dN:=aY bP.out 0;go_wp2_with fail;refine (vt x1 HS.out (by have:=HM.out;omega) l Y HY.out G7.out).mono ?_;rintro e x3 ⟨f,s1,rfl,h1,h2,h3,h4⟩;have lP:=aa h1;have ZA:=aa h2;have HF:=aa h3;have mw:=aa ((cA.aH HW.out).trans h4);replace HX:=aa (h2.get HX.out);replace HY:=aa (h2.get HY.out);replace bP:=aa ((h4.block kS (ae bP.out) (NO.cells bP.out (by decide))).trans bP.out);have J_:Hid (s1.length+17<=900000):=aa (by have:=HM.out;have:=h2.len;omega);clear h1 h2 h3 h4 HM HS HW;clear c0 dN;skip;obtain⟨CF,kf,ef,ki,cn,jC,aG⟩:=aW x3 #[.int .i64 ((f:Nat):Int)] 116;replace bP:=bM cn.out bP;replace lP:=aa (lP.out.below cn.out)
 replace mw:=aa (mw.out.trans (cA.aH cn.out));have c0:=aq (v:=.pointer (some ⟨k,0,none⟩)) bP.out 0 rfl;have dN:=aY bP.out 0;have d0:=aq (v:=.int .i64 ((f:Nat):Int)) aG.out 0 rfl;have yX:=aY aG.out 0;go_upto_region 3 with fail;clear c0 dN d0 yX;have iC:Hid (∀ i j,i<35->j<35->i≠j->(fun i=>i+13) i≠(fun i=>i+13) j):=aa (fun i j _ _ h e=>h (bZ e));have iS:Hid (∀ i,i<35->(fun i=>i+13) i<48):=aa (fun i h=>by show i+13<48;omega)
 refine fP.region (by kernel_rfl) [[],[],[],[],[2,3],[],[],[],[2,3,4,6,7],[2,3,4,5,6,7,8],[1,2,3,4,5,6,7,8,9],[0,1,2,3,4,5,6,7,8,9,10],[],[],[],[],[],[0,1,2,3,4,5,6,7,8,9,10,11,16],[0,1,2,3,4,5,6,7,8,9,10,11,14,15,16,17],[0,1,2,3,4,5,6,7,8,9,10,11,13,14,15,16,17,18],[0,1,2,3,4,5,6,7,8,9,10,11,12,13,14,15,16,17,18,19],[],[],[],[],[],[],[26],[0,1,2,3,4,5,6,7,8,9,10,11,12,13,14,15,16,17,18,19,20,25,26,27],[],[0,1,2,3,4,5,6,7,8,9,10,11,12,13,14,15,16,17,18,19,20,25,26,27,28,29],[0,1,2,3,4,5,6,7,8,9,10,11,12,13,14,15,16,17,18,19,20,24,25,26,27,28,29,30],[0,1,2,3,4,5,6,7,8,9,10,11,12,13,14,15,16,17,18,19,20,22,23,24,25,26,27,28,29,30,31],[0,1,2,3,4,5,6,7,8,9,10,11,12,13,14,15,16,17,18,19,20,21,22,23,24,25,26,27,28,29,30,31,32],[0,1,2,3,4,5,6,7,8,9,10,11,12,13,14,15,16,17,18,19,20,21,22,23,24,25,26,27,28,29,30,31,32,33],[0,1,2,3,4,5,6,7,8,9,10,11,12,13,14,15,16,17,18,19,20,21,22,23,24,25,26,27,28,29,30,31,32,33,34]] 35 (by kernel_rfl) (by kernel_rfl) (JX B k E L CF s1 _ 35 (fun i=>i+13) (fun i=>[0,0,0,0,1,0,0,0,1,2,1,2,0,0,0,0,0,1,1,0,1,0,0,0,0,0,0,0,1,0,0,1,1,2,0].getD i 0) (Ab B k E [.eqv (.func (.func 169) #[] #[.pointer (some ⟨kS,0,none⟩),.pointer (some ⟨kf,0,none⟩)]),.eqv (.pointer (some ⟨k,0,none⟩)),.eqv (.pointer (some ⟨k,0,none⟩)),.eqv (.int .i64 ((l:Nat):Int)),.iW (cr Y),.eqv (.pointer (some ⟨k,0,none⟩)),.eqv (.pointer (some ⟨k,0,none⟩)),.eqv (.int .i64 ((i:Nat):Int)),.iW (cr X),.iW (fe (cr X) (nF 1)),.iW (bL (cr Y) (fe (cr X) (nF 1))),.iW (eZ [bH (fb Y),bL (cr Y) (fe (cr X) (nF 1))]),.eqv (.pointer (some ⟨k,0,none⟩)),.eqv (.int .i64 ((f:Nat):Int)),.eqv (.pointer (some ⟨k,0,none⟩)),.eqv (.int .i64 ((i:Nat):Int)),.eqv (.pointer (some ⟨k,0,none⟩)),.iW (i_),.iW (bL X i_),.xW [fb Y,bL X i_],.iW (eZ [fb Y,bL X i_]),.eqv (.func (.func 169) #[] #[.pointer (some ⟨kS,0,none⟩),.pointer (some ⟨kf,0,none⟩)]),.eqv (.pointer (some ⟨k,0,none⟩)),.eqv (.int .i64 ((l:Nat):Int)),.eqv (.pointer (some ⟨k,0,none⟩)),.eqv (.pointer (some ⟨k,0,none⟩)),.eqv (.int .i64 ((l:Nat):Int)),.xW [Y],.iW (sF Y),.eqv (.int .i64 ((i:Nat):Int)),.xW [sF Y,X],.iW (me (sF Y) X),.iW (bL Y (me (sF Y) X)),.iW (eZ [bH (fb Y),bL Y (me (sF Y) X)]),.xW [eZ [bH (fb Y),bL (cr Y) (fe (cr X) (nF 1))],eZ [fb Y,bL X i_],eZ [bH (fb Y),bL Y (me (sF Y) X)]]])) (JF.start lP.out) ?_ ?_
 ·rintro d T wc n9 o ⟨s9,hJ⟩ ho hi hd aC cE;have hstep:=fun (v:ak) (s8:List F) (w2:af)=>hJ.step (v:=v) (s':=s8) (w':=w2) (jE (B:=B) (k:=k) (E:=E) _) iC.out (fun i hi=>az (iS.out i hi) (of_decide_eq_true rfl)) n9 hi hd
  have aU:=aa hJ.st;have bU:=aa (hJ.room n9 hi hd (N:=900000) (show s1.length+15<=900000 from by have:=J_.out;omega));have m8:T[8]?=some (.func (.func 169) #[] #[.pointer (some ⟨kS,0,none⟩),.pointer (some ⟨kf,0,none⟩)]):=(hJ.gP 8 (by decide)).trans (by rfl);have m3:T[3]?=some (.pointer (some ⟨kS,0,none⟩)):=(hJ.gP 3 (by decide)).trans (by rfl);have bB:=(hJ.be.block kS (ae bP.out) (NO.cells bP.out (by decide))).trans bP.out;have Z5:=aq (v:=.pointer (some ⟨k,0,none⟩)) bB 0 rfl;clear bB;have m2:T[2]?=some (.int .i64 ((l:Nat):Int)):=(hJ.gP 2 (by decide)).trans (by rfl);have m1:T[1]?=some (.int .i64 ((i:Nat):Int)):=(hJ.gP 1 (by decide)).trans (by rfl);have m7:T[7]?=some (.pointer (some ⟨kf,0,none⟩)):=(hJ.gP 7 (by decide)).trans (by rfl)
  have bB:=(hJ.be.block kf (ae aG.out) (NO.cells aG.out (by decide))).trans aG.out;have Wm:=aq (v:=.int .i64 ((f:Nat):Int)) bB 0 rfl;clear bB;obtain rfl | rfl | rfl | rfl | rfl | rfl | rfl | rfl | rfl | rfl | rfl | rfl | rfl | rfl | rfl | rfl | rfl | rfl | rfl | rfl | rfl | rfl | rfl | rfl | rfl | rfl | rfl | rfl | rfl | rfl | rfl | rfl | rfl | rfl | rfl:n9=0\/n9=1\/n9=2\/n9=3\/n9=4\/n9=5\/n9=6\/n9=7\/n9=8\/n9=9\/n9=10\/n9=11\/n9=12\/n9=13\/n9=14\/n9=15\/n9=16\/n9=17\/n9=18\/n9=19\/n9=20\/n9=21\/n9=22\/n9=23\/n9=24\/n9=25\/n9=26\/n9=27\/n9=28\/n9=29\/n9=30\/n9=31\/n9=32\/n9=33\/n9=34:=by omega
  all_goals (injection ho with ho)
  all_goals (subst ho)
  all_goals (try (clear hJ aC cE;refine⟨rfl,fun K9 hK=>?_⟩;have bA:=aa hstep;clear hstep;go_simp;exact hK.out _ _ (bA.out _ _ _ aU.out ((Ext.refl _).up (ah _)) (cA.refl _ _ _) rfl)))
  ·have MH:=hJ.vE 2 15 rfl (by decide) (aC 2 (by rfl)) (fun _ h=>h);have JK:=hJ.vE 3 16 rfl (by decide) (aC 3 (by rfl)) (fun _ h=>h);have ct:=aa hJ.ext;clear hJ aC cE;refine⟨rfl,fun K9 hK=>?_⟩;have bA:=aa hstep;clear hstep;go_simp;refine (ik wc aU.out bU.out l Y (ct.out.get HY.out) G9.out).mono ?_;rintro e w8 ⟨i8,s8,rfl,p1,p2,p3,p4⟩;exact hK.out _ _ (bA.out _ _ _ p1 p2 p4 ⟨i8,rfl,p3⟩)
  ·have yB:=hJ.vE 6 19 rfl (by decide) (aC 6 (by rfl)) (fun _ h=>h);have EG:=hJ.vE 7 20 rfl (by decide) (aC 7 (by rfl)) (fun _ h=>h);have ct:=aa hJ.ext;clear hJ aC cE;refine⟨rfl,fun K9 hK=>?_⟩;have bA:=aa hstep;clear hstep;go_simp;refine (ik wc aU.out bU.out i X (ct.out.get HX.out) ZV.out).mono ?_;rintro e w8 ⟨i8,s8,rfl,p1,p2,p3,p4⟩;exact hK.out _ _ (bA.out _ _ _ p1 p2 p4 ⟨i8,rfl,p3⟩)
  ·have OF:=hJ.vE 5 18 rfl (by decide) (aC 5 (by rfl)) (fun _ h=>h);obtain⟨i8,CO,H8⟩:=hJ.vI 8 21 rfl (by decide) (aC 8 (by rfl)) (fun _ h=>h);clear hJ aC cE;refine⟨rfl,fun K9 hK=>?_⟩;have bA:=aa hstep;clear hstep;go_simp;refine (A9 wc aU.out bU.out i8 _ H8.out G8.out).mono ?_;rintro e w8 ⟨i8,s8,rfl,p1,p2,p3,p4⟩;exact hK.out _ _ (bA.out _ _ _ p1 p2 p4 ⟨i8,rfl,p3⟩)
  ·have Sr:=hJ.vE 1 14 rfl (by decide) (aC 1 (by rfl)) (fun _ h=>h);obtain⟨i4,OG,H4⟩:=hJ.vI 4 17 rfl (by decide) (aC 4 (by rfl)) (fun _ h=>h);obtain⟨i9,CN,H9⟩:=hJ.vI 9 22 rfl (by decide) (aC 9 (by rfl)) (fun _ h=>h);clear hJ aC cE;refine⟨rfl,fun K9 hK=>?_⟩;have bA:=aa hstep;clear hstep;go_simp;refine (iG wc aU.out bU.out i4 i9 _ _ H4.out H9.out G4.out).mono ?_;rintro e w8 ⟨i8,s8,rfl,p1,p2,p3,p4⟩;exact hK.out _ _ (bA.out _ _ _ p1 p2 p4 ⟨i8,rfl,p3⟩)
  ·have Ss:=hJ.vE 0 13 rfl (by decide) (aC 0 (by rfl)) (fun _ h=>h);obtain⟨i10,Cl,PM⟩:=hJ.vI 10 23 rfl (by decide) (aC 10 (by rfl)) (fun _ h=>h);have ct:=aa hJ.ext;have iO:=(hJ.be.block kS (ae bP.out) (NO.cells bP.out (by decide))).trans bP.out;have lE:=(hJ.be.block kf (ae aG.out) (NO.cells aG.out (by decide))).trans aG.out;have m_:=aa iO;have y_:=aa lE;clear iO lE;clear hJ aC cE;refine⟨rfl,fun K9 hK=>?_⟩;have bA:=aa hstep;clear hstep;go_simp;refine (AR wc aU.out bU.out i10 f _ _ PM.out (ct.out.get HF.out) G1.out kS kf m_.out y_.out).mono ?_;rintro e w8 ⟨i8,s8,rfl,p1,p2,p3,p4⟩;exact hK.out _ _ (bA.out _ _ _ p1 p2 p4 ⟨i8,rfl,p3⟩)
  ·have UP:=hJ.vE 16 29 rfl (by decide) (aC 16 (by rfl)) (fun _ h=>h);clear hJ aC cE;refine⟨rfl,fun K9 hK=>?_⟩;have bA:=aa hstep;clear hstep;go_simp;refine (lX wc aU.out bU.out 9 ⟨by decide,by decide⟩ _ [] (IL.nil B k E wc) [] rfl ZR.out).mono ?_;rintro e w8 ⟨i8,s8,rfl,p1,p2,p3,p4⟩;exact hK.out _ _ (bA.out _ _ _ p1 p2 p4 ⟨i8,rfl,p3⟩)
  ·have OD:=hJ.vE 14 27 rfl (by decide) (aC 14 (by rfl)) (fun _ h=>h);have Sq:=hJ.vE 15 28 rfl (by decide) (aC 15 (by rfl)) (fun _ h=>h);obtain⟨i17,So,Kb⟩:=hJ.vI 17 30 rfl (by decide) (aC 17 (by rfl)) (fun _ h=>h);have ct:=aa hJ.ext;clear hJ aC cE;refine⟨rfl,fun K9 hK=>?_⟩;have bA:=aa hstep;clear hstep;go_simp;refine (iG wc aU.out bU.out i i17 X i_ (ct.out.get HX.out) Kb.out G5.out).mono ?_;rintro e w8 ⟨i8,s8,rfl,p1,p2,p3,p4⟩;exact hK.out _ _ (bA.out _ _ _ p1 p2 p4 ⟨i8,rfl,p3⟩)
  ·have OE:=hJ.vE 13 26 rfl (by decide) (aC 13 (by rfl)) (fun _ h=>h);obtain⟨i18,Sn,VS⟩:=hJ.vI 18 31 rfl (by decide) (aC 18 (by rfl)) (fun _ h=>h);have ct:=aa hJ.ext;clear hJ aC cE;refine⟨rfl,fun K9 hK=>?_⟩;have bA:=aa hstep;clear hstep;go_simp;have hal:aB wc.heap.size wc (wc.alloc _):=(ax _ _).alloc (ag _) (.cells #[.int .i64 ((f:Nat):Int),.int .i64 ((i18:Nat):Int)] 116)
   exact hK.out _ _ (bA.out _ _ _ (aU.out.below hal) ((Ext.refl _).up (ah _)) (.aH hal) ⟨[f,i18],IL.block (l:=[f,i18]) (cs:=[.int .i64 ((f:Nat):Int),.int .i64 ((i18:Nat):Int)]) (show (wc.alloc (.cells #[.int .i64 ((f:Nat):Int),.int .i64 ((i18:Nat):Int)] 116)).heap[wc.heap.size]?=some (.cells [.int .i64 ((f:Nat):Int),.int .i64 ((i18:Nat):Int)].toArray 116 (0,0)) from bz wc _) (by decide) (aU.out.fresh (ag _)) (by show 2<=bn;decide) rfl,by simp only[aL,bg,ct.out.get HF.out,VS.out]⟩)
  ·have JJ:=hJ.vE 12 25 rfl (by decide) (aC 12 (by rfl)) (fun _ h=>h);obtain⟨QO,Qo,f19⟩:=hJ.val 19 (by decide) (aC 19 (by rfl));obtain⟨TD,Aj,Qh⟩:=(show pW B k E QO [fb Y,bL X i_] s9 wc from f19);obtain⟨Ww,Wx,g19,-⟩:=id Aj;rw[g19] at Qo Aj;replace Qo:T[32]?=_:=Qo;have V9:=aa Aj;have ZP:=aa Qh;clear f19 Aj Qh g19;clear hJ aC cE;refine⟨rfl,fun K9 hK=>?_⟩;have bA:=aa hstep;clear hstep;go_simp;refine (kj wc aU.out bU.out _ TD V9.out _ ZP.out G2.out).mono ?_;rintro e w8 ⟨i8,s8,rfl,p1,p2,p3,p4⟩;exact hK.out _ _ (bA.out _ _ _ p1 p2 p4 ⟨i8,rfl,p3⟩)
  ·have vv:=hJ.vE 26 39 rfl (by decide) (aC 26 (by rfl)) (fun _ h=>h);have ct:=aa hJ.ext;clear hJ aC cE;refine⟨rfl,fun K9 hK=>?_⟩;have bA:=aa hstep;clear hstep;go_simp;have hal:aB wc.heap.size wc (wc.alloc _):=(ax _ _).alloc (ag _) (.cells #[.int .i64 ((l:Nat):Int)] 116);exact hK.out _ _ (bA.out _ _ _ (aU.out.below hal) ((Ext.refl _).up (ah _)) (.aH hal) ⟨[l],IL.block (l:=[l]) (cs:=[.int .i64 ((l:Nat):Int)]) (show (wc.alloc (.cells #[.int .i64 ((l:Nat):Int)] 116)).heap[wc.heap.size]?=some (.cells [.int .i64 ((l:Nat):Int)].toArray 116 (0,0)) from bz wc _) (by decide) (aU.out.fresh (ag _)) (by show 1<=bn;decide) rfl,by simp only[aL,bg,ct.out.get HY.out]⟩)
  ·have yz:=hJ.vE 25 38 rfl (by decide) (aC 25 (by rfl)) (fun _ h=>h);obtain⟨QN,uz,f27⟩:=hJ.val 27 (by decide) (aC 27 (by rfl));obtain⟨TC,Ai,Qg⟩:=(show pW B k E QN [Y] s9 wc from f27);obtain⟨Wu,Wv,UH,-⟩:=id Ai;rw[UH] at uz Ai;replace uz:T[40]?=_:=uz;have V8:=aa Ai;have ZN:=aa Qg;clear f27 Ai Qg UH;clear hJ aC cE;refine⟨rfl,fun K9 hK=>?_⟩;have bA:=aa hstep;clear hstep;go_simp;refine (lX wc aU.out bU.out 7 ⟨by decide,by decide⟩ _ TC V8.out [Y] ZN.out ZT.out).mono ?_;rintro e w8 ⟨i8,s8,rfl,p1,p2,p3,p4⟩;exact hK.out _ _ (bA.out _ _ _ p1 p2 p4 ⟨i8,rfl,p3⟩)
  ·obtain⟨i28,xh,PK⟩:=hJ.vI 28 41 rfl (by decide) (aC 28 (by rfl)) (fun _ h=>h);have xg:=hJ.vE 29 42 rfl (by decide) (aC 29 (by rfl)) (fun _ h=>h);have ct:=aa hJ.ext;clear hJ aC cE;refine⟨rfl,fun K9 hK=>?_⟩;have bA:=aa hstep;clear hstep;go_simp;have hal:aB wc.heap.size wc (wc.alloc _):=(ax _ _).alloc (ag _) (.cells #[.int .i64 ((i28:Nat):Int),.int .i64 ((i:Nat):Int)] 116)
   exact hK.out _ _ (bA.out _ _ _ (aU.out.below hal) ((Ext.refl _).up (ah _)) (.aH hal) ⟨[i28,i],IL.block (l:=[i28,i]) (cs:=[.int .i64 ((i28:Nat):Int),.int .i64 ((i:Nat):Int)]) (show (wc.alloc (.cells #[.int .i64 ((i28:Nat):Int),.int .i64 ((i:Nat):Int)] 116)).heap[wc.heap.size]?=some (.cells [.int .i64 ((i28:Nat):Int),.int .i64 ((i:Nat):Int)].toArray 116 (0,0)) from bz wc _) (by decide) (aU.out.fresh (ag _)) (by show 2<=bn;decide) rfl,by simp only[aL,bg,PK.out,ct.out.get HX.out]⟩)
  ·have yA:=hJ.vE 24 37 rfl (by decide) (aC 24 (by rfl)) (fun _ h=>h);obtain⟨v30,uK,f30⟩:=hJ.val 30 (by decide) (aC 30 (by rfl));obtain⟨TB,Ah,Qe⟩:=(show pW B k E v30 [sF Y,X] s9 wc from f30);obtain⟨Wr,Wt,UG,-⟩:=id Ah;rw[UG] at uK Ah;replace uK:T[43]?=_:=uK;have V7:=aa Ah;have ZM:=aa Qe;clear f30 Ah Qe UG;clear hJ aC cE;refine⟨rfl,fun K9 hK=>?_⟩;have bA:=aa hstep;clear hstep;go_simp;refine (lX wc aU.out bU.out 10 ⟨by decide,by decide⟩ _ TB V7.out [sF Y,X] ZM.out ZU.out).mono ?_;rintro e w8 ⟨i8,s8,rfl,p1,p2,p3,p4⟩;exact hK.out _ _ (bA.out _ _ _ p1 p2 p4 ⟨i8,rfl,p3⟩)
  ·have Yp:=hJ.vE 22 35 rfl (by decide) (aC 22 (by rfl)) (fun _ h=>h);have Bo:=hJ.vE 23 36 rfl (by decide) (aC 23 (by rfl)) (fun _ h=>h);obtain⟨i31,wG,PJ⟩:=hJ.vI 31 44 rfl (by decide) (aC 31 (by rfl)) (fun _ h=>h);have ct:=aa hJ.ext;clear hJ aC cE;refine⟨rfl,fun K9 hK=>?_⟩;have bA:=aa hstep;clear hstep;go_simp;refine (iG wc aU.out bU.out l i31 Y _ (ct.out.get HY.out) PJ.out G6.out).mono ?_;rintro e w8 ⟨i8,s8,rfl,p1,p2,p3,p4⟩;exact hK.out _ _ (bA.out _ _ _ p1 p2 p4 ⟨i8,rfl,p3⟩)
  ·have UN:=hJ.vE 21 34 rfl (by decide) (aC 21 (by rfl)) (fun _ h=>h);obtain⟨i32,Bn,PI⟩:=hJ.vI 32 45 rfl (by decide) (aC 32 (by rfl)) (fun _ h=>h);have ct:=aa hJ.ext;have iO:=(hJ.be.block kS (ae bP.out) (NO.cells bP.out (by decide))).trans bP.out;have lE:=(hJ.be.block kf (ae aG.out) (NO.cells aG.out (by decide))).trans aG.out;have m_:=aa iO;have y_:=aa lE;clear iO lE;clear hJ aC cE;refine⟨rfl,fun K9 hK=>?_⟩;have bA:=aa hstep;clear hstep;go_simp;refine (AR wc aU.out bU.out i32 f _ _ PI.out (ct.out.get HF.out) G3.out kS kf m_.out y_.out).mono ?_;rintro e w8 ⟨i8,s8,rfl,p1,p2,p3,p4⟩;exact hK.out _ _ (bA.out _ _ _ p1 p2 p4 ⟨i8,rfl,p3⟩)
  obtain⟨i11,Ck,Kc⟩:=hJ.vI 11 24 rfl (by decide) (aC 11 (by rfl)) (fun _ h=>h);obtain⟨i20,UO,PL⟩:=hJ.vI 20 33 rfl (by decide) (aC 20 (by rfl)) (fun _ h=>h);obtain⟨i33,Ao,VO⟩:=hJ.vI 33 46 rfl (by decide) (aC 33 (by rfl)) (fun _ h=>h);clear hJ aC cE;refine⟨rfl,fun K9 hK=>?_⟩;have bA:=aa hstep;clear hstep;go_simp;have hal:aB wc.heap.size wc (wc.alloc _):=(ax _ _).alloc (ag _) (.cells #[.int .i64 ((i11:Nat):Int),.int .i64 ((i20:Nat):Int),.int .i64 ((i33:Nat):Int)] 116)
  exact hK.out _ _ (bA.out _ _ _ (aU.out.below hal) ((Ext.refl _).up (ah _)) (.aH hal) ⟨[i11,i20,i33],IL.block (l:=[i11,i20,i33]) (cs:=[.int .i64 ((i11:Nat):Int),.int .i64 ((i20:Nat):Int),.int .i64 ((i33:Nat):Int)]) (show (wc.alloc (.cells #[.int .i64 ((i11:Nat):Int),.int .i64 ((i20:Nat):Int),.int .i64 ((i33:Nat):Int)] 116)).heap[wc.heap.size]?=some (.cells [.int .i64 ((i11:Nat):Int),.int .i64 ((i20:Nat):Int),.int .i64 ((i33:Nat):Int)].toArray 116 (0,0)) from bz wc _) (by decide) (aU.out.fresh (ag _)) (by show 3<=bn;decide) rfl,by simp only[aL,bg,Kc.out,PL.out,VO.out]⟩)
 rintro T wt ⟨s9,hJ⟩;have a0:=hJ.vE 0 13 rfl (by decide) rfl (fun _ h=>h);have a1:=hJ.vE 1 14 rfl (by decide) rfl (fun _ h=>h);have a2:=hJ.vE 2 15 rfl (by decide) rfl (fun _ h=>h);have a3:=hJ.vE 3 16 rfl (by decide) rfl (fun _ h=>h);obtain⟨i4,a4,H4⟩:=hJ.vI 4 17 rfl (by decide) rfl (fun _ h=>h);have a5:=hJ.vE 5 18 rfl (by decide) rfl (fun _ h=>h);have a6:=hJ.vE 6 19 rfl (by decide) rfl (fun _ h=>h);have a7:=hJ.vE 7 20 rfl (by decide) rfl (fun _ h=>h);obtain⟨i8,a8,H8⟩:=hJ.vI 8 21 rfl (by decide) rfl (fun _ h=>h);obtain⟨i9,a9,H9⟩:=hJ.vI 9 22 rfl (by decide) rfl (fun _ h=>h);obtain⟨i10,yR,PM⟩:=hJ.vI 10 23 rfl (by decide) rfl (fun _ h=>h);obtain⟨i11,yQ,Kc⟩:=hJ.vI 11 24 rfl (by decide) rfl (fun _ h=>h);have a12:=hJ.vE 12 25 rfl (by decide) rfl (fun _ h=>h)
 have yP:=hJ.vE 13 26 rfl (by decide) rfl (fun _ h=>h);have ES:=hJ.vE 14 27 rfl (by decide) rfl (fun _ h=>h);have JV:=hJ.vE 15 28 rfl (by decide) rfl (fun _ h=>h);have JU:=hJ.vE 16 29 rfl (by decide) rfl (fun _ h=>h);obtain⟨i17,JT,Kb⟩:=hJ.vI 17 30 rfl (by decide) rfl (fun _ h=>h);obtain⟨i18,JS,VS⟩:=hJ.vI 18 31 rfl (by decide) rfl (fun _ h=>h);obtain⟨QO,JR,f19⟩:=hJ.val 19 (by decide) rfl;obtain⟨TD,Aj,Qh⟩:=(show pW B k E QO [fb Y,bL X i_] s9 wt from f19);have V9:=aa Aj;clear f19 Aj Qh;obtain⟨i20,a20,PL⟩:=hJ.vI 20 33 rfl (by decide) rfl (fun _ h=>h);have a21:=hJ.vE 21 34 rfl (by decide) rfl (fun _ h=>h);have a22:=hJ.vE 22 35 rfl (by decide) rfl (fun _ h=>h);have O0:=hJ.vE 23 36 rfl (by decide) rfl (fun _ h=>h)
 have a24:=hJ.vE 24 37 rfl (by decide) rfl (fun _ h=>h);have OZ:=hJ.vE 25 38 rfl (by decide) rfl (fun _ h=>h);have OY:=hJ.vE 26 39 rfl (by decide) rfl (fun _ h=>h);obtain⟨QN,OX,f27⟩:=hJ.val 27 (by decide) rfl;obtain⟨TC,Ai,Qg⟩:=(show pW B k E QN [Y] s9 wt from f27);have V8:=aa Ai;clear f27 Ai Qg;obtain⟨i28,a28,PK⟩:=hJ.vI 28 41 rfl (by decide) rfl (fun _ h=>h);have OW:=hJ.vE 29 42 rfl (by decide) rfl (fun _ h=>h);obtain⟨v30,OV,f30⟩:=hJ.val 30 (by decide) rfl;obtain⟨TB,Ah,Qe⟩:=(show pW B k E v30 [sF Y,X] s9 wt from f30);have V7:=aa Ah;clear f30 Ah Qe;obtain⟨i31,a31,PJ⟩:=hJ.vI 31 44 rfl (by decide) rfl (fun _ h=>h);obtain⟨i32,a32,PI⟩:=hJ.vI 32 45 rfl (by decide) rfl (fun _ h=>h)
 obtain⟨i33,OU,VO⟩:=hJ.vI 33 46 rfl (by decide) rfl (fun _ h=>h);obtain⟨Wd,OT,f34⟩:=hJ.val 34 (by decide) rfl;obtain⟨WT,Ot,UE⟩:=(show pW B k E Wd [eZ [bH (fb Y),bL (cr Y) (fe (cr X) (nF 1))],eZ [fb Y,bL X i_],eZ [bH (fb Y),bL Y (me (sF Y) X)]] s9 wt from f34);have ZX:=aa Ot;have ZL:=aa UE;clear f34 Ot UE
 have hfr:=hJ.fin (fun i hi=>az (iS.out i hi) (of_decide_eq_true rfl)) rfl (.cons a0 (.cons a1 (.cons a2 (.cons a3 (.cons a4 (.cons a5 (.cons a6 (.cons a7 (.cons a8 (.cons a9 (.cons yR (.cons yQ (.cons a12 (.cons yP (.cons ES (.cons JV (.cons JU (.cons JT (.cons JS (.cons JR (.cons a20 (.cons a21 (.cons a22 (.cons O0 (.cons a24 (.cons OZ (.cons OY (.cons OX (.cons a28 (.cons OW (.cons OV (.cons a31 (.cons a32 (.cons OU (.cons OT .nil)))))))))))))))))))))))))))))))))));have aU:=aa hJ.st;have gg:Hid (Ext s1 s9 15):=aa hJ.ext;have gK:=aa hJ.be;clear hJ iC iS a0 a1 a2 a3 a4 a5 a6 a7 a8 a9 yR yQ a12 yP ES JV JU JT JS JR a20 a21 a22 O0 a24 OZ OY OX a28 OW OV a31 a32 OU OT;rw[hfr];clear hfr
 simp only[jd,dV,bu,bW,bQ];simp only[bT,cf];go_wp2_with fail;go_ret;exact⟨_,s9,rfl,⟨WT,ZX.out,ZL.out⟩,aU.out,ZA.out.trans gg.out (by omega),mw.out.trans gK.out⟩
theorem KP:(Tryz.prog.info? 116).map (fun i=>(i.zero,i.size,i.bytes))=some (some (.int .i64 0),1,8):=by kernel_rfl
def fQ:El Nat where
 e:=116
 t:=114
 n:=1
 b:=8
 z:=.int .i64 0
 f i:=[.int .i64 ((i:Nat):Int)]
 R _ _:=True
 ok _:=True
 pos:=by decide
 CP:=by decide
 zs:=rfl
 z32:=by intro u hu z;simp only[Value.cells,aP,aK,or_false] at hu;subst hu;intro h;cases h
 ht:=Tryz.underlying114
 info:=KP
 len _:=rfl
 one n:=by intro u hu;rw[aX] at hu;subst hu;rfl
 n32 n:=by intro u hu z;rw[aX] at hu;subst hu;intro h;cases h
 fr _ _ _:=trivial
 own:=trivial
theorem qs (l:List Nat):l.flatMap fQ.f=l.map fun i=>dz .i64 ((i:Nat):Int):=by
 induction l with
 | nil=>rfl
 | cons a l ih=>rw[List.flatMap_cons,ih];rfl
theorem gV {B k B0:Nat} {w w':af} {v:ak} {l:List Nat} (h:fQ.Row w B0 v l) (hk:cA B k w w'):fQ.Row w' B0 v l:=by
 have blk:∀ (g:Nat) (c:Array ak),w.heap[g]?=some (Obj.cells c 116 (0,0))->w'.heap[g]?=some (Obj.cells c 116 (0,0)):=fun g c hc=>(hk.block g (ae hc) (NO.cells hc (by decide))).trans hc
 obtain⟨⟨h1,h2⟩,h3,h4⟩:=h;refine⟨⟨h1,?_⟩,fun g hg=>?_,fun _ _=>trivial⟩
 ·rcases h2 with h2 | ⟨g,cap,cur,e1,e2,e3,e4⟩
  ·exact .inl h2
  exact .inr ⟨g,cap,cur,e1,e2,blk g cur e3,e4⟩
 obtain⟨c,hc,h32⟩:=h3 g hg;exact⟨c,blk g c hc,h32⟩
theorem D7 {B k B0:Nat} {E:Nat->Prop} {w:af} {v:ak} {l:List Nat} (h:fQ.Row w B0 v l) (hE:∀ g,v.ownBlock=some g->¬ E g):IL B k E w v l:=by
 obtain⟨ko,kc,rfl,h1,h2⟩:=h.at;refine⟨ko,kc,rfl,h1,fun j hj=>?_⟩;obtain⟨a,ha,⟨c,hc⟩,h3,-⟩:=h2 j hj;refine⟨a,ha,⟨⟨NO.cells hc (by decide),hE _ (by rw[ha];rfl)⟩,⟨c,hc⟩⟩,?_⟩;have:=h3 0 (.int .i64 ((l[j]:Nat):Int)) rfl
 simpa [fQ] using this
theorem oK {B0 g:Nat} {w:af} {l:List Nat} (h:w.heap[g]?=some (.cells (l.map fun i=>dz .i64 ((i:Nat):Int)).toArray 116 (0,0))) (hg:B0<=g) (hl:l.length<=bn):fQ.Row w B0 (.slice (some ⟨g,0,none⟩) l.length l.length) l:=by
 refine⟨⟨by rw[gI fQ.f fQ.len],.inr ⟨g,l.length,_,rfl,hg,h,ag _,hl,by simp[fQ],?_⟩⟩,fun q hq=>?_,fun _ _=>trivial⟩
 ·rw[qs];show List.take (l.length*1) (l.map _)=_
  rw[Nat.mul_one];exact List.take_of_length_le (by simp)
 injection hq with hq;subst hq;refine⟨_,h,?_⟩;intro u hu z;simp only[List.mem_map] at hu;obtain⟨i,-,rfl⟩:=hu;intro h;cases h
theorem pN {g:Nat} {w:af} {l:List Nat} (h:w.heap[g]?=some (.cells (l.map fun i=>dz .i64 ((i:Nat):Int)).toArray 116 (0,0))) (hl:l.length<=bn):fQ.At w (.slice (some ⟨g,0,none⟩) l.length l.length) l:=(oK h (ah _) hl).at
theorem IL.FB {B k:Nat} {E:Nat->Prop} {w:af} {v:ak} {l:List Nat} (h:IL B k E w v l):fQ.At w v l:=by
 obtain⟨ko,kc,rfl,h1,h2⟩:=h;refine⟨ko,kc,rfl,h1,fun j hj=>?_⟩;obtain⟨a,ha,⟨-,hc⟩,hcell⟩:=h2 j hj;refine⟨a,ha,hc,fun q u hu=>?_,trivial⟩;cases q with
 | zero =>
  injection hu with hu;subst hu;have e:a.add (j*fQ.n+0)=a.add j:=by rw[show fQ.n=1 from rfl,Nat.mul_one,Nat.add_zero]
  rw[e];exact hcell
 | succ q=>cases hu
def IP (B k:Nat) (E:Nat->Prop) (L s:List F) (ts:List F) (n:Nat) (w:af) (e:Ending) (w':af):Prop:=∃ v ids s',e=.returned v/\fQ.Row w' w.heap.size v ids/\ids.map (fun i=>s'[i]?)=ts.map some/\St B k (fun g=>E g\/v.ownBlock=some g) L s' w'/\Ext s s' n/\cA B k w w'
theorem El.At.Et {α:Type} {E:El α} {w:af} {g cap:Nat} {el:List α} {z:Array ak} (h:w.heap[g]?=some (.cells ((el.flatMap E.f).toArray++z) E.e (0,0))) (hl:el.length<=cap) (hc:cap<=bn) (hR:∀ a ∈ el,E.R w a):E.At w (.slice (some ⟨g,0,none⟩) el.length cap) el:=by
 refine⟨_,_,rfl,⟨hl,hc,fun h=>by cases h⟩,fun i hi=>⟨_,rfl,⟨_,h⟩,fun j u hu=>?_,hR _ (bS hi)⟩⟩;have hj:j<E.n:=by have:=(List.getElem?_eq_some_iff.1 hu).1;rwa [E.len] at this
 have hq:i*E.n+j<(el.flatMap E.f).length:=by
  rw[gI E.f E.len];calc i*E.n+j<i*E.n+E.n:=by omega
   _=(i+1)*E.n:=by rw[Nat.add_mul];omega
   _<=el.length*E.n:=Nat.mul_le_mul_right _ hi
 rw[iR,Nat.zero_add,cell_of_row w g _ _ _ _ h,Array.getElem?_append_left (by simpa using hq),kM,kT E.f E.len el i j hi hj];exact hu
theorem El.At.Ng {α:Type} {E:El α} {w:af} {ko:Option cu} {n:Nat} {x:ak} {el ns:List α} (h:E.At w (.slice ko n n) el) (hx:E.At w x ns) (h0:0<ns.length) (hlen:el.length+ns.length<=1000000) (ty:aZ) :
  ∃ v' w',(gE #[E.t,E.t] ty #[.slice ko n n,x]).run aj w=.ok v' w'/\E.At w' v' (el++ns)/\v'.ownBlock=some w.heap.size/\aB w.heap.size w w':=by
 obtain⟨i,hi,hz,iq,mP⟩:=info_parts E.info;have ht:=E.ht;have hbyte:=E.CP;obtain⟨xo,xc,rfl,P0,uj⟩:=id hx;obtain⟨a,rfl,-,-,hR0⟩:=uj 0 h0;have hnews:=hx.news;have hl:(ns.flatMap E.f).length=ns.length*i.size:=by rw[iq];exact gI E.f E.len ns
 have e_:(el.length+ns.length)*i.bytes<=140737488355328:=by
  rw[mP];exact ai (gj hlen hbyte) (by decide)
 have pE:el.length+ns.length<=bn:=by unfold bn;omega
 have hR:∀ b ∈ el++ns,E.R w b:=fun b hb=>by
  rcases List.mem_append.1 hb with hb | hb
  ·obtain⟨k,hk,rfl⟩:=List.getElem_of_mem hb;obtain⟨_,_,_,_,h5⟩:=h;obtain⟨_,_,_,_,h6⟩:=h5 k hk;exact h6
  obtain⟨k,hk,rfl⟩:=List.getElem_of_mem hb;obtain⟨_,_,_,h6⟩:=uj k hk;exact h6.2
 have cS:∀ o:Obj,aB w.heap.size w (w.drew.alloc o):=fun o=>((ax _ _).drew).alloc (ag _) o
 have hn:n=el.length:=by obtain⟨_,_,e,_⟩:=h;injection e
 cases ko with
 | none =>
  have XX:n=0:=by obtain⟨_,_,e,⟨_,_,h3⟩,_⟩:=h;injection e with e1 e2 e3;rw[e3];exact h3 e1.symm
  have he:el=[]:=List.eq_nil_of_length_eq_zero (by omega);subst XX;subst he;have sD:=run_append_nil (P:=aj) w E.t ty E.e i E.z ht hi hz a ns.length xc _ hl hnews h0 (by omega) (by rw[qE,Nat.zero_add] at e_;omega);refine⟨_,_,sD,?_,rfl,cS _⟩;exact El.At.Et (el:=ns) (bz w.drew _) (grownCap_ge ..) (grownCap_le_maxLen _ _ _ _ (by simpa using pE)) (fun b hb=>E.below (hR b (by simpa using hb)) (cS _))
 | some b =>
  have hlo:(el.flatMap E.f).length=n*i.size:=by rw[iq,hn];exact gI E.f E.len el
  have sD:=run_append_grow (P:=aj) w E.t ty E.e i E.z ht hi hz b n n _ hlo h.news a ns.length xc _ hl hnews (by omega) (by omega) (growslice_fits (by omega) (by rw[hn];exact e_));refine⟨_,_,sD,?_,rfl,cS _⟩;have e:(el.flatMap E.f).toArray++(ns.flatMap E.f).toArray=((el++ns).flatMap E.f).toArray:=by rw[List.flatMap_append];simp
  have hh:=bz w.drew (.cells ((el.flatMap E.f).toArray++(ns.flatMap E.f).toArray++gG E.z.cells (grownCap w (n+ns.length) n E.e - (n+ns.length))) E.e);rw[e] at hh;have:=El.At.Et (el:=el++ns) (cap:=grownCap w (n+ns.length) n E.e) hh (by rw[dB,<-hn];exact grownCap_ge ..) (grownCap_le_maxLen _ _ _ _ (by rw[hn];exact pE)) (fun b hb=>E.below (hR b hb) (cS _));rw[dB,<-hn] at this;rw[e];exact this
theorem El.Row.Ol {α:Type} {E:El α} {w:af} {B:Nat} {ko:Option cu} {n:Nat} {x:ak} {el ns:List α} (h:E.Row w B (.slice ko n n) el) (hx:E.At w x ns) (h0:0<ns.length) (hlen:el.length+ns.length<=1000000) (hB:B<=w.heap.size) (ty:aZ) :
  ∃ v' w',(gE #[E.t,E.t] ty #[.slice ko n n,x]).run aj w=.ok v' w'/\E.Row w' B v' (el++ns)/\v'.ownBlock=some w.heap.size/\aB w.heap.size w w':=by
 obtain⟨v1,w1,r1,a1,c1,b1⟩:=h.at.Ng hx h0 hlen ty;obtain⟨v2,w2,r2,a2,-⟩:=h.run hx ty hlen hB;rw[r1] at r2;injection r2 with e1 e2;subst e1;subst e2;exact⟨v1,w1,r1,a2,c1,b1⟩
theorem El.Row.tU {α:Type} {E:El α} {w:af} {B:Nat} {ko:Option cu} {n:Nat} {x:ak} {el ns:List α} (h:E.Row w B (.slice ko n n) el) {ops:Array Oper} {rest:List Oper} {o:Oper} {a:Act} {Q:Exit->Act->af->Prop} (hgd:o.guard=none) (s y:Operand)
  (ho:o.op=.call { callee:=.builtin .append,args:=#[s,y],argTypes:=#[E.t,E.t] }) (hs:a.eval s=.slice ko n n) (hx:a.eval y=x) (hxs:E.At w x ns) (h0:0<ns.length) (hlen:el.length+ns.length<=1000000) (hB:B<=w.heap.size)
  (hK:∀ v' w',E.Row w' B v' (el++ns)->v'.ownBlock=some w.heap.size->aB w.heap.size w w'->mq aj ops Q rest (a.put o.dst v') w'):mq aj ops Q (o::rest) a w:=by
 refine wpList_plain hgd fun K hk=>?_
 obtain⟨v',w',hr,h1,h2,h3⟩:=h.Ol hxs h0 hlen hB o.type;unfold Oper.wp execOp;simp only[ho,resolve,invoke,builtin,CB,CA,jP,mA,aL,bg,hs,hx,hr];exact hk _ _ (hK v' w' h1 h2 h3)
theorem St.C6 {B k:Nat} {E E':Nat->Prop} {L s:List F} {w w':af} {r:Option Nat} (h:St B k E L s w) (hg:w.grownBy w' r)
  (hr:∀ g,r=some g->E g/\B<=g/\∃ c,w.heap[g]?=some (.cells c 116 (0,0))/\lA c.toList)
  (hE:∀ g,E' g->E g\/w.heap.size<=g) (hl:∀ g,E' g->g<w'.heap.size):St B k E' L s w':=by
 obtain⟨km,v,us,M,h⟩:=h;obtain⟨w0,h1,h2,h3⟩:=h.tx;have mW:∀ (g:Nat) (c:Array ak) (T:aZ),w.heap[g]?=some (.cells c T (0,0))->T≠116->some g≠r:=fun g c T hc hT e=>by
  obtain⟨-,-,c',nu,-⟩:=hr g e.symm;rw[hc] at nu;injection nu with e1;injection e1 with _ e2;exact hT e2
 have ek:w'.heap[k]?=w.heap[k]?:=hg.block k (ae h.bk) (mW k _ _ h.bk (by decide));have em:w'.heap[km]?=w.heap[km]?:=hg.block km h.mp.lt (fun e=>by
  obtain⟨-,-,c',nu,-⟩:=hr km e.symm;obtain⟨es,cl,hm⟩:=h.mp.obj;rw[hm] at nu;cases nu)
 have kn:KN w w':=by
  intro a z hc;have hla:=World.block_lt_of_cell? w a hc;by_cases hb:some a.block=r
  ·obtain⟨-,-,c,nu,h32⟩:=hr a.block hb.symm;exact absurd hc (qz nu h32 rfl z)
  rw[cM (hg.block _ hla hb)];exact hc
 have GV:∀ g,¬ E g->some g≠r:=fun g hn e=>hn (hr g e.symm).1
 have no:∀ g,g<w.heap.size->¬ E g->NO B k w g->NO B k w' g:=fun g hlt hn hno=>by
  have hb:=hg.block g hlt (GV g hn);rintro⟨hB,o⟩;refine hno ⟨hB,?_⟩;rw[hb] at o;rcases o with o | ⟨c,T,a1,a2 | ⟨a2,a3⟩,a4⟩
  ·exact .inl o
  ·exact .inr ⟨c,T,a1,.inl a2,a4⟩
  exact .inr ⟨c,T,a1,.inr ⟨a2,nU (fun _=>ek) g hlt a3⟩,a4⟩
 have ns:∀ g,g<w.heap.size->NS B k E w g->NS B k E' w' g:=fun g hlt hn=>⟨no g hlt hn.2 hn.1,fun he=>by rcases hE g he with h9 | h9;exact hn.2 h9;omega⟩
 exact⟨km,v,us,M,{ h with
  bk:=ek.trans h.bk
  sz:=ai h.sz hg.size
  mp:=h.mp.keep em
  row:=by
   obtain⟨⟨r1,r2⟩,r3,r4⟩:=h.row;refine⟨⟨r1,?_⟩,fun g cC=>?_,fun _ _=>trivial⟩
   ·rcases r2 with r2 | ⟨g,cap,cur,e1,e2,e3,e4⟩
    ·exact .inl r2
    exact .inr ⟨g,cap,cur,e1,e2,(hg.block g (ae e3) (mW g _ _ e3 (by decide))).trans e3,e4⟩
   obtain⟨c,hc,h32⟩:=r3 g cC;exact⟨c,(hg.block g (ae hc) (mW g _ _ hc (by decide))).trans hc,h32⟩
  ft:=fun i u t hu ht=>(((h.ft i u t hu ht).lt).keep (fun g qR=>hg.block g qR.2 (GV g qR.1.2)) kn).mono fun g qR=>ns g qR.2 qR.1
  ids:=fun i u t hu ht=>by
   obtain⟨ko,kc,e,q1,q2⟩:=h.ids i u t hu ht;refine⟨ko,kc,e,q1,fun j hj=>?_⟩;obtain⟨a,ha,hn,hc⟩:=q2 j hj;have hla:=World.block_lt_of_cell? w _ hc;rw[bX] at hla;exact⟨a,ha,⟨ns _ hla hn.1,by obtain⟨c,nu⟩:=hn.2;exact⟨c,(hg.block _ hla (GV _ hn.1.2)).trans nu⟩⟩,by rw[cM (w:=w) (by rw[bX];exact hg.block _ hla (GV _ hn.1.2))];exact hc⟩
  ex:=hl
  tx:=⟨w0,h1,h2,⟨hg.os.trans h3.os,hg.tape.trans h3.tape,hg.output.trans h3.output,ai h3.size hg.size,fun g hgB=>(hg.block g (az hgB h.sz) (fun e=>by have:=(hr g e.symm).2.1;omega)).trans (h3.block g hgB)⟩⟩ }⟩
theorem St.own {B k:Nat} {E:Nat->Prop} {L s:List F} {w w':af} {v:ak} {g:Nat} (h:St B k E L s w) (hb:aB w.heap.size w w') (hv:v.ownBlock=some g) (hg:w.heap.size<=g) (hl:g<w'.heap.size):St B k (fun q=>E q\/v.ownBlock=some q) L s w':=by
 have hs:=h;obtain⟨km,v0,us,M,hU⟩:=hs;refine h.C6 (jV hb none) (fun g h=>by cases h) (fun q hq=>?_) (fun q hq=>?_)
 ·rcases hq with hq | hq
  ·exact .inl hq
  rw[hv] at hq;injection hq with hq;exact .inr (by omega)
 rcases hq with hq | hq
 ·exact az (hU.ex q hq) hb.size
 rw[hv] at hq;injection hq with hq;omega
theorem St.less {B k:Nat} {E E':Nat->Prop} {L s:List F} {w:af} (h:St B k E L s w) (hE:∀ g,E' g->E g):St B k E' L s w:=
 h.C6 (aE _ none) (fun g h=>by cases h) (fun g hg=>.inl (hE g hg)) (fun g hg=>by
  obtain⟨km,v,us,M,h⟩:=h
  exact h.ex g (hE g hg))
def O8 {α:Type} (E:El α) (w:af) (a:cu) (ls:List (List α)):Prop:=∀ i (h:i<ls.length),∃ o l c,w.cell? (a.add i)=some (.slice o l c)/\E.At w (.slice o l c) ls[i]
theorem O8.below {α:Type} {E:El α} {w w':af} {a:cu} {ls:List (List α)} (h:O8 E w a ls) (hb:aB w.heap.size w w'):O8 E w' a ls:=fun i hi=>by
 obtain⟨o,l,c,h1,h2⟩:=h i hi;exact⟨o,l,c,by rw[hb.cell (cj h1)];exact h1,h2.below hb⟩
def nn {α:Type} (ls:List (List α)):Nat:=(ls.map (·.length)).sum
theorem td {α:Type} (ls:List (List α)) (j:Nat) (hj:j<ls.length):nn (ls.take (j+1))=nn (ls.take j)+ls[j].length:=by
 unfold nn;rw[aT hj,List.map_append,List.sum_append];simp
theorem xN {α:Type} (ls:List (List α)) (j:Nat):nn (ls.take j)<=nn ls:=by
 unfold nn;conv=>rhs;rw[<-List.take_append_drop j ls,List.map_append,List.sum_append]
 omega
theorem zN {α:Type} (ls:List (List α)):ls.flatten.length=nn ls:=by
 unfold nn;rw[List.length_flatten]
theorem z_ {α:Type} (ls:List (List α)) (j:Nat) (hj:j<ls.length):(ls.take (j+1)).flatten=(ls.take j).flatten++ls[j]:=by
 rw[aT hj,List.flatten_append];simp
theorem pK {w w':af} {v x v':ak} {t tn:aZ} {ops:Array Oper} {rest:List Oper} {o:Oper} {a:Act} {Q:Exit->Act->af->Prop} (hgd:o.guard=none) (s y:Operand)
  (ho:o.op=.call { callee:=.builtin .append,args:=#[s,y],argTypes:=#[t,tn] }) (hs:a.eval s=v) (hx:a.eval y=x) (hr:∀ ty,(gE #[t,tn] ty #[v,x]).run aj w=.ok v' w')
  (hK:mq aj ops Q rest (a.put o.dst v') w'):mq aj ops Q (o::rest) a w:=by
 refine wpList_plain hgd fun K hk=>?_
 unfold Oper.wp execOp;simp only[ho,resolve,invoke,builtin,CB,CA,jP,mA,aL,bg,hs,hx,hr];exact hk _ _ hK
theorem DF {α:Type} (E:El α) (w:af) (B n:Nat) (hn:n<=1000000) (hB:B<=w.heap.size) (G:Nat) (hG:n<=G/\G<=bn) :
  E.Row (w.drew.alloc (.cells (gG E.z.cells n++gG E.z.cells (G - n)) E.e)) B (.slice (some ⟨w.heap.size,0,none⟩) 0 G) []:=by
 refine⟨World.ownsRow_made w.drew _ G hB hG.2 ?_,fun g hg=>?_,fun q hq=>by cases hq⟩
 ·simp only[Array.size_append,size_zeroCells,E.zs,<-Nat.add_mul];congr 1;omega
 injection hg with hg;subst hg;exact⟨_,bz w.drew _,by simp only[Array.toList_append];exact (lA.AK E.z32 _).app (lA.AK E.z32 _)⟩
theorem It (n B:Nat) (w:af) (hn:n<=1000000) (hB:B<=w.heap.size) :
  aV aj 168 #[.slice none 0 0,.int .i64 (n:Nat)] w fun e w'=>∃ v,e=.returned v/\fQ.Row w' B v []/\aB w.heap.size w w':=by
 by_cases h0:n=0
 ·subst h0;go_enter Tryz.func168,Tryz.ntmps168;go_wp2_with fail;exact aJ (results_tmp Tryz.results168 _ _ _) rfl ⟨_,rfl,El.Row.nil _ _,ax _ _⟩
 obtain⟨i,hi,hz,iq,mP⟩:=info_parts fQ.info;have hpos:=fQ.pos;have hge:=grownCap_ge w n 0 fQ.e;have hle:=grownCap_le_maxLen w n 0 fQ.e (by unfold bn;omega);have hrun:=fun ty=>Lib.run_append_nil_zeros (P:=aj) w fQ.t 3 ty fQ.e i fQ.z .i64 .i64 fQ.ht Tryz.underlying3 hi hz n (by omega) (by rw[iq];exact hpos) (by omega) (by rw[mP];exact ai (gj hn fQ.CP) (by decide))
 obtain⟨G,hG⟩:∃ G,G=grownCap w n 0 fQ.e:=⟨_,rfl⟩;rw[<-hG] at hge hle hrun;have HM:=aa (DF fQ w B n hn hB G ⟨hge,hle⟩);have hG2:G<=9223372036854775807:=hle;have H_:(0:Int)<(n:Int):=by omega
 clear hG hge hle hi hz iq mP hpos;obtain⟨w2,Q9⟩:∃ q,q=(w.drew.alloc (.cells (gG fQ.z.cells n++gG fQ.z.cells (G - n)) fQ.e)):=⟨_,rfl⟩;have Fv:aB w.heap.size w w2:=by rw[Q9];exact ((ax _ _).drew).alloc (ag _) _
 rw[<-Q9] at hrun HM;have HB:=aa Fv;clear Q9 Fv;have SG:=aa hrun;clear hrun;go_enter Tryz.func168,Tryz.ntmps168;go_wp2_with (at_builtin;refine pK rfl (.tmp 20) (.tmp 21) rfl rfl rfl SG.out ?_);exact aJ (results_tmp Tryz.results168 _ _ _) rfl ⟨_,rfl,HM.out,HB.out⟩
theorem Cn (a:cu) (m mc:Nat) (ls:List (List Nat)) (w:af) (h:O8 fQ w a ls) (hm:m=ls.length) (Ia:m<=mc/\mc<=bn) (hlen:nn ls<=100000) (hml:m<=1000) :
  aV aj 123 #[.slice (some a) m mc] w fun e w'=>∃ v,e=.returned v/\fQ.At w' v ls.flatten/\aB w.heap.size w w':=by
 have HX:=aa h;have HM:=aa hm;have HL:=aa hlen;have pE:mc<=9223372036854775807:=Ia.2;have Xp:=Ia.1;clear h hm hlen Ia;go_enter Tryz.func123,Tryz.ntmps123;go_wp2_with fail;go_loopw [3,11] (fun nv iv wr=>∃ j s:Nat,iv=.int .i64 (j:Nat)/\nv=.int .i64 (s:Nat)/\j<=m/\s<=100000/\Hid (s=nn (ls.take j))/\Hid (aB w.heap.size w wr)) (fun _ i _=>m - (intOf i).toNat)
 case atStart=>exact⟨0,0,rfl,rfl,ah _,ah _,aa rfl,aa (ax _ _)⟩
 case round =>
  obtain⟨j,s,rfl,rfl,hj,hs,HS,HW⟩:=hrel;by_cases hlt:j<m
  ·have jq:j<ls.length:=by rw[<-HM.out];exact hlt
   obtain⟨o,l,c,c0,Lr⟩:=(HX.out.below HW.out) j jq;have hl:l=ls[j].length:=by obtain⟨_,_,e,_⟩:=Lr;injection e
   have P7:=td ls j jq;have zU:=xN ls (j+1);rw[<-hl] at P7;have Mw:s+l<=100000:=by have:=HS.out;have:=HL.out;omega
   have IY:=aa (show s+l=nn (ls.take (j+1)) by rw[P7,HS.out]);clear hl P7 zU Lr;go_wp2_with fail;go_roundw
   case rel=>exact⟨j+1,s+l,by go_num,by go_num,hlt,Mw,IY,HW⟩
   case measure=>simp[intOf];omega
  have ej:j=m:=by omega
  subst ej;obtain⟨wq,rfl⟩:∃ q,q=wr:=⟨_,rfl⟩;go_wp2_with fail;refine (It s w.heap.size wq (by omega) HW.out.size).mono ?_;rintro e w3 ⟨v3,rfl,hr,hb⟩;obtain⟨po,pc,rfl,-⟩:=hr.form;have HR:=aa hr;replace HW:=aa (HW.out.trans (hb.mono HW.out.size));clear hr hb;go_wp2_with fail;go_loopw [6,27] (fun ov iv wr=>∃ (j2:Nat),iv=.int .i64 (j2:Nat)/\j2<=j/\Hid (fQ.Row wr w.heap.size ov (ls.take j2).flatten)/\Hid (aB w.heap.size w wr)) (fun _ i _=>j - (intOf i).toNat)
  case atStart=>exact⟨0,rfl,ah _,HR,HW⟩
  case round =>
   clear HR HW;obtain⟨j2,rfl,uJ,HR,HW⟩:=hrel;obtain⟨oo,oc,rfl,Xm,Xn,-⟩:=HR.out.form;by_cases K_:j2<j
   ·have jq:j2<ls.length:=by rw[<-HM.out];exact K_
    obtain⟨o,l,c,c0,Lr⟩:=(HX.out.below HW.out) j2 jq;have vH:=aa Lr;have Fs:(ls.take j2).flatten.length+ls[j2].length<=100000:=by have h1:=td ls j2 jq;have h2:=xN ls (j2+1);have h3:=zN (ls.take j2);have:=HL.out;omega
    have Vt:=aa Fs;clear Lr Fs;go_wp2_with (at_builtin;refine El.Row.append (E:=fQ) HR.out rfl (.tmp 31) (.tmp 32) rfl rfl rfl vH.out (by have:=Vt.out;omega) HW.out.size ?_;intro v9 w9 r1 r2 r3 r4);go_roundw
    case rel=>exact⟨j2+1,by go_num,K_,aa (by rw[z_ ls j2 jq];exact r1),aa (HW.out.trans r3)⟩
    case measure=>simp[intOf];omega
   have ej:j2=j:=by omega
   go_wp2_with fail;have l_:=HR.out.at;have hfl:(ls.take j2).flatten=ls.flatten:=by rw[ej,HM.out,List.take_length]
   skip;exact aJ (results_tmp Tryz.results123 _ _ _) rfl ⟨_,rfl,by rw[<-hfl];exact l_,HW.out⟩
attribute [local go_sem] cL cK cJ cI
theorem Jn {x:F} (h:rt x=true) (ho:x.op=10):∃ a b,x.kids=[a,b]:=by
 obtain⟨o,z,nm,ks⟩:=x;have hp:=gQ h;have lY:o=10:=ho;subst lY;obtain⟨a,b,e,-,-⟩:=mT (by have:=hp.1;simpa [bK] using this);exact⟨a,b,e⟩
theorem St.FA {B k:Nat} {E:Nat->Prop} {L s:List F} {w:af} (h:St B k E L s w):∀ t ∈ s,∀ c ∈ t.kids,c ∈ s:=by
 obtain⟨km,v,us,M,h⟩:=h;exact h.cl
theorem NO.mM {B k g kn n cap:Nat} {a:ak} {c:Array ak} {T:aZ} {w:af} (hbk:w.heap[k]?=some (.cells #[a,.slice (some ⟨g,0,none⟩) n cap] 163 (0,0))) (hne:g≠kn) (hkn:w.heap[kn]?=some (.cells c T (0,0))) (hT:T≠163):NO B k w kn:=by
 rintro⟨-,⟨es,cl,e⟩ | ⟨c',T',e,JC | ⟨-,h1,a',v',h2,h3⟩,-⟩⟩
 ·rw[hkn] at e;cases e
 ·rw[hkn] at e;injection e with e;injection e with _ e;exact hT (e.trans JC)
 rw[hbk] at h2;injection h2 with h2;injection h2 with h2;injection h2 with h2;injection h2 with _ h2;injection h2 with h2;subst h2;injection h3 with h3;exact hne h3
theorem qp {B k:Nat} {E:Nat->Prop} {L s:List F} (w:af) (h:St B k E L s w) (hm:s.length+9<=900000) (i:Nat) (X:F) (hx:s[i]?=some X) (hg:∀ t ∈ dM X,Gd t) :
  aV aj 74 #[.pointer (some ⟨k,0,none⟩),.int .i64 ((i:Nat):Int)] w (IP B k E L s (dM X) 9 w):=by
 have HS:=aa h;have HM:=aa hm;have HX:=aa hx;have HG:=aa hg;have g1:=hg (cN (nF 0) (cr X)) (by simp[dM]);have G1:=aa g1;have G2:Hid (Gd (cr X)):=aa (cx g1 (by simp[cN,fo,F.kids]));clear h hm hx hg g1;go_enter Tryz.func74,Tryz.ntmps74;go_wp2_with fail;refine (mJ w HS.out (by have:=HM.out;omega) 0 (by decide) (by decide)).mono ?_;rintro e y1 ⟨j1,s1,rfl,h1,h2,h3,h4⟩;have S1:=aa h1;have J1:=aa h3;have E1:Hid (Ext s s1 1):=aa ((Ext.refl s).trans h2 (by omega));have T1:Hid (cA B k w y1):=aa (h4);clear h1 h2 h3 h4;go_wp2_with fail;refine (ik y1 S1.out (by have:=HM.out;have:=E1.out.len;omega) i X (E1.out.get HX.out) G2.out).mono ?_;rintro e y2 ⟨j2,s2,rfl,h1,h2,h3,h4⟩;have S2:=aa h1;replace J1:=aa (h2.get J1.out)
 have J2:=aa h3;have E2:Hid (Ext s s2 2):=aa (E1.out.trans h2 (by omega));have T2:Hid (cA B k w y2):=aa (T1.out.trans h4);clear h1 h2 h3 h4;go_wp2_with fail;refine (tg y2 S2.out (by have:=HM.out;have:=E2.out.len;omega) j1 j2 (nF 0) (cr X) J1.out J2.out G1.out).mono ?_;rintro e y3 ⟨j3,s3,rfl,h1,h2,h3,h4⟩;have S3:=aa h1;replace J1:=aa (h2.get J1.out);replace J2:=aa (h2.get J2.out);have J3:=aa h3;have E3:Hid (Ext s s3 3):=aa (E2.out.trans h2 (by omega));have T3:Hid (cA B k w y3):=aa (T2.out.trans h4);clear h1 h2 h3 h4;have O_:Hid (s3[i]?=some X):=aa (E3.out.get HX.out);obtain⟨z3,kq,eq,yY,gu,qw,mz⟩:=aW y3 #[.int .i64 ((j3:Nat):Int)] 116;have BA:=aa (S3.out.below gu.out);have Pb:=aa (T3.out.trans (cA.aH gu.out))
 obtain⟨km,v,us,M,hU⟩:=BA.out;obtain⟨g,cap,u,qo,ql,qc,q,⟨rfl,oL,hcap,pE⟩,⟨c0,c1,c2,c3,c4,c5,c6⟩,⟨-,hop,-⟩,gN,-⟩:=hU.node O_.out;have d1:=aq (v:=.slice (some ⟨g,0,none⟩) s3.length cap) hU.bk 1 rfl;have tD:cap<=9223372036854775807:=pE;have r8:=aa gN;have rT:=aa hU.bk;have gF:=aa hop;clear hU gN hop;obtain⟨z4,kn,en,uy,jz,hkn,jm⟩:=aW z3 #[.int .i64 u.k,.bool (decide (u.n.z<0)),.slice u.n.o u.n.l u.n.c,.string u.nm,.slice u.ko u.kl u.kc,.slice qo ql qc,.bool q] 167;have n0:=aq (v:=.int .i64 u.k) jm.out 0 rfl;have n5:=aq (v:=.slice qo ql qc) jm.out 5 rfl;obtain⟨op,hop⟩:∃ o,o=u.k:=⟨_,rfl⟩;by_cases h9:u.k=9
 ·have e9:(u.k==9)=true:=by rw[h9];rfl
  have hl:Hid (dM X=[cN (nF 0) (cr X),bL (cr X) (nF 0)]):=aa (by unfold dM;rw[<-gF.out,if_pos h9]);have G3:Hid (Gd (bL (cr X) (nF 0))):=aa (HG.out _ (by rw[hl.out];simp));have Bc:=BA.out.below jz.out;have CT:=aa Bc;have LW:Hid (cA B k w z4):=aa (Pb.out.trans (cA.aH jz.out));have pQ:=(jz.out.block kq (ae mz.out)).trans mz.out;have ND:w.heap.size<=kq:=by have h1:=T3.out.size;have h2:=qw.out;omega
  have HR:Hid (fQ.Row z4 w.heap.size (.slice (some ⟨kq,0,none⟩) 1 1) [j3]):=aa (oK (l:=[j3]) pQ ND (by show 1<=bn;decide));have HWZ:Hid (w.heap.size<=z4.heap.size):=aa LW.out.size;clear h9 hop Bc pQ ND;go_wp2_with fail;refine (ik z4 CT.out (by have:=HM.out;have:=E3.out.len;omega) i X O_.out G2.out).mono ?_;rintro e y5 ⟨j5,s5,rfl,h1,h2,h3,h4⟩;have S5:=aa h1;replace J3:=aa (h2.get J3.out);have J5:=aa h3;have E5:Hid (Ext s s5 4):=aa (E3.out.trans h2 (by omega));have T5:Hid (cA B k w y5):=aa (LW.out.trans h4);replace HR:=aa (gV HR.out h4);clear h1 h2 h3 h4 c0 c1 c2 c3 c4 c5 c6 d1 n0 n5;go_wp2_with fail;refine (mJ y5 S5.out (by have:=HM.out;have:=E5.out.len;omega) 0 (by decide) (by decide)).mono ?_
  rintro e y6 ⟨j6,s6,rfl,h1,h2,h3,h4⟩;have S6:=aa h1;replace J3:=aa (h2.get J3.out);replace J5:=aa (h2.get J5.out);have J6:=aa h3;have E6:Hid (Ext s s6 5):=aa (E5.out.trans h2 (by omega));have T6:Hid (cA B k w y6):=aa (T5.out.trans h4);replace HR:=aa (gV HR.out h4);clear h1 h2 h3 h4;go_wp2_with fail;refine (iG y6 S6.out (by have:=HM.out;have:=E6.out.len;omega) j5 j6 _ _ J5.out J6.out G3.out).mono ?_;rintro e y7 ⟨j7,s7,rfl,h1,h2,h3,h4⟩;have S7:=aa h1;replace J3:=aa (h2.get J3.out);have J7:=aa h3;have E7:Hid (Ext s s7 6):=aa (E6.out.trans h2 (by omega));have T7:Hid (cA B k w y7):=aa (T6.out.trans h4);replace HR:=aa (gV HR.out h4);clear h1 h2 h3 h4;obtain⟨z7,kr,er,sG,eY,lj,aR⟩:=aW y7 #[.int .i64 ((j7:Nat):Int)] 116
  replace HR:=aa (El.Row.below HR.out eY.out);have vH:Hid (fQ.At z7 (.slice (some ⟨kr,0,none⟩) 1 1) [j7]):=aa (pN (l:=[j7]) aR.out (by show 1<=bn;decide));have r6:Hid (w.heap.size<=z7.heap.size):=aa (ai T7.out.size eY.out.size);go_wp2_with (first | (at_builtin;refine El.Row.tU (E:=fQ) HR.out rfl (.tmp 27) (.tmp 35) rfl rfl rfl vH.out (by show 0<1;decide) (by show 1+1<=1000000;decide) r6.out ?_;intro v9 w9 r1 r3 r2;have R1:=aa r1;have R2:=aa r2;have R3:=aa r3;clear r1 r2 r3) | fail);go_ret
  exact⟨_,[j3,j7],s7,rfl,R1.out,by rw[hl.out];simp only[aL,bg,J3.out,J7.out],(S7.out.below eY.out).own R2.out R3.out (ag _) (R1.out.ge R3.out).2,E7.out.up (by omega),(T7.out.trans (.aH eY.out)).trans (.aH R2.out)⟩
 by_cases h10:u.k=10
 ·have e9:(u.k==9)=false:=beq_eq_false_iff_ne.2 h9;have yC:(u.k==10)=true:=by rw[h10];rfl
  obtain⟨x0,x1,eR⟩:=Jn (BA.out.good X (List.mem_of_getElem? O_.out)).1 (by rw[<-gF.out,h10]);have iA:kd X 1=x1:=by unfold kd;rw[eR];rfl
  have hl:Hid (dM X=[cN (nF 0) (cr X),bL (cr X) (fe (cr x1) (nF 1))]):=aa (by unfold dM;rw[<-gF.out,if_neg h9,if_pos h10,iA]);have yh:=r8.out;rw[eR] at yh;obtain⟨v_,we,e,⟨hq1,hq2,Ec⟩,hc⟩:=yh;injection e with e1 e2 e3;replace e2:ql=2:=e2;subst e1;subst e2;subst e3;obtain⟨qa,rfl,yU,qu⟩:=hc 1 (by simp);replace qu:z3.cell? (qa.add 1)=some (.int .i64 ((idx s3 x1:Nat):Int)):=qu;replace hq1:2<=qc:=hq1;have EZ:=aa yU;have wX:=aa qu;have Ed:qc<=9223372036854775807:=hq2;have IU:Hid (s3[idx s3 x1]?=some x1):=aa (fW (BA.out.FA X (List.mem_of_getElem? O_.out) x1 (by rw[eR];simp)));have G4:Hid (Gd (bL (cr X) (fe (cr x1) (nF 1)))):=aa (HG.out _ (by rw[hl.out];simp))
  have G5:Hid (Gd (fe (cr x1) (nF 1))):=aa (cx G4.out (by simp[bL,fo,F.kids]));have G6:Hid (Gd (cr x1)):=aa (cx G5.out (by simp[fe,fo,F.kids]));have Bc:=BA.out.below jz.out;have CT:=aa Bc;have LW:Hid (cA B k w z4):=aa (Pb.out.trans (cA.aH jz.out));have pQ:=(jz.out.block kq (ae mz.out)).trans mz.out;have ND:w.heap.size<=kq:=by have h1:=T3.out.size;have h2:=qw.out;omega
  have HR:Hid (fQ.Row z4 w.heap.size (.slice (some ⟨kq,0,none⟩) 1 1) [j3]):=aa (oK (l:=[j3]) pQ ND (by show 1<=bn;decide));have SN:Hid (s3.length+5<=900000):=aa (by have:=HM.out;have:=E3.out.len;omega);have pF:g≠kn:=by have h1:=World.block_lt_of_cell? _ _ c0;have h2:=uy;intro h3;change g<_ at h1;omega
  have uA:Hid (NO B k z4 kn):=aa (NO.mM ((jz.out.block k (ae rT.out)).trans rT.out) pF jm.out (by decide));have Sz:=aa (cA.aH (B:=B) (k:=k) jz.out);clear iA hc hq2 Ec yU qu h9 h10 hop Bc pQ ND pF r8;go_upto_region 7 with fail;have iC:Hid (∀ i j,i<15->j<15->i≠j->(fun i=>i+39) i≠(fun i=>i+39) j):=aa (fun i j _ _ h e=>h (bZ e));have iS:Hid (∀ i,i<15->(fun i=>i+39) i<54):=aa (fun i h=>by show i+39<54;omega)
  refine fP.region (by kernel_rfl) [[],[],[],[],[2,3],[],[],[],[7],[7,8],[7,8,9],[2,3,4,6,7,8,9,10],[2,3,4,5,6,7,8,9,10,11],[1,2,3,4,5,6,7,8,9,10,11,12],[1,2,3,4,5,6,7,8,9,10,11,12,13],[0,1,2,3,4,5,6,7,8,9,10,11,12,13,14],[0,1,2,3,4,5,6,7,8,9,10,11,12,13,14,15]] 15 (by kernel_rfl) (by kernel_rfl) (JX B k E L z4 s3 _ 15 (fun i=>i+39) (fun i=>[0,0,0,0,1,0,0,0,0,0,0,1,2,1,0].getD i 0) (Ab B k E [.eqv (.slice (some ⟨kq,0,none⟩) 1 1),.eqv (.pointer (some ⟨k,0,none⟩)),.eqv (.pointer (some ⟨k,0,none⟩)),.eqv (.int .i64 ((i:Nat):Int)),.iW (cr X),.eqv (.pointer (some ⟨k,0,none⟩)),.eqv (.pointer (some ⟨k,0,none⟩)),.eqv (.pointer (some ⟨kn,5,none⟩)),.eqv (.slice (some qa) 2 qc),.eqv (.pointer (some (qa.add 1))),.eqv (.int .i64 ((idx s3 x1:Nat):Int)),.iW (cr x1),.iW (fe (cr x1) (nF 1)),.iW (bL (cr X) (fe (cr x1) (nF 1))),.blk (bL (cr X) (fe (cr x1) (nF 1)))])) (JF.start CT.out) ?_ ?_
  ·rintro d T wc n9 o ⟨s9,hJ⟩ ho hi hd aC cE;have hstep:=fun (v:ak) (s8:List F) (w2:af)=>hJ.step (v:=v) (s':=s8) (w':=w2) (jE (B:=B) (k:=k) (E:=E) _) iC.out (fun i hi=>az (iS.out i hi) (of_decide_eq_true rfl)) n9 hi hd
   have aU:=aa hJ.st;have bU:=aa (hJ.room n9 hi hd (N:=900000) (show s3.length+5<=900000 from by have:=SN.out;omega));have m5:T[5]?=some (.slice (some ⟨kq,0,none⟩) 1 1):=(hJ.gP 5 (by decide)).trans (by rfl);have m0:T[0]?=some (.pointer (some ⟨k,0,none⟩)):=(hJ.gP 0 (by decide)).trans (by rfl);have m1:T[1]?=some (.int .i64 ((i:Nat):Int)):=(hJ.gP 1 (by decide)).trans (by rfl);obtain rfl | rfl | rfl | rfl | rfl | rfl | rfl | rfl | rfl | rfl | rfl | rfl | rfl | rfl | rfl:n9=0\/n9=1\/n9=2\/n9=3\/n9=4\/n9=5\/n9=6\/n9=7\/n9=8\/n9=9\/n9=10\/n9=11\/n9=12\/n9=13\/n9=14:=by omega
   all_goals (injection ho with ho)
   all_goals (subst ho)
   all_goals (try (clear hJ aC cE;refine⟨rfl,fun K9 hK=>?_⟩;have bA:=aa hstep;clear hstep;go_simp;exact hK.out _ _ (bA.out _ _ _ aU.out ((Ext.refl _).up (ah _)) (cA.refl _ _ _) rfl)))
   ·have xh:=hJ.vE 2 41 rfl (by decide) (aC 2 (by rfl)) (fun _ h=>h);have xg:=hJ.vE 3 42 rfl (by decide) (aC 3 (by rfl)) (fun _ h=>h);have ct:=aa hJ.ext;clear hJ aC cE;refine⟨rfl,fun K9 hK=>?_⟩;have bA:=aa hstep;clear hstep;go_simp;refine (ik wc aU.out bU.out i X (ct.out.get O_.out) G2.out).mono ?_;rintro e w8 ⟨i8,s8,rfl,p1,p2,p3,p4⟩;exact hK.out _ _ (bA.out _ _ _ p1 p2 p4 ⟨i8,rfl,p3⟩)
   ·have es:T[6]?=some (.pointer (some ⟨kn,0,none⟩)):=(hJ.gP 6 (by decide)).trans (by rfl);clear hJ aC cE;refine⟨rfl,fun K9 hK=>?_⟩;have bA:=aa hstep;clear hstep;go_simp;exact hK.out _ _ (bA.out _ _ _ aU.out ((Ext.refl _).up (ah _)) (cA.refl _ _ _) rfl)
   ·have Ao:=hJ.vE 7 46 rfl (by decide) (aC 7 (by rfl)) (fun _ h=>h);have iF:=aa hJ.be;have n5:=aq (v:=.slice (some qa) 2 qc) ((iF.out.block kn (ae jm.out) uA.out).trans jm.out) 5 rfl;clear hJ aC cE;refine⟨rfl,fun K9 hK=>?_⟩;have bA:=aa hstep;clear hstep;go_simp;exact hK.out _ _ (bA.out _ _ _ aU.out ((Ext.refl _).up (ah _)) (cA.refl _ _ _) rfl)
   ·have Bm:=hJ.vE 8 47 rfl (by decide) (aC 8 (by rfl)) (fun _ h=>h);clear hJ aC cE;refine⟨rfl,fun K9 hK=>?_⟩;have bA:=aa hstep;clear hstep;go_simp;exact hK.out _ _ (bA.out _ _ _ aU.out ((Ext.refl _).up (ah _)) (cA.refl _ _ _) rfl)
   ·have UM:=hJ.vE 9 48 rfl (by decide) (aC 9 (by rfl)) (fun _ h=>h);have iF:=aa hJ.be;have cq:wc.cell? (qa.add 1)=some (.int .i64 ((idx s3 x1:Nat):Int)):=by rw[cM (w:=z3) (by rw[bX];exact (Sz.out.trans iF.out).block _ (by have h1:=World.block_lt_of_cell? _ _ wX.out;rw[bX] at h1;exact h1) EZ.out.1.1)];exact wX.out
    replace cq:wc.cell? { block:=qa.block,off:=qa.off+1 }=some (.int .i64 ((idx s3 x1:Nat):Int)):=cq;clear hJ aC cE;refine⟨rfl,fun K9 hK=>?_⟩;have bA:=aa hstep;clear hstep;go_simp;exact hK.out _ _ (bA.out _ _ _ aU.out ((Ext.refl _).up (ah _)) (cA.refl _ _ _) rfl)
   ·have Bn:=hJ.vE 6 45 rfl (by decide) (aC 6 (by rfl)) (fun _ h=>h);have IA:=hJ.vE 10 49 rfl (by decide) (aC 10 (by rfl)) (fun _ h=>h);have ct:=aa hJ.ext;clear hJ aC cE;refine⟨rfl,fun K9 hK=>?_⟩;have bA:=aa hstep;clear hstep;go_simp;refine (ik wc aU.out bU.out (idx s3 x1) x1 (ct.out.get IU.out) G6.out).mono ?_;rintro e w8 ⟨i8,s8,rfl,p1,p2,p3,p4⟩;exact hK.out _ _ (bA.out _ _ _ p1 p2 p4 ⟨i8,rfl,p3⟩)
   ·have wG:=hJ.vE 5 44 rfl (by decide) (aC 5 (by rfl)) (fun _ h=>h);obtain⟨i11,nJ,Kc⟩:=hJ.vI 11 50 rfl (by decide) (aC 11 (by rfl)) (fun _ h=>h);clear hJ aC cE;refine⟨rfl,fun K9 hK=>?_⟩;have bA:=aa hstep;clear hstep;go_simp;refine (A9 wc aU.out bU.out i11 _ Kc.out G5.out).mono ?_;rintro e w8 ⟨i8,s8,rfl,p1,p2,p3,p4⟩;exact hK.out _ _ (bA.out _ _ _ p1 p2 p4 ⟨i8,rfl,p3⟩)
   ·have uz:=hJ.vE 1 40 rfl (by decide) (aC 1 (by rfl)) (fun _ h=>h);obtain⟨i4,uK,H4⟩:=hJ.vI 4 43 rfl (by decide) (aC 4 (by rfl)) (fun _ h=>h);obtain⟨i12,Qn,MR⟩:=hJ.vI 12 51 rfl (by decide) (aC 12 (by rfl)) (fun _ h=>h);clear hJ aC cE;refine⟨rfl,fun K9 hK=>?_⟩;have bA:=aa hstep;clear hstep;go_simp;refine (iG wc aU.out bU.out i4 i12 _ _ H4.out MR.out G4.out).mono ?_;rintro e w8 ⟨i8,s8,rfl,p1,p2,p3,p4⟩;exact hK.out _ _ (bA.out _ _ _ p1 p2 p4 ⟨i8,rfl,p3⟩)
   obtain⟨i13,Qm,Mn⟩:=hJ.vI 13 52 rfl (by decide) (aC 13 (by rfl)) (fun _ h=>h);clear hJ aC cE;refine⟨rfl,fun K9 hK=>?_⟩;have bA:=aa hstep;clear hstep;go_simp;have hal:aB wc.heap.size wc (wc.alloc _):=(ax _ _).alloc (ag _) (.cells #[.int .i64 ((i13:Nat):Int)] 116);exact hK.out _ _ (bA.out _ _ _ (aU.out.below hal) ((Ext.refl _).up (ah _)) (.aH hal) ⟨_,i13,rfl,bz wc _,Mn.out⟩)
  rintro T wt ⟨s9,hJ⟩;have a0:=hJ.vE 0 39 rfl (by decide) rfl (fun _ h=>h);have a1:=hJ.vE 1 40 rfl (by decide) rfl (fun _ h=>h);have a2:=hJ.vE 2 41 rfl (by decide) rfl (fun _ h=>h);have a3:=hJ.vE 3 42 rfl (by decide) rfl (fun _ h=>h);obtain⟨i4,a4,H4⟩:=hJ.vI 4 43 rfl (by decide) rfl (fun _ h=>h);have a5:=hJ.vE 5 44 rfl (by decide) rfl (fun _ h=>h);have a6:=hJ.vE 6 45 rfl (by decide) rfl (fun _ h=>h);have a7:=hJ.vE 7 46 rfl (by decide) rfl (fun _ h=>h);have a8:=hJ.vE 8 47 rfl (by decide) rfl (fun _ h=>h);have a9:=hJ.vE 9 48 rfl (by decide) rfl (fun _ h=>h);have yR:=hJ.vE 10 49 rfl (by decide) rfl (fun _ h=>h);obtain⟨i11,yQ,Kc⟩:=hJ.vI 11 50 rfl (by decide) rfl (fun _ h=>h);obtain⟨i12,a12,MR⟩:=hJ.vI 12 51 rfl (by decide) rfl (fun _ h=>h)
  obtain⟨i13,yP,Mn⟩:=hJ.vI 13 52 rfl (by decide) rfl (fun _ h=>h);obtain⟨We,ES,f14⟩:=hJ.val 14 (by decide) rfl;obtain⟨g14,i14,rfl,US,Qi⟩:=(show AI We (bL (cr X) (fe (cr x1) (nF 1))) s9 wt from f14);have ZY:=aa US;have QL:=aa Qi;clear f14 US Qi;have hfr:=hJ.fin (fun i hi=>az (iS.out i hi) (of_decide_eq_true rfl)) rfl (.cons a0 (.cons a1 (.cons a2 (.cons a3 (.cons a4 (.cons a5 (.cons a6 (.cons a7 (.cons a8 (.cons a9 (.cons yR (.cons yQ (.cons a12 (.cons yP (.cons ES .nil)))))))))))))));have aU:=aa hJ.st;have gg:Hid (Ext s3 s9 5):=aa hJ.ext;have gK:=aa hJ.be;clear hJ iC iS a0 a1 a2 a3 a4 a5 a6 a7 a8 a9 yR yQ a12 yP ES;rw[hfr];clear hfr
  simp only[jd,dV,bu,bW,bQ];simp only[bT,cf];replace HR:=aa (gV HR.out gK.out);have vH:Hid (fQ.At wt (.slice (some ⟨g14,0,none⟩) 1 1) [i14]):=aa (pN (l:=[i14]) ZY.out (by show 1<=bn;decide));have r6:Hid (w.heap.size<=wt.heap.size):=aa (ai LW.out.size gK.out.size);replace J3:=aa (gg.out.get J3.out);go_wp2_with (first | (at_builtin;refine El.Row.tU (E:=fQ) HR.out rfl (.tmp 39) (.tmp 53) rfl rfl rfl vH.out (by show 0<1;decide) (by show 1+1<=1000000;decide) r6.out ?_;intro v9 w9 r1 r3 r2;have R1:=aa r1;have R2:=aa r2;have R3:=aa r3;clear r1 r2 r3) | fail);go_ret
  exact⟨_,[j3,i14],s9,rfl,R1.out,by rw[hl.out];simp only[aL,bg,J3.out,QL.out],aU.out.own R2.out R3.out (ag _) (R1.out.ge R3.out).2,E3.out.trans gg.out (by omega),(LW.out.trans gK.out).trans (.aH R2.out)⟩
 have e9:(u.k==9)=false:=beq_eq_false_iff_ne.2 h9;have yC:(u.k==10)=false:=beq_eq_false_iff_ne.2 h10;have hl:Hid (dM X=[cN (nF 0) (cr X)]):=aa (by unfold dM;rw[<-gF.out,if_neg h9,if_neg h10]);clear h9 h10 hop;go_wp2_with fail;go_ret;refine⟨_,[j3],s3,rfl,oK (l:=[j3]) ?_ ?_ (by show 1<=bn;decide),by rw[hl.out];simp only[aL,bg,J3.out],(S3.out.own (gu.out.trans (jz.out.mono gu.out.size)) rfl qw.out (az (ae mz.out) jz.out.size)),E3.out.up (by omega),Pb.out.trans (cA.aH jz.out)⟩
 ·exact (jz.out.block kq (ae mz.out)).trans mz.out
 have h1:=T3.out.size;have h2:=qw.out;omega
theorem St.om {B k:Nat} {E:Nat->Prop} {L s:List F} {w:af} (h:St B k E L s w):B<=w.heap.size/\k<w.heap.size:=by
 obtain⟨km,v,us,M,h⟩:=h;exact⟨h.sz,ae h.bk⟩
theorem St.app {B k B0:Nat} {E:Nat->Prop} {L s:List F} {w w':af} {v:ak} {l:List Nat} (h:St B k (fun g=>E g\/v.ownBlock=some g) L s w) (hR:fQ.Row w B0 v l) (hB:B<=B0) (hg:w.grownBy w' v.ownBlock):St B k E L s w':=by
 have hs:=h;obtain⟨km,v0,us,M,hU⟩:=hs;refine h.C6 hg (fun g hr=>?_) (fun g hg=>.inl (.inl hg)) (fun g he=>az (hU.ex g (.inl he)) hg.size);obtain⟨c,hc,h32⟩:=hR.n32 g hr;exact⟨.inr hr,ai hB (hR.ge hr).1,c,hc,h32⟩
theorem cA.app {B k:Nat} {w0 w w':af} {r:Option Nat} (h:cA B k w0 w) (hg:w.grownBy w' r) (hr:∀ g,r=some g->w0.heap.size<=g) (hk:k<w0.heap.size):cA B k w0 w':=by
 have ne:∀ g,g<w0.heap.size->some g≠r:=fun g hl e=>by have:=hr g e.symm;omega
 refine⟨hg.os.trans h.os,hg.tape.trans h.tape,hg.output.trans h.output,ai h.size hg.size,fun g hl hn=>(hg.block g (az hl h.size) (ne g hl)).trans (h.block g hl hn),fun g hl ho=>?_⟩;refine h.row g hl ?_;obtain⟨a1,a,v,a2,a3⟩:=ho;exact⟨a1,a,v,by rw[<-hg.block k (az hk h.size) (ne k hk)];exact a2,a3⟩
def jt (B k:Nat) (E:Nat->Prop) (L s:List F) (ts:List F) (n:Nat) (w:af) (e:Ending) (w':af):Prop:=∃ v ids s',e=.returned v/\fQ.At w' v ids/\ids.map (fun i=>s'[i]?)=ts.map some/\St B k E L s' w'/\Ext s s' n/\cA B k w w'
theorem qB.UI {B k:Nat} {E:Nat->Prop} {L s:List F} {ts:List F} {n:Nat} {w:af} {e:Ending} {w':af} (h:qB B k E L s ts n w e w'):jt B k E L s ts n w e w':=by
 obtain⟨v,s',h1,⟨ids,h2,h3⟩,h4,h5,h6⟩:=h;exact⟨v,ids,s',h1,h2.FB,h3,h4,h5,h6⟩
attribute [local go_sem] cL cK cJ cI
theorem qQ {B k:Nat} {E:Nat->Prop} {L s:List F} (w:af) (h:St B k E L s w) (hm:s.length+2<=900000) (i:Nat) (U:F) (hi:s[i]?=some U) (hg:Gd (cN (nF 0) U)) (ka:Nat) (ha:w.heap[ka]?=some (.cells #[.pointer (some ⟨k,0,none⟩)] 112 (0,0))) :
  aV aj 170 #[.int .i64 ((i:Nat):Int),.pointer (some ⟨ka,0,none⟩)] w (fj B k E L s (cN (nF 0) U) 2 w):=by
 have HS:=aa h;have HM:=aa hm;have HG:=aa hg;have pS:=aa ha;have Mh:=aa hi;clear h hm hg ha hi;go_enter Tryz.func170,Tryz.ntmps170;go_upto_region 1 with fail;have iC:Hid (∀ i j,i<5->j<5->i≠j->(fun i=>i+4) i≠(fun i=>i+4) j):=aa (fun i j _ _ h e=>h (bZ e));have iS:Hid (∀ i,i<5->(fun i=>i+4) i<9):=aa (fun i h=>by show i+4<9;omega);refine fP.region (by kernel_rfl) [[],[],[1],[],[0,1,2,3],[0,1,2,3,4]] 5 (by kernel_rfl) (by kernel_rfl) (JX B k E L w s _ 5 (fun i=>i+4) (fun i=>[0,0,1,0,1].getD i 0) (Ab B k E [.eqv (.pointer (some ⟨k,0,none⟩)),.eqv (.pointer (some ⟨k,0,none⟩)),.iW (nF 0),.eqv (.int .i64 ((i:Nat):Int)),.iW (cN (nF 0) U)])) (JF.start HS.out) ?_ ?_
 ·rintro d T wc n9 o ⟨s9,hJ⟩ ho hi hd aC cE;have hstep:=fun (v:ak) (s8:List F) (w2:af)=>hJ.step (v:=v) (s':=s8) (w':=w2) (jE (B:=B) (k:=k) (E:=E) _) iC.out (fun i hi=>az (iS.out i hi) (of_decide_eq_true rfl)) n9 hi hd
  have aU:=aa hJ.st;have bU:=aa (hJ.room n9 hi hd (N:=900000) (show s.length+2<=900000 from by have:=HM.out;omega));have m1:T[1]?=some (.pointer (some ⟨ka,0,none⟩)):=(hJ.gP 1 (by decide)).trans (by rfl);have bB:=(hJ.be.block ka (ae pS.out) (NO.cells pS.out (by decide))).trans pS.out;have PU:=aq (v:=.pointer (some ⟨k,0,none⟩)) bB 0 rfl;clear bB;have m0:T[0]?=some (.int .i64 ((i:Nat):Int)):=(hJ.gP 0 (by decide)).trans (by rfl);obtain rfl | rfl | rfl | rfl | rfl:n9=0\/n9=1\/n9=2\/n9=3\/n9=4:=by omega
  all_goals (injection ho with ho)
  all_goals (subst ho)
  all_goals (try (clear hJ aC cE;refine⟨rfl,fun K9 hK=>?_⟩;have bA:=aa hstep;clear hstep;go_simp;exact hK.out _ _ (bA.out _ _ _ aU.out ((Ext.refl _).up (ah _)) (cA.refl _ _ _) rfl)))
  ·have e5:=hJ.vE 1 5 rfl (by decide) (aC 1 (by rfl)) (fun _ h=>h);clear hJ aC cE;refine⟨rfl,fun K9 hK=>?_⟩;have bA:=aa hstep;clear hstep;go_simp;refine (mJ wc aU.out bU.out 0 (by decide) (by decide)).mono ?_;rintro e w8 ⟨i8,s8,rfl,p1,p2,p3,p4⟩;exact hK.out _ _ (bA.out _ _ _ p1 p2 p4 ⟨i8,rfl,p3⟩)
  have e4:=hJ.vE 0 4 rfl (by decide) (aC 0 (by rfl)) (fun _ h=>h);obtain⟨i2,e6,H2⟩:=hJ.vI 2 6 rfl (by decide) (aC 2 (by rfl)) (fun _ h=>h);have e7:=hJ.vE 3 7 rfl (by decide) (aC 3 (by rfl)) (fun _ h=>h);have ct:=aa hJ.ext;clear hJ aC cE;refine⟨rfl,fun K9 hK=>?_⟩;have bA:=aa hstep;clear hstep;go_simp;refine (tg wc aU.out bU.out i2 i _ _ H2.out (ct.out.get Mh.out) HG.out).mono ?_;rintro e w8 ⟨i8,s8,rfl,p1,p2,p3,p4⟩;exact hK.out _ _ (bA.out _ _ _ p1 p2 p4 ⟨i8,rfl,p3⟩)
 rintro T wt ⟨s9,hJ⟩;have a0:=hJ.vE 0 4 rfl (by decide) rfl (fun _ h=>h);have a1:=hJ.vE 1 5 rfl (by decide) rfl (fun _ h=>h);obtain⟨i2,a2,H2⟩:=hJ.vI 2 6 rfl (by decide) rfl (fun _ h=>h);have a3:=hJ.vE 3 7 rfl (by decide) rfl (fun _ h=>h);obtain⟨i4,a4,H4⟩:=hJ.vI 4 8 rfl (by decide) rfl (fun _ h=>h);have hfr:=hJ.fin (fun i hi=>az (iS.out i hi) (of_decide_eq_true rfl)) rfl (.cons a0 (.cons a1 (.cons a2 (.cons a3 (.cons a4 .nil)))));have aU:=aa hJ.st;have gg:Hid (Ext s s9 2):=aa hJ.ext;have gK:=aa hJ.be;clear hJ iC iS a0 a1 a2 a3 a4;rw[hfr];clear hfr;simp only[jd,dV,bu,bW,bQ];simp only[bT,cf];go_wp2_with fail;go_ret
 exact⟨i4,s9,rfl,aU.out,gg.out,H4.out,gK.out⟩
theorem vn {B k:Nat} {E:Nat->Prop} {L s:List F} (w:af) (h:St B k E L s w) (hm:s.length+2<=900000) (i:Nat) (U:F) (hi:s[i]?=some U) (hg:Gd (cN U (nF 0))) (ka:Nat) (ha:w.heap[ka]?=some (.cells #[.pointer (some ⟨k,0,none⟩)] 112 (0,0))) :
  aV aj 171 #[.int .i64 ((i:Nat):Int),.pointer (some ⟨ka,0,none⟩)] w (fj B k E L s (cN U (nF 0)) 2 w):=by
 have HS:=aa h;have HM:=aa hm;have HG:=aa hg;have pS:=aa ha;have Mh:=aa hi;clear h hm hg ha hi;go_enter Tryz.func171,Tryz.ntmps171;go_upto_region 1 with fail;have iC:Hid (∀ i j,i<5->j<5->i≠j->(fun i=>i+4) i≠(fun i=>i+4) j):=aa (fun i j _ _ h e=>h (bZ e));have iS:Hid (∀ i,i<5->(fun i=>i+4) i<9):=aa (fun i h=>by show i+4<9;omega);refine fP.region (by kernel_rfl) [[],[],[],[2],[0,1,2,3],[0,1,2,3,4]] 5 (by kernel_rfl) (by kernel_rfl) (JX B k E L w s _ 5 (fun i=>i+4) (fun i=>[0,0,0,1,1].getD i 0) (Ab B k E [.eqv (.pointer (some ⟨k,0,none⟩)),.eqv (.int .i64 ((i:Nat):Int)),.eqv (.pointer (some ⟨k,0,none⟩)),.iW (nF 0),.iW (cN U (nF 0))])) (JF.start HS.out) ?_ ?_
 ·rintro d T wc n9 o ⟨s9,hJ⟩ ho hi hd aC cE;have hstep:=fun (v:ak) (s8:List F) (w2:af)=>hJ.step (v:=v) (s':=s8) (w':=w2) (jE (B:=B) (k:=k) (E:=E) _) iC.out (fun i hi=>az (iS.out i hi) (of_decide_eq_true rfl)) n9 hi hd
  have aU:=aa hJ.st;have bU:=aa (hJ.room n9 hi hd (N:=900000) (show s.length+2<=900000 from by have:=HM.out;omega));have m1:T[1]?=some (.pointer (some ⟨ka,0,none⟩)):=(hJ.gP 1 (by decide)).trans (by rfl);have bB:=(hJ.be.block ka (ae pS.out) (NO.cells pS.out (by decide))).trans pS.out;have PU:=aq (v:=.pointer (some ⟨k,0,none⟩)) bB 0 rfl;clear bB;have m0:T[0]?=some (.int .i64 ((i:Nat):Int)):=(hJ.gP 0 (by decide)).trans (by rfl);obtain rfl | rfl | rfl | rfl | rfl:n9=0\/n9=1\/n9=2\/n9=3\/n9=4:=by omega
  all_goals (injection ho with ho)
  all_goals (subst ho)
  all_goals (try (clear hJ aC cE;refine⟨rfl,fun K9 hK=>?_⟩;have bA:=aa hstep;clear hstep;go_simp;exact hK.out _ _ (bA.out _ _ _ aU.out ((Ext.refl _).up (ah _)) (cA.refl _ _ _) rfl)))
  ·have e6:=hJ.vE 2 6 rfl (by decide) (aC 2 (by rfl)) (fun _ h=>h);clear hJ aC cE;refine⟨rfl,fun K9 hK=>?_⟩;have bA:=aa hstep;clear hstep;go_simp;refine (mJ wc aU.out bU.out 0 (by decide) (by decide)).mono ?_;rintro e w8 ⟨i8,s8,rfl,p1,p2,p3,p4⟩;exact hK.out _ _ (bA.out _ _ _ p1 p2 p4 ⟨i8,rfl,p3⟩)
  have e4:=hJ.vE 0 4 rfl (by decide) (aC 0 (by rfl)) (fun _ h=>h);have e5:=hJ.vE 1 5 rfl (by decide) (aC 1 (by rfl)) (fun _ h=>h);obtain⟨i3,e7,H3⟩:=hJ.vI 3 7 rfl (by decide) (aC 3 (by rfl)) (fun _ h=>h);have ct:=aa hJ.ext;clear hJ aC cE;refine⟨rfl,fun K9 hK=>?_⟩;have bA:=aa hstep;clear hstep;go_simp;refine (tg wc aU.out bU.out i i3 _ _ (ct.out.get Mh.out) H3.out HG.out).mono ?_;rintro e w8 ⟨i8,s8,rfl,p1,p2,p3,p4⟩;exact hK.out _ _ (bA.out _ _ _ p1 p2 p4 ⟨i8,rfl,p3⟩)
 rintro T wt ⟨s9,hJ⟩;have a0:=hJ.vE 0 4 rfl (by decide) rfl (fun _ h=>h);have a1:=hJ.vE 1 5 rfl (by decide) rfl (fun _ h=>h);have a2:=hJ.vE 2 6 rfl (by decide) rfl (fun _ h=>h);obtain⟨i3,a3,H3⟩:=hJ.vI 3 7 rfl (by decide) rfl (fun _ h=>h);obtain⟨i4,a4,H4⟩:=hJ.vI 4 8 rfl (by decide) rfl (fun _ h=>h);have hfr:=hJ.fin (fun i hi=>az (iS.out i hi) (of_decide_eq_true rfl)) rfl (.cons a0 (.cons a1 (.cons a2 (.cons a3 (.cons a4 .nil)))));have aU:=aa hJ.st;have gg:Hid (Ext s s9 2):=aa hJ.ext;have gK:=aa hJ.be;clear hJ iC iS a0 a1 a2 a3 a4;rw[hfr];clear hfr;simp only[jd,dV,bu,bW,bQ];simp only[bT,cf];go_wp2_with fail;go_ret
 exact⟨i4,s9,rfl,aU.out,gg.out,H4.out,gK.out⟩
theorem wO {B k:Nat} {E:Nat->Prop} {L s:List F} (w:af) (h:St B k E L s w) (hm:s.length+3<=900000) (i j l:Nat) (U V X:F) (hi:s[i]?=some U) (hj:s[j]?=some V) (hl:s[l]?=some X) (hg:Gd (eZ [bH U,bH V,X])) (ka:Nat) (ha:w.heap[ka]?=some (.cells #[.pointer (some ⟨k,0,none⟩)] 112 (0,0))) :
  aV aj 172 #[.int .i64 ((i:Nat):Int),.int .i64 ((j:Nat):Int),.int .i64 ((l:Nat):Int),.pointer (some ⟨ka,0,none⟩)] w (fj B k E L s (eZ [bH U,bH V,X]) 3 w):=by
 have HS:=aa h;have HM:=aa hm;have HG:=aa hg;have pS:=aa ha;have Mh:=aa hi;have SW:=aa hj;have Zl:=aa hl;have G1:=aa (cx HG.out (x:=bH U) (by simp[eZ,bH,bL,cN,fe,fo,F.kids]));have G2:=aa (cx HG.out (x:=bH V) (by simp[eZ,bH,bL,cN,fe,fo,F.kids]));clear h hm hg ha hi hj hl;go_enter Tryz.func172,Tryz.ntmps172;go_upto_region 1 with fail;have iC:Hid (∀ i j,i<10->j<10->i≠j->(fun i=>i+8) i≠(fun i=>i+8) j):=aa (fun i j _ _ h e=>h (bZ e));have iS:Hid (∀ i,i<10->(fun i=>i+8) i<18):=aa (fun i h=>by show i+8<18;omega)
 refine fP.region (by kernel_rfl) [[],[],[],[1,2],[],[],[1,2,3,4,5],[],[1,2,3,4,5,6,7],[0,1,2,3,4,5,6,7,8],[0,1,2,3,4,5,6,7,8,9]] 10 (by kernel_rfl) (by kernel_rfl) (JX B k E L w s _ 10 (fun i=>i+8) (fun i=>[0,0,0,1,0,0,1,0,0,1].getD i 0) (Ab B k E [.eqv (.pointer (some ⟨k,0,none⟩)),.eqv (.pointer (some ⟨k,0,none⟩)),.eqv (.int .i64 ((i:Nat):Int)),.iW (bH U),.eqv (.pointer (some ⟨k,0,none⟩)),.eqv (.int .i64 ((j:Nat):Int)),.iW (bH V),.eqv (.int .i64 ((l:Nat):Int)),.xW [bH U,bH V,X],.iW (eZ [bH U,bH V,X])])) (JF.start HS.out) ?_ ?_
 ·rintro d T wc n9 o ⟨s9,hJ⟩ ho hi hd aC cE;have hstep:=fun (v:ak) (s8:List F) (w2:af)=>hJ.step (v:=v) (s':=s8) (w':=w2) (jE (B:=B) (k:=k) (E:=E) _) iC.out (fun i hi=>az (iS.out i hi) (of_decide_eq_true rfl)) n9 hi hd
  have aU:=aa hJ.st;have bU:=aa (hJ.room n9 hi hd (N:=900000) (show s.length+3<=900000 from by have:=HM.out;omega));have m3:T[3]?=some (.pointer (some ⟨ka,0,none⟩)):=(hJ.gP 3 (by decide)).trans (by rfl);have bB:=(hJ.be.block ka (ae pS.out) (NO.cells pS.out (by decide))).trans pS.out;have PU:=aq (v:=.pointer (some ⟨k,0,none⟩)) bB 0 rfl;clear bB;have m0:T[0]?=some (.int .i64 ((i:Nat):Int)):=(hJ.gP 0 (by decide)).trans (by rfl);have m1:T[1]?=some (.int .i64 ((j:Nat):Int)):=(hJ.gP 1 (by decide)).trans (by rfl);have m2:T[2]?=some (.int .i64 ((l:Nat):Int)):=(hJ.gP 2 (by decide)).trans (by rfl);obtain rfl | rfl | rfl | rfl | rfl | rfl | rfl | rfl | rfl | rfl:n9=0\/n9=1\/n9=2\/n9=3\/n9=4\/n9=5\/n9=6\/n9=7\/n9=8\/n9=9:=by omega
  all_goals (injection ho with ho)
  all_goals (subst ho)
  all_goals (try (clear hJ aC cE;refine⟨rfl,fun K9 hK=>?_⟩;have bA:=aa hstep;clear hstep;go_simp;exact hK.out _ _ (bA.out _ _ _ aU.out ((Ext.refl _).up (ah _)) (cA.refl _ _ _) rfl)))
  ·have e9:=hJ.vE 1 9 rfl (by decide) (aC 1 (by rfl)) (fun _ h=>h);have yC:=hJ.vE 2 10 rfl (by decide) (aC 2 (by rfl)) (fun _ h=>h);have ct:=aa hJ.ext;clear hJ aC cE;refine⟨rfl,fun K9 hK=>?_⟩;have bA:=aa hstep;clear hstep;go_simp;refine (sZ wc aU.out bU.out i U (ct.out.get Mh.out) G1.out).mono ?_;rintro e w8 ⟨i8,s8,rfl,p1,p2,p3,p4⟩;exact hK.out _ _ (bA.out _ _ _ p1 p2 p4 ⟨i8,rfl,p3⟩)
  ·have Qp:=hJ.vE 4 12 rfl (by decide) (aC 4 (by rfl)) (fun _ h=>h);have Ss:=hJ.vE 5 13 rfl (by decide) (aC 5 (by rfl)) (fun _ h=>h);have ct:=aa hJ.ext;clear hJ aC cE;refine⟨rfl,fun K9 hK=>?_⟩;have bA:=aa hstep;clear hstep;go_simp;refine (sZ wc aU.out bU.out j V (ct.out.get SW.out) G2.out).mono ?_;rintro e w8 ⟨i8,s8,rfl,p1,p2,p3,p4⟩;exact hK.out _ _ (bA.out _ _ _ p1 p2 p4 ⟨i8,rfl,p3⟩)
  ·obtain⟨i3,IB,H3⟩:=hJ.vI 3 11 rfl (by decide) (aC 3 (by rfl)) (fun _ h=>h);obtain⟨i6,Sr,H6⟩:=hJ.vI 6 14 rfl (by decide) (aC 6 (by rfl)) (fun _ h=>h);have MH:=hJ.vE 7 15 rfl (by decide) (aC 7 (by rfl)) (fun _ h=>h);have ct:=aa hJ.ext;clear hJ aC cE;refine⟨rfl,fun K9 hK=>?_⟩;have bA:=aa hstep;clear hstep;go_simp;have hal:aB wc.heap.size wc (wc.alloc _):=(ax _ _).alloc (ag _) (.cells #[.int .i64 ((i3:Nat):Int),.int .i64 ((i6:Nat):Int),.int .i64 ((l:Nat):Int)] 116)
   exact hK.out _ _ (bA.out _ _ _ (aU.out.below hal) ((Ext.refl _).up (ah _)) (.aH hal) ⟨[i3,i6,l],IL.block (l:=[i3,i6,l]) (cs:=[.int .i64 ((i3:Nat):Int),.int .i64 ((i6:Nat):Int),.int .i64 ((l:Nat):Int)]) (show (wc.alloc (.cells #[.int .i64 ((i3:Nat):Int),.int .i64 ((i6:Nat):Int),.int .i64 ((l:Nat):Int)] 116)).heap[wc.heap.size]?=some (.cells [.int .i64 ((i3:Nat):Int),.int .i64 ((i6:Nat):Int),.int .i64 ((l:Nat):Int)].toArray 116 (0,0)) from bz wc _) (by decide) (aU.out.fresh (ag _)) (by show 3<=bn;decide) rfl,by simp only[aL,bg,H3.out,H6.out,ct.out.get Zl.out]⟩)
  have e8:=hJ.vE 0 8 rfl (by decide) (aC 0 (by rfl)) (fun _ h=>h);obtain⟨v8,JK,f8⟩:=hJ.val 8 (by decide) (aC 8 (by rfl));obtain⟨l8,Ag,h8⟩:=(show pW B k E v8 [bH U,bH V,X] s9 wc from f8);obtain⟨Wp,Wq,g8,-⟩:=id Ag;rw[g8] at JK Ag;replace JK:T[16]?=_:=JK;have A8:=aa Ag;have H8:=aa h8;clear f8 Ag h8 g8;clear hJ aC cE;refine⟨rfl,fun K9 hK=>?_⟩;have bA:=aa hstep;clear hstep;go_simp;refine (kj wc aU.out bU.out _ l8 A8.out [bH U,bH V,X] H8.out HG.out).mono ?_;rintro e w8 ⟨i8,s8,rfl,p1,p2,p3,p4⟩;exact hK.out _ _ (bA.out _ _ _ p1 p2 p4 ⟨i8,rfl,p3⟩)
 rintro T wt ⟨s9,hJ⟩;have a0:=hJ.vE 0 8 rfl (by decide) rfl (fun _ h=>h);have a1:=hJ.vE 1 9 rfl (by decide) rfl (fun _ h=>h);have a2:=hJ.vE 2 10 rfl (by decide) rfl (fun _ h=>h);obtain⟨i3,a3,H3⟩:=hJ.vI 3 11 rfl (by decide) rfl (fun _ h=>h);have a4:=hJ.vE 4 12 rfl (by decide) rfl (fun _ h=>h);have a5:=hJ.vE 5 13 rfl (by decide) rfl (fun _ h=>h);obtain⟨i6,a6,H6⟩:=hJ.vI 6 14 rfl (by decide) rfl (fun _ h=>h);have a7:=hJ.vE 7 15 rfl (by decide) rfl (fun _ h=>h);obtain⟨v8,a8,f8⟩:=hJ.val 8 (by decide) rfl;obtain⟨l8,Ag,h8⟩:=(show pW B k E v8 [bH U,bH V,X] s9 wt from f8);have A8:=aa Ag;clear f8 Ag h8;obtain⟨i9,a9,H9⟩:=hJ.vI 9 17 rfl (by decide) rfl (fun _ h=>h)
 have hfr:=hJ.fin (fun i hi=>az (iS.out i hi) (of_decide_eq_true rfl)) rfl (.cons a0 (.cons a1 (.cons a2 (.cons a3 (.cons a4 (.cons a5 (.cons a6 (.cons a7 (.cons a8 (.cons a9 .nil))))))))));have aU:=aa hJ.st;have gg:Hid (Ext s s9 3):=aa hJ.ext;have gK:=aa hJ.be;clear hJ iC iS a0 a1 a2 a3 a4 a5 a6 a7 a8 a9;rw[hfr];clear hfr;simp only[jd,dV,bu,bW,bQ];simp only[bT,cf];go_wp2_with fail;go_ret;exact⟨i9,s9,rfl,aU.out,gg.out,H9.out,gK.out⟩
theorem Ji {B k:Nat} {E:Nat->Prop} {L s:List F} (w:af) (h:St B k E L s w) (hm:s.length+5<=900000) (i j q:Nat) (U V X:F) (hi:s[i]?=some U) (hj:s[j]?=some V) (hq:s[q]?=some X) (hg:Gd (eZ [bH (bL U (nF 1)),bL X V])) (ka kb:Nat) (ha:w.heap[ka]?=some (.cells #[.pointer (some ⟨k,0,none⟩)] 112 (0,0))) (hb:w.heap[kb]?=some (.cells #[.int .i64 ((q:Nat):Int)] 116 (0,0))) :
  aV aj 173 #[.int .i64 ((i:Nat):Int),.int .i64 ((j:Nat):Int),.pointer (some ⟨ka,0,none⟩),.pointer (some ⟨kb,0,none⟩)] w (fj B k E L s (eZ [bH (bL U (nF 1)),bL X V]) 5 w):=by
 have HS:=aa h;have HM:=aa hm;have HG:=aa hg;have pS:=aa ha;have oP:=aa hb;have Mh:=aa hi;have SW:=aa hj;have Zk:=aa hq;have G1:=aa (cx HG.out (x:=bH (bL U (nF 1))) (by simp[eZ,bH,bL,cN,fe,fo,F.kids]));have G2:=aa (cx HG.out (x:=bL X V) (by simp[eZ,bH,bL,cN,fe,fo,F.kids]));have G3:=aa (cx (cx HG.out (x:=bH (bL U (nF 1))) (by simp[eZ,bH,bL,cN,fe,fo,F.kids])) (x:=bL U (nF 1)) (by simp[eZ,bH,bL,cN,fe,fo,F.kids]));clear h hm hg ha hb hi hj hq;go_enter Tryz.func173,Tryz.ntmps173;go_upto_region 1 with fail;have iC:Hid (∀ i j,i<14->j<14->i≠j->(fun i=>i+7) i≠(fun i=>i+7) j):=aa (fun i j _ _ h e=>h (bZ e))
 have iS:Hid (∀ i,i<14->(fun i=>i+7) i<21):=aa (fun i h=>by show i+7<21;omega)
 refine fP.region (by kernel_rfl) [[],[],[],[],[],[4],[2,3,4,5],[1,2,3,4,5,6],[],[],[],[1,2,3,4,5,6,7,8,9,10],[1,2,3,4,5,6,7,8,9,10,11],[0,1,2,3,4,5,6,7,8,9,10,11,12],[0,1,2,3,4,5,6,7,8,9,10,11,12,13]] 14 (by kernel_rfl) (by kernel_rfl) (JX B k E L w s _ 14 (fun i=>i+7) (fun i=>[0,0,0,0,0,1,1,1,0,0,0,1,0,1].getD i 0) (Ab B k E [.eqv (.pointer (some ⟨k,0,none⟩)),.eqv (.pointer (some ⟨k,0,none⟩)),.eqv (.pointer (some ⟨k,0,none⟩)),.eqv (.int .i64 ((i:Nat):Int)),.eqv (.pointer (some ⟨k,0,none⟩)),.iW (nF 1),.iW (bL U (nF 1)),.iW (bH (bL U (nF 1))),.eqv (.pointer (some ⟨k,0,none⟩)),.eqv (.int .i64 ((q:Nat):Int)),.eqv (.int .i64 ((j:Nat):Int)),.iW (bL X V),.xW [bH (bL U (nF 1)),bL X V],.iW (eZ [bH (bL U (nF 1)),bL X V])])) (JF.start HS.out) ?_ ?_
 ·rintro d T wc n9 o ⟨s9,hJ⟩ ho hi hd aC cE;have hstep:=fun (v:ak) (s8:List F) (w2:af)=>hJ.step (v:=v) (s':=s8) (w':=w2) (jE (B:=B) (k:=k) (E:=E) _) iC.out (fun i hi=>az (iS.out i hi) (of_decide_eq_true rfl)) n9 hi hd
  have aU:=aa hJ.st;have bU:=aa (hJ.room n9 hi hd (N:=900000) (show s.length+5<=900000 from by have:=HM.out;omega));have m2:T[2]?=some (.pointer (some ⟨ka,0,none⟩)):=(hJ.gP 2 (by decide)).trans (by rfl);have bB:=(hJ.be.block ka (ae pS.out) (NO.cells pS.out (by decide))).trans pS.out;have PU:=aq (v:=.pointer (some ⟨k,0,none⟩)) bB 0 rfl;clear bB;have m0:T[0]?=some (.int .i64 ((i:Nat):Int)):=(hJ.gP 0 (by decide)).trans (by rfl);have m3:T[3]?=some (.pointer (some ⟨kb,0,none⟩)):=(hJ.gP 3 (by decide)).trans (by rfl);have bB:=(hJ.be.block kb (ae oP.out) (NO.cells oP.out (by decide))).trans oP.out;have Wn:=aq (v:=.int .i64 ((q:Nat):Int)) bB 0 rfl;clear bB;have m1:T[1]?=some (.int .i64 ((j:Nat):Int)):=(hJ.gP 1 (by decide)).trans (by rfl)
  obtain rfl | rfl | rfl | rfl | rfl | rfl | rfl | rfl | rfl | rfl | rfl | rfl | rfl | rfl:n9=0\/n9=1\/n9=2\/n9=3\/n9=4\/n9=5\/n9=6\/n9=7\/n9=8\/n9=9\/n9=10\/n9=11\/n9=12\/n9=13:=by omega
  all_goals (injection ho with ho)
  all_goals (subst ho)
  all_goals (try (clear hJ aC cE;refine⟨rfl,fun K9 hK=>?_⟩;have bA:=aa hstep;clear hstep;go_simp;exact hK.out _ _ (bA.out _ _ _ aU.out ((Ext.refl _).up (ah _)) (cA.refl _ _ _) rfl)))
  ·have IB:=hJ.vE 4 11 rfl (by decide) (aC 4 (by rfl)) (fun _ h=>h);clear hJ aC cE;refine⟨rfl,fun K9 hK=>?_⟩;have bA:=aa hstep;clear hstep;go_simp;refine (mJ wc aU.out bU.out 1 (by decide) (by decide)).mono ?_;rintro e w8 ⟨i8,s8,rfl,p1,p2,p3,p4⟩;exact hK.out _ _ (bA.out _ _ _ p1 p2 p4 ⟨i8,rfl,p3⟩)
  ·have e9:=hJ.vE 2 9 rfl (by decide) (aC 2 (by rfl)) (fun _ h=>h);have yC:=hJ.vE 3 10 rfl (by decide) (aC 3 (by rfl)) (fun _ h=>h);obtain⟨i5,Qp,H5⟩:=hJ.vI 5 12 rfl (by decide) (aC 5 (by rfl)) (fun _ h=>h);have ct:=aa hJ.ext;clear hJ aC cE;refine⟨rfl,fun K9 hK=>?_⟩;have bA:=aa hstep;clear hstep;go_simp;refine (iG wc aU.out bU.out i i5 U (nF 1) (ct.out.get Mh.out) H5.out G3.out).mono ?_;rintro e w8 ⟨i8,s8,rfl,p1,p2,p3,p4⟩;exact hK.out _ _ (bA.out _ _ _ p1 p2 p4 ⟨i8,rfl,p3⟩)
  ·have e8:=hJ.vE 1 8 rfl (by decide) (aC 1 (by rfl)) (fun _ h=>h);obtain⟨i6,Ss,H6⟩:=hJ.vI 6 13 rfl (by decide) (aC 6 (by rfl)) (fun _ h=>h);clear hJ aC cE;refine⟨rfl,fun K9 hK=>?_⟩;have bA:=aa hstep;clear hstep;go_simp;refine (sZ wc aU.out bU.out i6 _ H6.out G1.out).mono ?_;rintro e w8 ⟨i8,s8,rfl,p1,p2,p3,p4⟩;exact hK.out _ _ (bA.out _ _ _ p1 p2 p4 ⟨i8,rfl,p3⟩)
  ·have MH:=hJ.vE 8 15 rfl (by decide) (aC 8 (by rfl)) (fun _ h=>h);have JK:=hJ.vE 9 16 rfl (by decide) (aC 9 (by rfl)) (fun _ h=>h);have OG:=hJ.vE 10 17 rfl (by decide) (aC 10 (by rfl)) (fun _ h=>h);have ct:=aa hJ.ext;clear hJ aC cE;refine⟨rfl,fun K9 hK=>?_⟩;have bA:=aa hstep;clear hstep;go_simp;refine (iG wc aU.out bU.out q j X V (ct.out.get Zk.out) (ct.out.get SW.out) G2.out).mono ?_;rintro e w8 ⟨i8,s8,rfl,p1,p2,p3,p4⟩;exact hK.out _ _ (bA.out _ _ _ p1 p2 p4 ⟨i8,rfl,p3⟩)
  ·obtain⟨i7,Sr,H7⟩:=hJ.vI 7 14 rfl (by decide) (aC 7 (by rfl)) (fun _ h=>h);obtain⟨i11,OF,Kc⟩:=hJ.vI 11 18 rfl (by decide) (aC 11 (by rfl)) (fun _ h=>h);clear hJ aC cE;refine⟨rfl,fun K9 hK=>?_⟩;have bA:=aa hstep;clear hstep;go_simp;have hal:aB wc.heap.size wc (wc.alloc _):=(ax _ _).alloc (ag _) (.cells #[.int .i64 ((i7:Nat):Int),.int .i64 ((i11:Nat):Int)] 116)
   exact hK.out _ _ (bA.out _ _ _ (aU.out.below hal) ((Ext.refl _).up (ah _)) (.aH hal) ⟨[i7,i11],IL.block (l:=[i7,i11]) (cs:=[.int .i64 ((i7:Nat):Int),.int .i64 ((i11:Nat):Int)]) (show (wc.alloc (.cells #[.int .i64 ((i7:Nat):Int),.int .i64 ((i11:Nat):Int)] 116)).heap[wc.heap.size]?=some (.cells [.int .i64 ((i7:Nat):Int),.int .i64 ((i11:Nat):Int)].toArray 116 (0,0)) from bz wc _) (by decide) (aU.out.fresh (ag _)) (by show 2<=bn;decide) rfl,by simp only[aL,bg,H7.out,Kc.out]⟩)
  have e7:=hJ.vE 0 7 rfl (by decide) (aC 0 (by rfl)) (fun _ h=>h);obtain⟨v12,yB,f12⟩:=hJ.val 12 (by decide) (aC 12 (by rfl));obtain⟨TF,Al,h12⟩:=(show pW B k E v12 [bH (bL U (nF 1)),bL X V] s9 wc from f12);obtain⟨WA,WB,g12,-⟩:=id Al;rw[g12] at yB Al;replace yB:T[19]?=_:=yB;have Wa:=aa Al;have MR:=aa h12;clear f12 Al h12 g12;clear hJ aC cE;refine⟨rfl,fun K9 hK=>?_⟩;have bA:=aa hstep;clear hstep;go_simp;refine (kj wc aU.out bU.out _ TF Wa.out _ MR.out HG.out).mono ?_;rintro e w8 ⟨i8,s8,rfl,p1,p2,p3,p4⟩;exact hK.out _ _ (bA.out _ _ _ p1 p2 p4 ⟨i8,rfl,p3⟩)
 rintro T wt ⟨s9,hJ⟩;have a0:=hJ.vE 0 7 rfl (by decide) rfl (fun _ h=>h);have a1:=hJ.vE 1 8 rfl (by decide) rfl (fun _ h=>h);have a2:=hJ.vE 2 9 rfl (by decide) rfl (fun _ h=>h);have a3:=hJ.vE 3 10 rfl (by decide) rfl (fun _ h=>h);have a4:=hJ.vE 4 11 rfl (by decide) rfl (fun _ h=>h);obtain⟨i5,a5,H5⟩:=hJ.vI 5 12 rfl (by decide) rfl (fun _ h=>h);obtain⟨i6,a6,H6⟩:=hJ.vI 6 13 rfl (by decide) rfl (fun _ h=>h);obtain⟨i7,a7,H7⟩:=hJ.vI 7 14 rfl (by decide) rfl (fun _ h=>h);have a8:=hJ.vE 8 15 rfl (by decide) rfl (fun _ h=>h);have a9:=hJ.vE 9 16 rfl (by decide) rfl (fun _ h=>h);have yR:=hJ.vE 10 17 rfl (by decide) rfl (fun _ h=>h);obtain⟨i11,yQ,Kc⟩:=hJ.vI 11 18 rfl (by decide) rfl (fun _ h=>h);obtain⟨v12,a12,f12⟩:=hJ.val 12 (by decide) rfl
 obtain⟨TF,Al,h12⟩:=(show pW B k E v12 [bH (bL U (nF 1)),bL X V] s9 wt from f12);have Wa:=aa Al;clear f12 Al h12;obtain⟨i13,yP,Mn⟩:=hJ.vI 13 20 rfl (by decide) rfl (fun _ h=>h);have hfr:=hJ.fin (fun i hi=>az (iS.out i hi) (of_decide_eq_true rfl)) rfl (.cons a0 (.cons a1 (.cons a2 (.cons a3 (.cons a4 (.cons a5 (.cons a6 (.cons a7 (.cons a8 (.cons a9 (.cons yR (.cons yQ (.cons a12 (.cons yP .nil))))))))))))));have aU:=aa hJ.st;have gg:Hid (Ext s s9 5):=aa hJ.ext;have gK:=aa hJ.be;clear hJ iC iS a0 a1 a2 a3 a4 a5 a6 a7 a8 a9 yR yQ a12 yP;rw[hfr];clear hfr;simp only[jd,dV,bu,bW,bQ];simp only[bT,cf];go_wp2_with fail;go_ret
 exact⟨i13,s9,rfl,aU.out,gg.out,Mn.out,gK.out⟩
end Go.Proofs.YtoncclhbdkjhmaaGreatDoor
