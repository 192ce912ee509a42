/-
 Joined texts: Rel9,LgBg,LgBo,FaE,FaF,FaG,FaH,FaI,FbS,FbT,FaJ,FaK,FaKb,FaU,FaV,FaL,FaW,FaQ.
-/
import Derived.Carry
import Derived.Lib.AppendZeros
import Derived.Test.YtoncclhbdkjhmaaGreatDoorJFactsAre2
import Derived.Test.YtoncclhbdkjhmaaGreatDoorJFactsAre3
import Derived.Test.YtoncclhbdkjhmaaGreatDoorJFactsAre5
set_option maxHeartbeats 32000000
namespace Go.Proofs.YtoncclhbdkjhmaaGreatDoor
open Go.RowKit
set_option maxRecDepth 100000
set_option linter.unusedVariables false
namespace Rel9
open R7
def upd (d:Nat->Bool) (i:Nat):Nat->Bool:=fun j=>decide (j=i) || d j
section
variable {P:Program} {ops:List Oper} {D:List (List Nat)} {m:Nat} {t0:Array Value} {ds:List Deferred} {Q:Exit->Act->World->Prop}
theorem main (hok:ok ops D m t0.size=true) (hin:inOrder ops m=true) (J:(Nat->Bool)->Array Value->World->Prop)
  (hstep:∀ d T wc i o,J d T wc->ops[i]?=some o->i<m->d i=false->(∀ j,(dep D i).contains j=true->d j=true)->(∀ j k,d j=true->(dep D j).contains k=true->d k=true)->o.guard=none/\∀ K:Act->World->Prop,Hid (∀ T' w',J (upd d i) T' w'->K ⟨T',ds⟩ w')->o.wp P ⟨T,ds⟩ wc K Q)
  (hrest:∀ T wc,J (fun j=>decide (j<m)) T wc->wpList P ops.toArray Q (ops.drop m) ⟨T,ds⟩ wc) :
  ∀ (fuel:Nat) (l:Array Bool) (T:Array Value) (w:World),l.size=ops.length->l.toList.count false=fuel->(∀ j,l.getD j false=true->j<m)->(∀ j k,l.getD j false=true->(dep D j).contains k=true->l.getD k false=true)->J (fun j=>l.getD j false) T w->wpAny P .any ops.toArray Q fuel l ⟨T,ds⟩ w:=by
 have hml:=ok_len hok;have fin:∀ (l:Array Bool) (T:Array Value) (w:World),l.size=ops.length->(∀ j,l.getD j false=true->j<m)->(∀ j,j<m->l.getD j false=true)->J (fun j=>l.getD j false) T w->wpAny P .any ops.toArray Q (l.toList.count false) l ⟨T,ds⟩ w:=by
  intro l T w hs hlt hall hJ;have hl:l=lst ops.length m:=by
   refine Array.ext (by simp[lst,hs];omega) fun i h1 h2=>?_
   have e1:l[i]=l.getD i false:=by simp[Array.getD_eq_getD_getElem?,h1]
   rw[e1];by_cases hi:i<m
   ·rw[hall i hi];simp[lst,hi]
   have:l.getD i false=false:=by
    cases h:l.getD i false with
    | false=>rfl
    | true=>exact absurd (hlt i h) hi
   rw[this];simp[lst,List.getElem_append,hi]
  have hJ2:(fun j=>l.getD j false)=fun j=>decide (j<m):=funext fun j=>by
   by_cases hj:j<m
   ·rw[hall j hj];simp[hj]
   cases h:l.getD j false with
   | false=>simp[hj]
   | true=>exact absurd (hlt j h) hj
  rw[hJ2] at hJ;have hc:l.toList.count false=ops.length - m:=by rw[hl];simp[lst,List.count_append,List.count_replicate]
  rw[hc,hl];refine rest_any (ops.length - m) m (by omega) (fun i h1 h2=>?_) _ _ (hrest T w hJ);unfold inOrder at hin;have:=List.all_eq_true.1 hin i (List.mem_range.2 h2);simp only[Bool.or_eq_true,decide_eq_true_eq,beq_iff_eq] at this;exact this.resolve_left (by omega)
 intro fuel;induction fuel with
 | zero =>
  intro l T w hs hc hlt hcl hJ;rw[<-hc];refine fin l T w hs hlt (fun j hj=>?_) hJ;rw[Array.getD_eq_getD_getElem?,Array.getElem?_eq_getElem (by omega)];simp only[Option.getD_some];have h0:=List.count_eq_zero.1 hc;cases h:l[j]'(by omega) with
  | true=>rfl
  | false=>exact absurd (by rw[<-h];simp) h0
 | succ fuel ih =>
  intro l T w hs hc hlt hcl hJ;by_cases hall:∀ j,j<m->l.getD j false=true
  ·rw[<-hc];exact fin l T w hs hlt hall hJ
  have tf:∀ i,i<ops.length->(l.getD i true=false ↔ l.getD i false=false):=fun i hi=>by simp[Array.getD_eq_getD_getElem?,show i<l.size by omega]
  refine⟨fun h0=>?_,fun i hi=>?_⟩
  ·have:∃ j,(j<m/\l.getD j false≠true)/\∀ i,i<j->l.getD i false=true:=by
    obtain⟨j,hj⟩:=Classical.not_forall.1 hall;obtain⟨hj1,hj2⟩:=Classical.not_imp.1 hj;clear hj;induction j using Nat.strongRecOn with
    | ind j ihj =>
     by_cases h:∀ i,i<j->l.getD i false=true
     ·exact⟨j,⟨hj1,hj2⟩,h⟩
     obtain⟨i,hi⟩:=Classical.not_forall.1 h;obtain⟨hi1,hi2⟩:=Classical.not_imp.1 hi;exact ihj i hi1 (by omega) hi2
   obtain⟨j,⟨hj1,hj2⟩,hj3⟩:=this;have hjl:j<ops.length:=by omega
   have hm:j ∈ Region.ready .any ops.toArray l:=by
    rw[mem_ready];refine⟨(tf j hjl).2 (by simpa using hj2),ops[j],by simp[hjl],fun e he hb=>hj3 _ ?_⟩;exact (ok_at hok (List.getElem?_eq_getElem hjl)).1 e he hb
   rw[h0] at hm;cases hm
  obtain⟨h1,o,ho,he⟩:=mem_ready.1 hi;have ho':ops[i]?=some o:=by simpa using ho
  have hil:i<ops.length:=(List.getElem?_eq_some_iff.1 ho').1;have h1':=(tf i hil).1 h1;have hk:=ok_at hok ho';have hdep:∀ j,(dep D i).contains j=true->l.getD j false=true:=fun j hj=>by
   obtain⟨⟨e,e1,e2,e3⟩,-,-⟩:=hk.2.1 j hj;have:=he e e1 e2;rcases e3 with e3 | e3
   ·rw[<-e3];exact this
   exact hcl _ _ this e3
  have him:i<m:=by
   rcases hk.2.2.1 with h | h
   ·exact h
   exact absurd (fun j hj=>hdep j (h j hj)) hall
  obtain⟨hg,hw⟩:=hstep _ T w i o hJ ho' him h1' hdep hcl;unfold wpOp;rw[ho];have hwant:Region.wanted o (yielded ops.toArray T)=true:=by unfold Region.wanted;rw[hg]
  simp only[hwant,if_true];refine Or.inl (hw _ (Lib.hid fun T' w' hJ'=>?_));have hli:i<l.size:=by omega
  have hup:(fun j=>(l.setIfInBounds i true).getD j false)=upd (fun j=>l.getD j false) i:=funext fun j=>R7.getD_set hli
  have hget:l.toList[i]?=some false:=by
   rw[Array.getElem?_toList,Array.getElem?_eq_getElem hli];have:=h1';rw[Array.getD_eq_getD_getElem?,Array.getElem?_eq_getElem hli] at this;exact congrArg some this
  refine ih _ T' w' (by simpa using hs) ?_ (fun j hj=>?_) (fun j k hj hjk=>?_) (by rw[hup];exact hJ')
  ·rw[Array.toList_setIfInBounds];have:=count_false hget;omega
  ·rw[R7.getD_set hli,Bool.or_eq_true,decide_eq_true_eq] at hj;rcases hj with rfl | hj
   ·exact him
   exact hlt j hj
  rw[R7.getD_set hli,Bool.or_eq_true,decide_eq_true_eq] at hj ⊢;rcases hj with rfl | hj
  ·exact .inr (hdep k hjk)
  exact .inr (hcl j k hj hjk)
theorem region {id:Nat} {w:World} (hm:P.follows .mixedOrders=true) (D:List (List Nat)) (m:Nat) (hok:ok ops D m t0.size=true) (hin:inOrder ops m=true) (J:(Nat->Bool)->Array Value->World->Prop)
  (h0:J (fun _=>false) t0 w.drew)
  (hstep:∀ d T wc i o,J d T wc->ops[i]?=some o->i<m->d i=false->(∀ j,(dep D i).contains j=true->d j=true)->(∀ j k,d j=true->(dep D j).contains k=true->d k=true)->o.guard=none/\∀ K:Act->World->Prop,Hid (∀ T' w',J (upd d i) T' w'->K ⟨T',ds⟩ w')->o.wp P ⟨T,ds⟩ wc K Q)
  (hrest:∀ T wc,J (fun j=>decide (j<m)) T wc->wpList P ops.toArray Q (ops.drop m) ⟨T,ds⟩ wc):(Code.region id ops.toArray true).wp P Q ⟨t0,ds⟩ w:=by
 refine wp_region_any hm ?_;have hno:(fun j=>(Array.replicate ops.toArray.size false).getD j false)=fun _=>false:=funext fun j=>by
  rw[Array.getD_eq_getD_getElem?];by_cases h:j<ops.length<;>simp[h]
 have hnn:∀ j,(Array.replicate ops.toArray.size false).getD j false=true->False:=fun j hj=>by
  have:=congrFun hno j;rw[this] at hj;cases hj
 have hc:(Array.replicate ops.toArray.size false).toList.count false=ops.toArray.size:=by simp
 exact main hok hin J hstep hrest _ _ t0 _ (by simp) hc (fun j hj=>(hnn j hj).elim) (fun j k hj=>(hnn j hj).elim) (by rw[hno];exact h0)
end
end Rel9
end Go.Proofs.YtoncclhbdkjhmaaGreatDoor
namespace Go.Proofs.YtoncclhbdkjhmaaGreatDoor
open Go.RowKit
set_option maxRecDepth 100000
set_option linter.unusedVariables false
set_option linter.unusedSimpArgs false
def zFA:Obj:=.cells #[.int .i64 0,.bool false,.slice none 0 0,.string ⟨#[]⟩,.slice none 0 0] 29 (0,0)
def ptrV (g:Nat):Value:=.pointer (some ⟨g,0,none⟩)
section
variable {W0:World} {t0:Array Value} {sl:Nat->Nat} {X Y:Value} {D1 D3:Nat} {P1 P3:F->Prop} {d:Nat->Bool} {T:Array Value} {w w':World}
theorem set_ne {T:Array Value} {i j:Nat} {v:Value} (h:j≠i):(T.setIfInBounds i v)[j]?=T[j]?:=by
 rw[Array.getElem?_setIfInBounds];simp[h.symm]
theorem set_eq {T:Array Value} {i:Nat} {v:Value} (h:i<T.size):(T.setIfInBounds i v)[i]?=some v:=by
 rw[Array.getElem?_setIfInBounds];simp[h]
theorem upd_ne' {d:Nat->Bool} {i k:Nat} (h:k≠i):Rel9.upd d i k=d k:=by unfold Rel9.upd;simp[h]
end
section
variable {W0:World} {t0:Array Value} {n q:Nat} {sl:Nat->Nat} {Fk:Nat->Value->World->Prop} {Rk:Nat->Value->Value->World->Prop} {d:Nat->Bool} {T:Array Value} {w w':World}
end
def intV (b:Bool) (o:Option Addr) (l c:Nat):Value:=.agg #[.int .i64 0,.bool b,.slice o l c,.string ⟨#[]⟩,.slice none 0 0]
def F8 (X:World) (pn:ByteArray) (V1 V3:Value) (t3 P:F):Nat->Value->World->Prop
 | 0,v,_=>v=V1
 | 1,v,_=>v=.string pn
 | 2,v,w=>NmL w v [pn,i9]
 | 3,v,_=>v=V3
 | 4,v,w=>∃ b o l c,v=intV b o l c/\CI w (.agg #[.bool b,.slice o l c]) 1 600
 | 5,v,w=>FL w (fun b=>b<w.heap.size) 4 v [t3,oneF]
 | 6,v,w=>FC w (fun b=>b<w.heap.size) 9 v P
 | 7,v,w=>∃ g,v=ptrV g/\X.heap.size<=g/\w.heap[g]?=some zFA
 | _,_,_=>True
structure JP (W0:World) (t0:Array Value) (n q:Nat) (sl:Nat->Nat) (G:World->World->Prop) (Fk:Nat->Value->World->Prop) (d:Nat->Bool) (T:Array Value) (w:World):Prop where
 be:G W0 w
 bl:d q=false->Below W0.heap.size W0 w
 sz:T.size=t0.size
 oth:∀ j,(∀ i,i<n->j≠sl i)->T[j]?=t0[j]?
 val:∀ k,k<n->d k=true->∃ v,T[sl k]?=some v/\Fk k v w
section
variable {W0:World} {t0:Array Value} {n q:Nat} {sl:Nat->Nat} {G:World->World->Prop} {Fk:Nat->Value->World->Prop} {d:Nat->Bool} {T:Array Value} {w w':World}
theorem JP.start (hG:G W0 W0.drew):JP W0 t0 n q sl G Fk (fun _=>false) t0 W0.drew:=
 ⟨hG,fun _=>(Below.refl _ _).drew,rfl,fun _ _=>rfl,fun k _ h=>absurd h Bool.false_ne_true⟩
theorem JP.put (h:JP W0 t0 n q sl G Fk d T w) (hne:∀ i j,i<n->j<n->i≠j->sl i≠sl j) (hlt:∀ i,i<n->sl i<t0.size) (i:Nat) (hi:i<n) (v:Value) (hbe:G W0 w') (hbl:Rel9.upd d i q=false->Below W0.heap.size W0 w')
  (h1:Fk i v w') (h2:∀ k,k<n->k≠i->d k=true->∀ x,Fk k x w->Fk k x w'):JP W0 t0 n q sl G Fk (Rel9.upd d i) (T.setIfInBounds (sl i) v) w':=by
 have hsz:sl i<T.size:=by rw[h.sz];exact hlt i hi
 refine⟨hbe,hbl,by rw[Array.size_setIfInBounds,h.sz],fun j hj=>?_,fun k hk hu=>?_⟩
 ·rw[set_ne (hj i hi)];exact h.oth j hj
 by_cases hki:k=i
 ·subst hki;exact⟨v,set_eq hsz,h1⟩
 rw[upd_ne' hki] at hu;obtain⟨x,hx,hf⟩:=h.val k hk hu;exact⟨x,by rw[set_ne (hne k i hk hi hki)];exact hx,h2 k hk hki hu x hf⟩
theorem JP.step (h:JP W0 t0 n q sl G Fk d T w) (hG:∀ w w':World,G W0 w->Below w.heap.size w w'->G W0 w') (hF:∀ k v (w w':World),Below w.heap.size w w'->Fk k v w->Fk k v w') (hne:∀ i j,i<n->j<n->i≠j->sl i≠sl j) (hlt:∀ i,i<n->sl i<t0.size) (i:Nat) (hi:i<n) (hiq:q≠i) (v:Value) (hb:Below w.heap.size w w') (h1:Fk i v w'):JP W0 t0 n q sl G Fk (Rel9.upd d i) (T.setIfInBounds (sl i) v) w':=
 h.put hne hlt i hi v (hG w w' h.be hb) (fun hu=>by rw[upd_ne' hiq] at hu;exact (h.bl hu).trans (hb.mono (h.bl hu).size)) h1 (fun k _ _ _ x hx=>hF k x w w' hb hx)
theorem JP.turn (h:JP W0 t0 n q sl G Fk d T w) (hq:q<n) (hne:∀ i j,i<n->j<n->i≠j->sl i≠sl j) (hlt:∀ i,i<n->sl i<t0.size) (v:Value) (hbe:G W0 w') (h1:Fk q v w') (h2:∀ k,k<n->k≠q->d k=true->∀ x,Fk k x w->Fk k x w'):JP W0 t0 n q sl G Fk (Rel9.upd d q) (T.setIfInBounds (sl q) v) w':=
 h.put hne hlt q hq v hbe (fun hu=>by unfold Rel9.upd at hu;simp at hu) h1 h2
end
section
variable {W0:World} {t0:Array Value} {n:Nat} {sl:Nat->Nat} {G:Nat->World->World->Prop} {Fk:Nat->Value->World->Prop} {d:Nat->Bool} {T:Array Value} {w w':World}
end
theorem frame_10 {T t0:Array Value} {s0 s1 s2 s3 s4 s5 s6 s7 s8 s9:Nat} {u0 u1 u2 u3 u4 u5 u6 u7 u8 u9:Value} (hsz:T.size=t0.size) (hlt:∀ s ∈ [s0,s1,s2,s3,s4,s5,s6,s7,s8,s9],s<t0.size) (h0:T[s0]?=some u0) (h1:T[s1]?=some u1) (h2:T[s2]?=some u2) (h3:T[s3]?=some u3) (h4:T[s4]?=some u4) (h5:T[s5]?=some u5) (h6:T[s6]?=some u6) (h7:T[s7]?=some u7) (h8:T[s8]?=some u8) (h9:T[s9]?=some u9) (ho:∀ j,(∀ s ∈ [s0,s1,s2,s3,s4,s5,s6,s7,s8,s9],j≠s)->T[j]?=t0[j]?):T=((((((((((t0.setIfInBounds s0 u0).setIfInBounds s1 u1).setIfInBounds s2 u2).setIfInBounds s3 u3).setIfInBounds s4 u4).setIfInBounds s5 u5).setIfInBounds s6 u6).setIfInBounds s7 u7).setIfInBounds s8 u8).setIfInBounds s9 u9):=by
 have l0:=hlt s0 (by simp);have l1:=hlt s1 (by simp);have l2:=hlt s2 (by simp);have l3:=hlt s3 (by simp);have l4:=hlt s4 (by simp);have l5:=hlt s5 (by simp);have l6:=hlt s6 (by simp);have l7:=hlt s7 (by simp);have l8:=hlt s8 (by simp);have l9:=hlt s9 (by simp);apply Array.ext_getElem?;intro j;by_cases j9:j=s9
 ·subst j9;rw[set_eq (by (try simp only[Array.size_setIfInBounds]);exact l9)];exact h9
 rw[set_ne j9];by_cases j8:j=s8
 ·subst j8;rw[set_eq (by (try simp only[Array.size_setIfInBounds]);exact l8)];exact h8
 rw[set_ne j8];by_cases j7:j=s7
 ·subst j7;rw[set_eq (by (try simp only[Array.size_setIfInBounds]);exact l7)];exact h7
 rw[set_ne j7];by_cases j6:j=s6
 ·subst j6;rw[set_eq (by (try simp only[Array.size_setIfInBounds]);exact l6)];exact h6
 rw[set_ne j6];by_cases j5:j=s5
 ·subst j5;rw[set_eq (by (try simp only[Array.size_setIfInBounds]);exact l5)];exact h5
 rw[set_ne j5];by_cases j4:j=s4
 ·subst j4;rw[set_eq (by (try simp only[Array.size_setIfInBounds]);exact l4)];exact h4
 rw[set_ne j4];by_cases j3:j=s3
 ·subst j3;rw[set_eq (by (try simp only[Array.size_setIfInBounds]);exact l3)];exact h3
 rw[set_ne j3];by_cases j2:j=s2
 ·subst j2;rw[set_eq (by (try simp only[Array.size_setIfInBounds]);exact l2)];exact h2
 rw[set_ne j2];by_cases j1:j=s1
 ·subst j1;rw[set_eq (by (try simp only[Array.size_setIfInBounds]);exact l1)];exact h1
 rw[set_ne j1];by_cases j0:j=s0
 ·subst j0;rw[set_eq (by (try simp only[Array.size_setIfInBounds]);exact l0)];exact h0
 rw[set_ne j0];refine ho j (fun s hs=>?_);simp only[List.mem_cons,List.not_mem_nil,or_false] at hs;rcases hs with rfl | rfl | rfl | rfl | rfl | rfl | rfl | rfl | rfl | rfl<;>assumption
theorem wp_appendF {o:Oper} {a:Act} {w w':World} {v x v':Value} {t:TypeId} {K:Act->World->Prop} {Q:Exit->Act->World->Prop} (s y:Operand)
  (ho:o.op=.call { callee:=.builtin .append,args:=#[s,y],argTypes:=#[t,t] }) (hs:a.eval s=v) (hx:a.eval y=x) (hr:(Builtin.append_ #[t,t] o.type #[v,x]).run Tryz.prog w=.ok v' w') (hK:K (a.put o.dst v') w'):o.wp Tryz.prog a w K Q:=by
 unfold Oper.wp execOp;simp only[ho,resolve,invoke,builtin,Sem.run_bind,Sem.run_pure,Result.andThen_ok,List.map_toArray,List.map_cons,List.map_nil,hs,hx,hr];exact hK
theorem row_fresh {α:Type} {E:El α} {w w':World} {B:Nat} {v v':Value} {el ns:List α} {a:Addr} {m c:Nat} (h:E.Row w B v el) (hx:E.At w (.slice (some a) m c) ns) (h0:0<ns.length) (hlen:el.length+ns.length<=1000000) (ty:TypeId) (hr:(Builtin.append_ #[E.t,E.t] ty #[v,.slice (some a) m c]).run Tryz.prog w=.ok v' w'):FreshF w v v':=by
 obtain⟨i,hi,hz,hz1,hz2⟩:=info_parts E.info;have hm:m=ns.length:=by obtain⟨_,_,e,_⟩:=hx;injection e
 subst hm;have hl:(ns.flatMap E.f).length=ns.length*i.size:=by rw[hz1];exact flat_lenV E.f E.len ns
 have h1:∀ u ∈ ns.flatMap E.f,u.oneCell'=true:=fun u hu=>by
  obtain⟨b,_,hb⟩:=List.mem_flatMap.1 hu;exact E.one b u hb
 have hown:w.ownsRow B E.e i.size v el.length (el.flatMap E.f):=by rw[hz1];exact h.own
 exact append_freshF (P:=Tryz.prog) E.ht hi hz hown hl hx.news h1 (by omega) (by rw[hz2];exact Nat.le_trans (Nat.mul_le_mul hlen E.by_) (by decide)) h0 (by rw[hz1];exact E.zs) (by rw[hz1];exact E.pos) hr
attribute [local go_sem] fieldV0 fieldV1 fieldV2 fieldV3
def Ext (s s':List F) (n:Nat):Prop:=∃ m,s'=s++m/\m.length<=n
theorem Ext.refl (s:List F):Ext s s 0:=⟨[],by simp,Nat.le_refl _⟩
theorem Ext.trans {a b c:List F} {m n k:Nat} (h:Ext a b m) (g:Ext b c n) (hk:m+n<=k):Ext a c k:=by
 obtain⟨x,rfl,hx⟩:=h;obtain⟨y,rfl,hy⟩:=g;exact⟨x++y,by rw[List.append_assoc],by rw[lsa];omega⟩
theorem Ext.up {a b:List F} {m n:Nat} (h:Ext a b m) (hn:m<=n):Ext a b n:=by
 obtain⟨x,h1,h2⟩:=h;exact⟨x,h1,Nat.le_trans h2 hn⟩
theorem Ext.get {a b:List F} {n i:Nat} {t:F} (h:Ext a b n) (hi:a[i]?=some t):b[i]?=some t:=by
 obtain⟨x,rfl,-⟩:=h;obtain⟨hl,e⟩:=List.getElem?_eq_some_iff.1 hi;rw[List.getElem?_append_left hl];exact hi
theorem Ext.len {a b:List F} {n:Nat} (h:Ext a b n):b.length<=a.length+n:=by
 obtain⟨x,rfl,hx⟩:=h;rw[lsa];omega
def PutPost (B k:Nat) (E:Nat->Prop) (L s:List F) (t:F) (n:Nat) (w:World) (e:Ending) (w':World):Prop:=∃ (i:Nat) (s':List F),e=.returned (.int .i64 ((i:Nat):Int))/\St B k E L s' w'/\Ext s s' n/\s'[i]?=some t/\Stp B k w w'
theorem zeroId (w:World):(zeroValue 116).run Tryz.prog w=.ok (.int .i64 0) w:=by kernel_rfl
theorem keyF_len {d:Nat} {s:List F} {t:F} (ht:Tg d t) (hs:s.length<=1000000) (hk:∀ c ∈ t.kids,c ∈ s):(keyF s t).length<=maxLen:=by
 have h1:=tx_lenG 2 _ (tg_key ht hs hk);have h2:=lenG_le 2 (by decide);unfold keyF maxLen
 omega
theorem StU.more {B k:Nat} {E:Nat->Prop} {L s:List F} {w w':World} {km:Nat} {v v':Value} {us:List NdU} {M:Bs->Option Value} (h:StU B k E L s w km v us M) {t:F} {u:NdU} (hn:t ∉ s) (hg:Gd t) (hks:∀ x ∈ t.kids,x ∈ s) (hmax:s.length+1<=900000)
  (hst:Stp B k w w') (bk:w'.heap[k]?=some (.cells #[.map (some km),v'] 163 (0,0))) (mp:MapIs Tryz.prog 9 w' km (fun x=>if x=keyF s t then some (.int .i64 ((s.length:Nat):Int)) else M x)) (row:nR.Row w' (k+1) v' (us++[u]))
  (hft:FT w' (NS B k E w') 9 u.u t) (hids:IL B k E w' (.slice u.ko u.kl u.kc) (t.kids.map (idx s))) (hb:u.b=false):St B k E L (s++[t]) w':=by
 have hid:∀ x ∈ s,x.kids.map (idx (s++[t]))=x.kids.map (idx s):=fun x hx=>List.map_congr_left fun c hc=>idx_app (h.cl x hx c hc)
 have hidt:t.kids.map (idx (s++[t]))=t.kids.map (idx s):=List.map_congr_left fun c hc=>idx_app (hks c hc)
 have get:∀ (i:Nat) (x:NdU) (y:F),(us++[u])[i]?=some x->(s++[t])[i]?=some y->(us[i]?=some x/\s[i]?=some y)\/(x=u/\y=t):=by
  intro i x y hx hy;by_cases hi:i<s.length
  ·rw[List.getElem?_append_left (by rw[h.len];exact hi)] at hx;rw[List.getElem?_append_left hi] at hy;exact .inl ⟨hx,hy⟩
  rw[List.getElem?_append_right (by rw[h.len];omega),h.len] at hx;rw[List.getElem?_append_right (by omega)] at hy;have e:i - s.length=0:=by
   have:=(List.getElem?_eq_some_iff.1 hy).1;simp only[lsc,lsn] at this;omega
  rw[e] at hx hy;exact .inr ⟨by simpa using hx.symm,by simpa using hy.symm⟩
 have hkey:∀ x ∈ s,keyF (s++[t]) x=keyF s x:=fun x hx=>keyF_app (h.cl x hx)
 have hkt:keyF (s++[t]) t=keyF s t:=keyF_app hks;have hne:∀ x ∈ s,keyF s x≠keyF s t:=fun x hx e=>hn (by
  have:=keyF_inj (h.good x hx).2 hg.2 (h.good x hx).1 hg.1 (Nat.le_trans h.max (by decide)) (h.cl x hx) hks e;rw[<-this];exact hx)
 refine⟨km,v',us++[u],(fun x=>if x=keyF s t then some (.int .i64 ((s.length:Nat):Int)) else M x),?_⟩;exact {
  bk:=bk
  kB:=h.kB
  mB:=h.mB
  sz:=Nat.le_trans h.sz hst.size
  mp:=mp
  dom:=by
   obtain⟨l,hl,hx⟩:=h.dom;refine⟨keyF s t::l,by rw[lsc,lsa];simpa using hl,fun x hm=>?_⟩
   by_cases e:x=keyF s t
   ·rw[e];simp
   refine List.mem_cons_of_mem _ (hx x ?_);have hm2:(if x=keyF s t then some (Value.int .i64 ((s.length:Nat):Int)) else M x).isSome=true:=hm;rw[if_neg e] at hm2;exact hm2
  m1:=fun i x hi=>by
   by_cases hl:i<s.length
   ·rw[List.getElem?_append_left hl] at hi;have hx:=List.mem_of_getElem? hi;rw[hkey x hx,if_neg (hne x hx)];exact h.m1 i x hi
   rw[List.getElem?_append_right (by omega)] at hi
   have e:i=s.length:=by
    have:=(List.getElem?_eq_some_iff.1 hi).1;simp only[lsc,lsn] at this;omega
   subst e;have:x=t:=by simpa using hi.symm
   subst this;rw[hkt,if_pos rfl]
  m2:=fun x q hm0=>by
   have hm:(if x=keyF s t then some (Value.int .i64 ((s.length:Nat):Int)) else M x)=some q:=hm0
   by_cases e:x=keyF s t
   ·rw[if_pos e] at hm;injection hm with hm;exact⟨s.length,t,by simp,by rw[hkt,e],hm.symm⟩
   rw[if_neg e] at hm;obtain⟨i,y,h1,h2,h3⟩:=h.m2 x q hm;have hl:=(List.getElem?_eq_some_iff.1 h1).1;exact⟨i,y,by rw[List.getElem?_append_left hl];exact h1,by rw[hkey y (List.mem_of_getElem? h1)];exact h2,h3⟩
  row:=row
  len:=by rw[lsa,lsa,h.len];rfl
  nd:=by
   rw[List.nodup_append];exact⟨h.nd,by simp,fun a ha b hb e=>by rw[List.mem_singleton] at hb;rw[e,hb] at ha;exact hn ha⟩
  good:=fun x hx=>by
   rcases List.mem_append.1 hx with hx | hx
   ·exact h.good x hx
   rw[List.mem_singleton] at hx;rw[hx];exact hg
  cl:=fun x hx c hc=>by
   rcases List.mem_append.1 hx with hx | hx
   ·exact List.mem_append_left _ (h.cl x hx c hc)
   rw[List.mem_singleton] at hx;rw[hx] at hc;exact List.mem_append_left _ (hks c hc)
  ft:=fun i x y hx hy=>by
   rcases get i x y hx hy with ⟨h1,h2⟩ | ⟨rfl,rfl⟩
   ·exact (h.ft i x y h1 h2).stp hst
   exact hft
  ids:=fun i x y hx hy=>by
   rcases get i x y hx hy with ⟨h1,h2⟩ | ⟨rfl,rfl⟩
   ·rw[hid y (List.mem_of_getElem? h2)];exact (h.ids i x y h1 h2).stp hst
   rw[hidt];exact hids
  lst:=fun i x y hx hy=>by
   rcases get i x y hx hy with ⟨h1,h2⟩ | ⟨rfl,rfl⟩
   ·exact h.lst i x y h1 h2
   rw[hb];exact⟨fun e=>absurd e Bool.false_ne_true,fun e=>absurd (h.sub _ e) hn⟩
  sub:=fun x hx=>List.mem_append_left _ (h.sub x hx)
  max:=by rw[lsa];exact hmax
  ex:=fun g hg=>Nat.lt_of_lt_of_le (h.ex g hg) hst.size
  tx:=by
   obtain⟨w0,h1,h2,h3⟩:=h.tx
   exact⟨w0,h1,h2,h3.trans (hst.below h.sz)⟩ }
theorem StU.none {B k:Nat} {E:Nat->Prop} {L s:List F} {w:World} {km:Nat} {v:Value} {us:List NdU} {M:Bs->Option Value} (h:StU B k E L s w km v us M) {t:F} (hn:t ∉ s) (hg:Gd t) (hks:∀ x ∈ t.kids,x ∈ s):M (keyF s t)=none:=by
 cases hm:M (keyF s t) with
 | none=>rfl
 | some q =>
  obtain⟨i,y,h1,h2,-⟩:=h.m2 _ q hm;have hy:=List.mem_of_getElem? h1;have:=keyF_inj (h.good y hy).2 hg.2 (h.good y hy).1 hg.1 (Nat.le_trans h.max (by decide)) (h.cl y hy) hks h2;rw[this] at hy;exact absurd hy hn
def FkP (B:Nat) (W:World) (ks:Nat) (nv fv:Value) (u:FU) (vo:Option Addr) (vl vc:Nat) (us:List NdU):Nat->Value->World->Prop
 | 0,v,_=>v=.pointer (some ⟨ks,0,none⟩)
 | 1,v,_=>v=.pointer (some ⟨ks,0,none⟩)
 | 2,v,_=>v=.pointer (some ⟨ks,0,none⟩)
 | 3,v,_=>v=.pointer (some ⟨ks,1,none⟩)
 | 4,v,_=>v=nv
 | 5,v,_=>v=fv
 | 6,v,_=>v=.slice vo vl vc
 | 7,v,_=>v=.agg #[.int .i64 u.k,.bool (decide (u.n.z<0)),.slice u.n.o u.n.l u.n.c,.string u.nm,.slice u.ko u.kl u.kc,.slice vo vl vc,.bool false]
 | 8,v,w=>∃ g,v=.slice (some ⟨g,0,none⟩) 1 1/\W.heap.size<=g/\w.heap[g]?=some (.cells #[.int .i64 u.k,.bool (decide (u.n.z<0)),.slice u.n.o u.n.l u.n.c,.string u.nm,.slice u.ko u.kl u.kc,.slice vo vl vc,.bool false] 167 (0,0))
 | 9,v,w=>nR.Row w (ks+1) v (us++[⟨u,vo,vl,vc,false⟩])/\∀ g,v.ownBlock=some g->nv.ownBlock=some g\/W.heap.size<=g
 | _,_,_=>True
theorem FkP.below {B:Nat} {W:World} {ks:Nat} {nv fv:Value} {u:FU} {vo:Option Addr} {vl vc:Nat} {us:List NdU}:∀ k v (w w':World),Below w.heap.size w w'->FkP B W ks nv fv u vo vl vc us k v w->FkP B W ks nv fv u vo vl vc us k v w'
 | 0,_,_,_,_,h=>h
 | 1,_,_,_,_,h=>h
 | 2,_,_,_,_,h=>h
 | 3,_,_,_,_,h=>h
 | 4,_,_,_,_,h=>h
 | 5,_,_,_,_,h=>h
 | 6,_,_,_,_,h=>h
 | 7,_,_,_,_,h=>h
 | 8,_,_,_,hb,⟨g,h1,h2,h3⟩=>⟨g,h1,h2,by rw[hb.block g (lt_of_block h3)];exact h3⟩
 | 9,_,_,_,hb,h=>⟨El.Row.below h.1 hb,h.2⟩
 | _+10,_,_,_,_,_=>trivial
def GP (B ks km:Nat) (a b:World):Prop:=Stp B ks a b/\b.heap[ks]?=a.heap[ks]? /\ b.heap[km]?=a.heap[km]?
theorem GP.step {B ks km:Nat} {a b c:World} (h:GP B ks km a b) (h1:ks<a.heap.size) (h2:km<a.heap.size) (k:Below b.heap.size b c):GP B ks km a c:=
 ⟨h.1.trans (.of_below k),(k.block _ (Nat.lt_of_lt_of_le h1 h.1.size)).trans h.2.1,(k.block _ (Nat.lt_of_lt_of_le h2 h.1.size)).trans h.2.2⟩
theorem MapIs.obj {P:Program} {k:TypeId} {w:World} {b:Nat} {m:Bs->Option Value} (h:MapIs P k w b m):∃ es cl,w.heap[b]?=some (.map es cl):=by
 obtain⟨n,D,⟨es,cl,h1,-⟩,-⟩:=h;exact⟨es,cl,h1⟩
open Classical in
theorem putS_p {B ks:Nat} {E:Nat->Prop} {L s:List F} (w:World) (h:St B ks E L s w) (hm:s.length+1<=900000) (u:FU) (t:F) (hf:FT w (NS B ks E w) 9 u t) (hg:Gd t) (vo:Option Addr) (vl vc:Nat) (hv:IL B ks E w (.slice vo vl vc) (t.kids.map (idx s))) (hks:∀ x ∈ t.kids,x ∈ s) :
  Calls Tryz.prog 119 #[.pointer (some ⟨ks,0,none⟩),.agg #[.int .i64 u.k,.bool (decide (u.n.z<0)),.slice u.n.o u.n.l u.n.c,.string u.nm,.slice u.ko u.kl u.kc],.slice vo vl vc] w (PutPost B ks E L s t 1 w):=by
 have HS:=Lib.hid h;have HF:=Lib.hid hf;have HV:=Lib.hid hv;have HG:=Lib.hid hg;have HKS:=Lib.hid hks;have HM:=Lib.hid hm;clear h hf hv hg hks hm;have HW:=Lib.hid (Below.refl w.heap.size w);go_enter Tryz.func119,Tryz.ntmps119;obtain⟨x1,kf,ef,ekf,hbf,hkf,HBf⟩:=newV w #[.int .i64 u.k,.bool (decide (u.n.z<0)),.slice u.n.o u.n.l u.n.c,.string u.nm,.slice u.ko u.kl u.kc] 29;replace HW:=Lib.hid (HW.out.trans (hbf.out.mono HW.out.size));replace HS:=Lib.hid (HS.out.below hbf.out);replace HF:=Lib.hid (HF.out.stp (Stp.of_below hbf.out));replace HV:=Lib.hid (HV.out.stp (Stp.of_below hbf.out));obtain⟨⟨c0,c1,c2,c3,c4⟩,fc0,fc1,fc2,fc3,fc4⟩:=cells5V HBf.out;go_wp2_with fail;refine (textS_p x1 HS.out (NS B ks E x1) 9 _ _ _ _ _ _ _ _ _ t ⟨u,rfl,HF.out⟩ HG.out _ HV.out HKS.out).mono ?_;rintro e x2 ⟨rfl,hb⟩
 clear c0 fc0 c1 fc1 c2 fc2 c3 fc3 c4 fc4;replace HBf:=kBV hb HBf;replace HW:=Lib.hid (HW.out.trans (hb.mono HW.out.size));replace HS:=Lib.hid (HS.out.below hb);replace HF:=Lib.hid (HF.out.stp (Stp.of_below hb));replace HV:=Lib.hid (HV.out.stp (Stp.of_below hb));clear hb;obtain⟨K,hK⟩:∃ K,K=keyF s t:=⟨_,rfl⟩;rw[<-hK];have HKK:=Lib.hid hK;have HKL:Hid (K.length<=maxLen):=Lib.hid (by rw[hK];exact keyF_len HG.out.2 (Nat.le_trans HS.out.len (by decide)) HKS.out);clear hK;obtain⟨km,v,us,M,hU⟩:=HS.out;obtain⟨no,nc,rfl,hn1,hn2,hn3⟩:=hU.row.form;have hnm:nc<=9223372036854775807:=hn2;obtain⟨n,hn⟩:∃ n,n=us.length:=⟨_,rfl⟩;rw[<-hn] at hU hn1;have HN:Hid (n=s.length):=Lib.hid (by rw[hn];exact hU.len);have HUS:=Lib.hid hn;have HU:=Lib.hid hU;clear hU hn hn3;have HMP:=Lib.hid HU.out.mp
 have HBs:=Lib.hid HU.out.bk;have HBs:=Lib.hid HU.out.bk;by_cases hin:t ∈ s
 ·obtain⟨i,hi⟩:∃ i,i=idx s t:=⟨_,rfl⟩;have HSI:Hid (s[i]?=some t):=Lib.hid (by rw[hi];exact idx_get hin);have HMK:Hid (M K=some (.int .i64 ((i:Nat):Int))):=Lib.hid (by rw[HKK.out];exact HU.out.m1 i t HSI.out);clear hi hin;obtain⟨d0,d1,fd0,fd1⟩:=cells2V HBs.out;obtain⟨⟨c0,c1,c2,c3,c4⟩,fc0,fc1,fc2,fc3,fc4⟩:=cells5V HBf.out;go_wp2_with (first | (at_lookup;refine wp_look_ok _ rfl _ _ 160 rfl 9 116 Tryz.underlying9 Tryz.underlying160 (zeroId _) km M rfl HMP.out K rfl HKL.out ?_;rw[HMK.out];simp only[Option.isSome_some,Option.isSome_none,Option.getD_some,Option.getD_none]) | fail);go_ret;exact⟨i,s,rfl,HS.out,(Ext.refl s).up (Nat.zero_le _),HSI.out,Stp.of_below HW.out⟩
 have HMK:Hid (M K=none):=Lib.hid (by rw[HKK.out];exact HU.out.none hin HG.out HKS.out);have HIN:=Lib.hid hin;clear hin;have HDM:=Lib.hid HU.out.dom;have HNN:Hid (s.length<maxLen):=Lib.hid (by have:=HM.out;unfold maxLen;omega);obtain⟨d0,d1,fd0,fd1⟩:=cells2V HBs.out;obtain⟨⟨c0,c1,c2,c3,c4⟩,fc0,fc1,fc2,fc3,fc4⟩:=cells5V HBf.out;go_upto_region 6 with (first | (at_lookup;refine wp_look_ok _ rfl _ _ 160 rfl 9 116 Tryz.underlying9 Tryz.underlying160 (zeroId _) km M rfl HMP.out K rfl HKL.out ?_;rw[HMK.out];simp only[Option.isSome_some,Option.isSome_none,Option.getD_some,Option.getD_none]) | (at_mapUpdate;refine wp_update _ rfl _ _ _ 160 rfl 9 116 Tryz.underlying9 Tryz.underlying160 km M rfl HMP.out HDM.out HNN.out K rfl HKL.out _ rfl ?_;intro wz hmz hgz) | fail)
 clear d0 fd0 d1 fd1 c0 fc0 c1 fc1 c2 fc2 c3 fc3 c4 fc4;have hMO:=HMP.out.obj;obtain⟨mes,mcl,hmo⟩:=hMO;have hne1:ks≠km:=fun e=>by have h1:=HBs.out;rw[e,hmo] at h1;cases h1
 have hne2:kf≠km:=fun e=>by have h1:=HBf.out;rw[e,hmo] at h1;cases h1
 have hbk:=(hgz.block ks (lt_of_block HBs.out) (fun e=>by injection e with e;exact hne1 e)).trans HBs.out;have hbf:=(hgz.block kf (lt_of_block HBf.out) (fun e=>by injection e with e;exact hne2 e)).trans HBf.out;have hstp:Stp B ks x2 wz:=.of_grown hgz (fun g e=>by injection e with e;subst e;exact⟨HU.out.mB,.inl ⟨mes,mcl,hmo⟩⟩) (fun e=>by injection e with e;exact hne1 e);have hrow:nR.Row wz (ks+1) (.slice no n nc) us:=by
  have h0:=HU.out.row;refine⟨World.ownsRow.kept h0.own hgz ?_,fun g hg=>?_,fun _ _=>trivial⟩
  ·rcases hr:(Value.slice no n nc).ownBlock with _ | j
   ·exact .inl rfl
   refine .inr (fun e=>?_);obtain⟨c9,hc9,-⟩:=h0.n32 j hr;injection e with e;rw[e,hmo] at hc9;cases hc9
  obtain⟨c9,hc9,h32⟩:=h0.n32 g hg;refine⟨c9,(hgz.block g (lt_of_block hc9) (fun e=>?_)).trans hc9,h32⟩;injection e with e;rw[e,hmo] at hc9;cases hc9
 have hsz0:B<=wz.heap.size:=Nat.le_trans HU.out.sz hgz.size;have HLK:=Lib.hid (lt_of_block hbk);have HLM:Hid (km<wz.heap.size):=Lib.hid (Nat.lt_of_lt_of_le (lt_of_block hmo) hgz.size);have HROW:=Lib.hid hrow;have HSTP:=Lib.hid hstp;have HBS:=Lib.hid hbk;have HBF:=Lib.hid hbf;have HMZ:=Lib.hid hmz;have HNL:Hid (us.length=n):=Lib.hid HUS.out.symm;clear hrow hstp hbk hbf hmz hgz hmo hne1 hne2 hsz0 HBs HBf;have HNE:Hid (∀ i j,i<10->j<10->i≠j->(fun i=>[36,37,38,39,40,41,42,43,44,45].getD i 0) i≠(fun i=>[36,37,38,39,40,41,42,43,44,45].getD i 0) j):=Lib.hid (fun i j hi hj=>(show ∀ i,i<10->∀ j,j<10->i≠j->(fun i=>[36,37,38,39,40,41,42,43,44,45].getD i 0) i≠(fun i=>[36,37,38,39,40,41,42,43,44,45].getD i 0) j by decide) i hi j hj)
 have HL9:Hid (∀ i,i<10->(fun i=>[36,37,38,39,40,41,42,43,44,45].getD i 0) i<46):=Lib.hid (by decide);refine Rel9.region (by kernel_rfl) [[],[],[1],[1,2],[1,2,3],[],[],[5,6],[5,6,7],[1,2,3,4,5,6,7,8],[0,1,2,3,4,5,6,7,8,9],[0,1,2,3,4,5,6,7,8,9,10],[0,1,2,3,4,5,6,7,8,9,10,11]] 10 (by kernel_rfl) (by kernel_rfl) (JP wz _ 10 9 (fun i=>[36,37,38,39,40,41,42,43,44,45].getD i 0) (GP B ks km) (FkP B wz ks (.slice no n nc) (.agg #[.int .i64 u.k,.bool (decide (u.n.z<0)),.slice u.n.o u.n.l u.n.c,.string u.nm,.slice u.ko u.kl u.kc]) u vo vl vc us)) (JP.start ⟨.of_below (Below.refl _ _).drew,rfl,rfl⟩) ?_ ?_
 ·intro d T wc i o hJ ho hi hd hdep hcl;have hstep:=fun (hq:(9:Nat)≠i) (v:Value) (w2:World)=>hJ.step (v:=v) (w':=w2) (fun a b h k=>GP.step h HLK.out HLM.out k) FkP.below HNE.out (fun i hi=>Nat.lt_of_lt_of_le (HL9.out i hi) (of_decide_eq_true rfl)) i hi hq
  have HJ:=Lib.hid hJ;obtain rfl | rfl | rfl | rfl | rfl | rfl | rfl | rfl | rfl | rfl:i=0\/i=1\/i=2\/i=3\/i=4\/i=5\/i=6\/i=7\/i=8\/i=9:=by omega
  ·injection ho with ho;subst ho;have es:T[0]?=some (.pointer (some ⟨ks,0,none⟩)):=(hJ.oth 0 (by decide)).trans (by rfl);clear hJ hdep hcl;refine⟨rfl,fun K9 hK=>?_⟩;have HST:=Lib.hid (hstep (by decide));clear hstep;go_simp;exact hK.out _ _ (HST.out _ _ (Below.refl _ _) rfl)
  ·injection ho with ho;subst ho;have es:T[0]?=some (.pointer (some ⟨ks,0,none⟩)):=(hJ.oth 0 (by decide)).trans (by rfl);clear hJ hdep hcl;refine⟨rfl,fun K9 hK=>?_⟩;have HST:=Lib.hid (hstep (by decide));clear hstep;go_simp;exact hK.out _ _ (HST.out _ _ (Below.refl _ _) rfl)
  ·injection ho with ho;subst ho;obtain⟨s1,e37,rfl⟩:=hJ.val 1 (by decide) (hdep 1 (by rfl));replace e37:T[37]?=_:=e37;clear hJ hdep hcl;refine⟨rfl,fun K9 hK=>?_⟩;have HST:=Lib.hid (hstep (by decide));clear hstep;go_simp;exact hK.out _ _ (HST.out _ _ (Below.refl _ _) rfl)
  ·injection ho with ho;subst ho;obtain⟨s2,e38,rfl⟩:=hJ.val 2 (by decide) (hdep 2 (by rfl));replace e38:T[38]?=_:=e38;clear hJ hdep hcl;refine⟨rfl,fun K9 hK=>?_⟩;have HST:=Lib.hid (hstep (by decide));clear hstep;go_simp;exact hK.out _ _ (HST.out _ _ (Below.refl _ _) rfl)
  ·injection ho with ho;subst ho;obtain⟨s3,e39,rfl⟩:=hJ.val 3 (by decide) (hdep 3 (by rfl));replace e39:T[39]?=_:=e39;have hbl:=hJ.bl (by cases h9:d 9 with | false=>rfl | true=>exact absurd (hcl 9 4 h9 (by rfl)) (by rw[hd];exact Bool.false_ne_true));have hBq:=(hbl.block _ HLK.out).trans HBS.out;have q0:=cell_at (v:=.slice no n nc) hBq 1 rfl;clear hBq hbl hJ hdep hcl;refine⟨rfl,fun K9 hK=>?_⟩;have HST:=Lib.hid (hstep (by decide));clear hstep;go_simp;exact hK.out _ _ (HST.out _ _ (Below.refl _ _) rfl)
  ·injection ho with ho;subst ho;have es:T[4]?=some (.pointer (some ⟨kf,0,none⟩)):=(hJ.oth 4 (by decide)).trans (by rfl);have hbl:=hJ.bl (by cases h9:d 9 with | false=>rfl | true=>exact absurd (hcl 9 5 h9 (by rfl)) (by rw[hd];exact Bool.false_ne_true));have hBq:=(hbl.block _ (lt_of_block HBF.out)).trans HBF.out;have q0:=cell_at (v:=.int .i64 u.k) hBq 0 rfl;have q1:=cell_at (v:=.bool (decide (u.n.z<0))) hBq 1 rfl;have q2:=cell_at (v:=.slice u.n.o u.n.l u.n.c) hBq 2 rfl;have q3:=cell_at (v:=.string u.nm) hBq 3 rfl;have q4:=cell_at (v:=.slice u.ko u.kl u.kc) hBq 4 rfl;clear hBq hbl hJ hdep hcl;refine⟨rfl,fun K9 hK=>?_⟩;have HST:=Lib.hid (hstep (by decide));clear hstep;go_simp;exact hK.out _ _ (HST.out _ _ (Below.refl _ _) rfl)
  ·injection ho with ho;subst ho;have es:T[2]?=some (.slice vo vl vc):=(hJ.oth 2 (by decide)).trans (by rfl);clear hJ hdep hcl;refine⟨rfl,fun K9 hK=>?_⟩;have HST:=Lib.hid (hstep (by decide));clear hstep;go_simp;exact hK.out _ _ (HST.out _ _ (Below.refl _ _) rfl)
  ·injection ho with ho;subst ho;obtain⟨s5,e41,rfl⟩:=hJ.val 5 (by decide) (hdep 5 (by rfl));replace e41:T[41]?=_:=e41;obtain⟨s6,e42,rfl⟩:=hJ.val 6 (by decide) (hdep 6 (by rfl));replace e42:T[42]?=_:=e42;clear hJ hdep hcl;refine⟨rfl,fun K9 hK=>?_⟩;have HST:=Lib.hid (hstep (by decide));clear hstep;go_simp;exact hK.out _ _ (HST.out _ _ (Below.refl _ _) rfl)
  ·injection ho with ho;subst ho;obtain⟨s7,e43,rfl⟩:=hJ.val 7 (by decide) (hdep 7 (by rfl));replace e43:T[43]?=_:=e43;have hsw:=hJ.be.1.size;clear hJ hdep hcl;refine⟨rfl,fun K9 hK=>?_⟩;have HST:=Lib.hid (hstep (by decide));clear hstep;go_simp;exact hK.out _ _ (HST.out _ _ ((Below.refl _ _).alloc (Nat.le_refl _) _) ⟨_,rfl,hsw,heap_alloc_new wc _⟩)
  injection ho with ho;subst ho;obtain⟨s4,e40,rfl⟩:=hJ.val 4 (by decide) (hdep 4 (by rfl));replace e40:T[40]?=_:=e40;obtain⟨s8,e44,g,rfl,hg1,hg2⟩:=hJ.val 8 (by decide) (hdep 8 (by rfl));replace e44:T[44]?=_:=e44;have hbl:=hJ.bl hd;clear hdep hcl hstep;refine⟨rfl,fun K9 hK=>?_⟩;have hx:nR.At wc (.slice (some ⟨g,0,none⟩) 1 1) [⟨u,vo,vl,vc,false⟩]:=El.At.block (E:=nR) (el:=[⟨u,vo,vl,vc,false⟩]) hg2 (by show 1<=maxLen;decide) (fun _ _=>trivial);have hr0:=El.Row.below HROW.out hbl;obtain⟨v9,w9,r1,r2,r3,r4,r5⟩:=hr0.run hx 161 (by have h1:=HNL.out;have h2:=HN.out;have h3:=HM.out;simp only[lsc,lsn];omega) (Nat.le_trans HLK.out hbl.size);have hfre:=row_fresh hr0 hx (by simp) (by have h1:=HNL.out;have h2:=HN.out;have h3:=HM.out;simp only[lsc,lsn];omega) 161 r1;have hbz:=hbl.size
  refine wp_appendF (.tmp 40) (.tmp 44) rfl (by simp[Act.eval,e40]) (by simp[Act.eval,e44]) r1 (hK.out _ _ ?_);have hown:∀ j,(Value.slice no n nc).ownBlock=some j->Own B ks wc j:=fun j hj=>by
   obtain⟨c9,hc9,h32⟩:=hr0.n32 j hj;have hks9:=hJ.be.2.1.trans HBS.out;have hkj:=(hr0.ge hj).1;exact⟨Nat.le_trans HU.out.kB (by omega),.inr ⟨c9,_,hc9,.inr ⟨rfl,hkj,_,_,hks9,hj⟩,h32⟩⟩
  have hgp:GP B ks km wz w9:=by
   have h1:=hJ.be;have hks9:=h1.2.1.trans HBS.out;refine⟨h1.1.trans (.of_grown r5 hown (fun e=>by have h2:=(hr0.ge e.symm).1;omega)),?_,?_⟩
   ·refine (r5.block ks (lt_of_block hks9) (fun e=>?_)).trans h1.2.1;obtain⟨c9,hc9,-⟩:=hr0.n32 ks e.symm;rw[hks9] at hc9;injection hc9 with hc9;injection hc9 with _ hc9;exact absurd hc9 (by decide)
   obtain⟨mes2,mcl2,hm2⟩:=HMZ.out.obj;have hkm9:=h1.2.2.trans hm2;refine (r5.block km (lt_of_block hkm9) (fun e=>?_)).trans h1.2.2;obtain⟨c9,hc9,-⟩:=hr0.n32 km e.symm;rw[hkm9] at hc9;cases hc9
  refine HJ.out.turn (by decide) HNE.out (fun i hi=>Nat.lt_of_lt_of_le (HL9.out i hi) (of_decide_eq_true rfl)) _ hgp ⟨r2,fun g hg=>(hfre g hg).imp id (fun h=>Nat.le_trans hbz h)⟩ (fun k hk hkq _ x hx=>?_);have h10:k=0\/k=1\/k=2\/k=3\/k=4\/k=5\/k=6\/k=7\/k=8:=by omega
  rcases h10 with rfl | rfl | rfl | rfl | rfl | rfl | rfl | rfl | rfl<;>first | exact hx | skip
  obtain⟨g2,h1,h2,h3⟩:=hx;refine⟨g2,h1,h2,(r5.block g2 (lt_of_block h3) (fun e=>?_)).trans h3⟩;obtain⟨c9,hc9,-⟩:=HROW.out.n32 g2 e.symm;have h4:=lt_of_block hc9;omega
 intro T wt hJ;obtain⟨s0,a0,b0⟩:=hJ.val 0 (by decide) rfl;obtain⟨s1,a1,b1⟩:=hJ.val 1 (by decide) rfl;obtain⟨s2,a2,b2⟩:=hJ.val 2 (by decide) rfl;obtain⟨s3,a3,b3⟩:=hJ.val 3 (by decide) rfl;obtain⟨s4,a4,b4⟩:=hJ.val 4 (by decide) rfl;obtain⟨s5,a5,b5⟩:=hJ.val 5 (by decide) rfl;obtain⟨s6,a6,b6⟩:=hJ.val 6 (by decide) rfl;obtain⟨s7,a7,b7⟩:=hJ.val 7 (by decide) rfl;obtain⟨s8,a8,b8⟩:=hJ.val 8 (by decide) rfl;obtain⟨s9,a9,b9⟩:=hJ.val 9 (by decide) rfl;subst b0;subst b1;subst b2;subst b3;subst b4;subst b5;subst b6;subst b7;obtain⟨g8,rfl,-,-⟩:=b8;obtain⟨hR9,hfre⟩:nR.Row wt (ks+1) s9 (us++[(⟨u,vo,vl,vc,false⟩:NdU)])/\∀ g,s9.ownBlock=some g->(Value.slice no n nc).ownBlock=some g\/wz.heap.size<=g:=b9;have hgp:=hJ.be;obtain⟨so,sc,rfl,-,-,-⟩:=hR9.form
 rw[show (us++[(⟨u,vo,vl,vc,false⟩:NdU)]).length=n+1 by rw[lsa,HNL.out];rfl] at hR9 a9 hfre;have hfr:=frame_10 (s0:=36) (s1:=37) (s2:=38) (s3:=39) (s4:=40) (s5:=41) (s6:=42) (s7:=43) (s8:=44) (s9:=45) hJ.sz (by intro s hs;simp only[List.mem_cons,List.not_mem_nil,or_false] at hs;rcases hs with rfl | rfl | rfl | rfl | rfl | rfl | rfl | rfl | rfl | rfl<;>exact of_decide_eq_true rfl) a0 a1 a2 a3 a4 a5 a6 a7 a8 a9 (fun j hj=>hJ.oth j (fun i hi=>by have h9:i=0\/i=1\/i=2\/i=3\/i=4\/i=5\/i=6\/i=7\/i=8\/i=9:=(by omega);rcases h9 with rfl | rfl | rfl | rfl | rfl | rfl | rfl | rfl | rfl | rfl<;>exact hj _ (show _ ∈ [36,37,38,39,40,41,42,43,44,45] by decide)));clear hJ HNE HL9 a0 a1 a2 a3 a4 a5 a6 a7 a8 a9;rw[hfr];clear hfr;simp only[List.setIfInBounds_toArray,List.set_cons_zero,List.set_cons_succ]
 simp only[List.drop_succ_cons,List.drop_zero];have hbs:=hgp.2.1.trans HBS.out;have d0:=cell_at (v:=.map (some km)) hbs 0 rfl;have d1:=cell_at (v:=.slice no n nc) hbs 1 rfl;have fd1:=froz_at hbs 1;have HR9:=Lib.hid hR9;have HFRE:=Lib.hid hfre;clear hfre;have HGP:=Lib.hid hgp;have HBT:=Lib.hid hbs;clear hR9 hgp hbs;go_wp2_with fail;go_ret;have hg1:wt.grownBy (wt.setCell ⟨ks,1,none⟩ (.slice so (n+1) sc)) (some ks):=grown_setCell (World.grownBy.refl _ _) _;have hf1:=heap_setCell_same wt ks 1 _ _ (.slice so (n+1) sc) HBT.out;obtain⟨W2,hW2⟩:∃ q,q=wt.setCell ⟨ks,1,none⟩ (.slice so (n+1) sc):=⟨_,rfl⟩;rw[<-hW2] at hg1 hf1 ⊢
 have h32:N32 (#[Value.map (some km),.slice no n nc]:Array Value).toList:=by intro x hx z;simp only[List.mem_cons,List.not_mem_nil,or_false] at hx;rcases hx with rfl | rfl<;>(intro h;cases h)
 have hfr2:Fr 163 wt W2:=.of_grown hg1 (fun j hj=>by injection hj with hj;subst hj;exact⟨_,HBT.out,h32⟩);have hst2:Stp B ks wz W2:=by
  have h1:=HGP.out.1;have hks:Own B ks wz ks:=⟨HU.out.kB,.inr ⟨_,_,HBS.out,.inl rfl,h32⟩⟩;refine⟨hg1.os.trans h1.os,hg1.tape.trans h1.tape,hg1.output.trans h1.output,Nat.le_trans h1.size hg1.size,fun g hg hn=>(hg1.block g (Nat.lt_of_lt_of_le hg h1.size) (fun e=>?_)).trans (h1.block g hg hn),?_⟩
  ·injection e with e;subst e;exact hn hks
  rintro g hg ⟨q1,q2,q3,q4,q5⟩;have q6:W2.heap[ks]?=some (.cells #[.map (some km),.slice so (n+1) sc] 163 (0,0)):=hf1;rw[q6] at q4;injection q4 with q4;injection q4 with q4;injection q4 with q4;injection q4 with _ q4;injection q4 with q4 _;rw[<-q4] at q5;rcases HFRE.out g q5 with h9 | h9
  ·exact⟨q1,_,_,HBS.out,h9⟩
  omega
 have hst:=HSTP.out.trans hst2;obtain⟨mes,mcl,hmo⟩:=HMZ.out.obj;have hmt:=HGP.out.2.2.trans hmo;have hkk:km≠ks:=fun e=>by have h1:=HBT.out;rw[<-e,hmt] at h1;cases h1
 have hm2:W2.heap[km]?=wz.heap[km]?:=(hg1.block km (lt_of_block hmt) (fun e=>by injection e with e;exact hkk e)).trans HGP.out.2.2;have hmp:=HMZ.out.keep hm2;rw[HKK.out,HN.out] at hmp;have hrow:=El.Row.other2 HR9.out hg1 (fun j hj e=>by subst e;obtain⟨c9,hc9,-⟩:=HR9.out.n32 j hj;rw[HBT.out] at hc9;injection hc9 with hc9;injection hc9 with _ hc9;exact absurd hc9 (by decide)) hfr2 trivial;have hbk:W2.heap[ks]?=some (.cells #[.map (some km),.slice so (n+1) sc] 163 (0,0)):=hf1;refine⟨n,s++[t],rfl,HU.out.more (u:=⟨u,vo,vl,vc,false⟩) HIN.out HG.out HKS.out HM.out hst hbk hmp hrow (HF.out.stp hst) (HV.out.stp hst) rfl,⟨[t],rfl,Nat.le_refl _⟩,?_,(Stp.of_below HW.out).trans hst⟩;rw[HN.out];simp
theorem FT.tight {w:World} {S:Nat->Prop}:∀ {d:Nat} {u:FU} {t:F},FT w S d u t->∀ {e:Nat},Tg e t->FT w S e u t
 | 0,_,_,h,_,_=>absurd h id
 | d+1,u,t,⟨h1,h2,el,h3,h4,h5,h6⟩,0,hm=>absurd hm id
 | d+1,u,t,⟨h1,h2,el,h3,h4,h5,h6⟩,e+1,hm=>⟨h1,h2,el,h3,h4,h5,fun i hi=>⟨(h6 i hi).1,(h6 i hi).2.tight (hm.2.2.2.2 _ (by rw[<-h3];exact List.mem_map_of_mem (List.getElem_mem hi)))⟩⟩
theorem FC.tight {w:World} {S:Nat->Prop} {d e:Nat} {v:Value} {t:F} (h:FC w S d v t) (hm:Tg e t):FC w S e v t:=by
 obtain⟨u,h1,h2⟩:=h;exact⟨u,h1,h2.tight hm⟩
theorem FC.stp {B k:Nat} {E:Nat->Prop} {w w':World} {d:Nat} {v:Value} {t:F} (h:FC w (NS B k E w) d v t) (hk:Stp B k w w'):FC w' (NS B k E w') d v t:=by
 obtain⟨u,h1,h2⟩:=h;exact⟨u,h1,h2.stp hk⟩
theorem putC_p {B k:Nat} {E:Nat->Prop} {L s:List F} (w:World) (h:St B k E L s w) (hm:s.length+1<=900000) (d:Nat) (v:Value) (t:F) (hf:FC w (NS B k E w) d v t) (hg:Gd t) (vi:Value) (hv:IL B k E w vi (t.kids.map (idx s))) (hks:∀ x ∈ t.kids,x ∈ s) :
  Calls Tryz.prog 119 #[.pointer (some ⟨k,0,none⟩),v,vi] w (PutPost B k E L s t 1 w):=by
 obtain⟨u,rfl,hf2⟩:=hf.tight hg.2;obtain⟨vo,vc,e,h1⟩:=id hv;subst e;exact putS_p w h hm u t hf2 hg _ _ _ hv hks
theorem St.nd {B k:Nat} {E:Nat->Prop} {L s:List F} {w:World} (h:St B k E L s w):s.Nodup:=by
 obtain⟨km,v,us,M,hU⟩:=h;exact hU.nd
theorem St.good {B k:Nat} {E:Nat->Prop} {L s:List F} {w:World} (h:St B k E L s w):∀ t ∈ s,Gd t:=by
 obtain⟨km,v,us,M,hU⟩:=h;exact hU.good
theorem ids_idx {s:List F} (hn:s.Nodup):∀ (ids:List Nat) (ts:List F),ids.map (fun i=>s[i]?)=ts.map some->ids=ts.map (idx s)
 | [],[],_=>rfl
 | [],_::_,h=>by cases h
 | _::_,[],h=>by cases h
 | i::ids,t::ts,h=>by
  rw[List.map_cons,List.map_cons] at h;injection h with h1 h2;rw[List.map_cons,<-ids_idx hn ids ts h2,idx_of hn h1]
theorem ids_mem {s:List F}:∀ (ids:List Nat) (ts:List F),ids.map (fun i=>s[i]?)=ts.map some->∀ t ∈ ts,t ∈ s
 | [],[],_,t,h=>by cases h
 | [],_::_,h,_,_=>by cases h
 | _::_,[],h,_,_=>by cases h
 | i::ids,t::ts,h,x,hx=>by
  rw[List.map_cons,List.map_cons] at h;injection h with h1 h2;rcases List.mem_cons.1 hx with rfl | hx
  ·exact List.mem_of_getElem? h1
  exact ids_mem ids ts h2 x hx
theorem ci0 (w:World):CI w (.agg #[.bool false,.slice none 0 0]) 0 600:=NR0.out w
theorem FL.stp {B k:Nat} {E:Nat->Prop} {w w':World} {d:Nat} {v:Value} {ts:List F} (h:FL w (NS B k E w) d v ts) (hk:Stp B k w w'):FL w' (NS B k E w') d v ts:=by
 obtain⟨el,h1,h2⟩:=h;exact⟨el,(Es.At.keep (fun g hg=>hk.block g hg.2 hg.1.1) hk.kn h1.lt).mono (fun g hg=>⟨hk.no hg.2 hg.1.1,hg.1.2⟩),h2⟩
theorem ofS_p {B k:Nat} {E:Nat->Prop} {L s:List F} (w:World) (h:St B k E L s w) (hm:s.length+1<=900000) (op:Int) (hop:IR op) (v:Value) (ids:List Nat) (hv:IL B k E w v ids) (ts:List F) (hi:ids.map (fun i=>s[i]?)=ts.map some) (hg:Gd (fo op ts)) :
  Calls Tryz.prog 122 #[.pointer (some ⟨k,0,none⟩),.int .i64 op,v] w (PutPost B k E L s (fo op ts) 1 w):=by
 have hl3:ts.length<=8:=hg.2.2.2.2.1;have hil:ids.length<=900000:=by have:=map_some_len hi;omega
 have HS:=Lib.hid h;have HV:=Lib.hid hv;have HI:=Lib.hid hi;have HG:=Lib.hid hg;have HM:=Lib.hid hm;have HOP:=Lib.hid hop;have HIL:=Lib.hid hil;clear h hv hi hg hm hop hl3 hil;go_enter Tryz.func122,Tryz.ntmps122;go_wp2_with fail;refine (forms_pS w HS.out v ids HV.out ts HI.out HIL.out).mono ?_;rintro e x1 ⟨v',rfl,hfl,hb⟩;obtain⟨fo_,fc,rfl,hf1,hf2,-⟩:=hfl.form;have HFL:=Lib.hid hfl;have HB:=Lib.hid hb;have hfm:fc<=9223372036854775807:=hf2;clear hfl hb hf2;go_wp2_with fail;have hfc:FC x1 (NS B k E x1) 10 (.agg #[.int .i64 op,.bool false,.slice none 0 0,.string ⟨#[]⟩,.slice fo_ ts.length fc]) (fo op ts):=FC.mk (nm:=⟨#[]⟩) HOP.out (ci0 x1) HFL.out;have hs1:=HS.out.below HB.out;have hv1:=HV.out.stp (Stp.of_below HB.out);rw[ids_idx hs1.nd ids ts HI.out] at hv1
 refine (putC_p x1 hs1 HM.out 10 _ _ hfc HG.out _ hv1 (ids_mem ids ts HI.out)).mono ?_;rintro e x2 ⟨i,s',rfl,h1,h2,h3,h4⟩;have H1:=Lib.hid h1;have H2:=Lib.hid h2;have H3:=Lib.hid h3;have H4:=Lib.hid ((Stp.of_below HB.out).trans h4);clear h1 h2 h3 h4 hfc hs1 hv1;go_wp2_with fail;go_ret;exact⟨i,s',rfl,H1.out,H2.out,H3.out,H4.out⟩
theorem gd_n {n:Int} (h:n.natAbs<L32 ^ 4):Gd (nF n):=⟨rfl,(qn (d:=5) (e:=9) h (by omega)).2.g⟩
theorem numS_p {B k:Nat} {E:Nat->Prop} {L s:List F} (w:World) (h:St B k E L s w) (hm:s.length+1<=900000) (n:Int) (h1 : -9223372036854775808<=n) (h2:n<=9223372036854775807) :
  Calls Tryz.prog 127 #[.pointer (some ⟨k,0,none⟩),.int .i64 n] w (PutPost B k E L s (nF n) 1 w):=by
 have HS:=Lib.hid h;have HM:=Lib.hid hm;have HN:Hid (n.natAbs<L32 ^ 4):=Lib.hid (Nat.lt_of_le_of_lt (show n.natAbs<=9223372036854775808 by omega) (by decide));have HR:Hid (-9223372036854775808<=n/\n<=9223372036854775807):=Lib.hid ⟨h1,h2⟩;clear h hm h1 h2;go_enter Tryz.func127,Tryz.ntmps127;go_wp2_with fail;refine (int_p n w HR.out.1 HR.out.2).mono ?_;rintro e x1 ⟨b,o,l,c,rfl,hc,hb⟩;have HC:=Lib.hid hc;have HB:=Lib.hid hb;clear hc hb;go_wp2_with fail;have hfc:FC x1 (NS B k E x1) 1 (.agg #[.int .i64 0,.bool b,.slice o l c,.string ⟨#[]⟩,.slice none 0 0]) (nF n):=FC.mk (op:=0) (nm:=⟨#[]⟩) ⟨by decide,by decide⟩ HC.out (FL.nil x1 (NS B k E x1) 0);refine (putC_p x1 (HS.out.below HB.out) HM.out 1 _ _ hfc (gd_n HN.out) _ (IL.nil B k E x1) (fun x hx=>by cases hx)).mono ?_
 rintro e x2 ⟨i,s',rfl,h1,h2,h3,h4⟩;have H1:=Lib.hid h1;have H2:=Lib.hid h2;have H3:=Lib.hid h3;have H4:=Lib.hid ((Stp.of_below HB.out).trans h4);clear h1 h2 h3 h4 hfc;go_wp2_with fail;go_ret;exact⟨i,s',rfl,H1.out,H2.out,H3.out,H4.out⟩
theorem gd_kid {t x:F} (h:Gd t) (hx:x ∈ t.kids):Gd x:=by
 obtain⟨o,z,nm,ks⟩:=t;exact⟨(rt_parts h.1).2.2 x hx,(show Tg 8 x from h.2.2.2.2.2 x hx).up1⟩
theorem lengthS_p {B k:Nat} {E:Nat->Prop} {L s:List F} (w:World) (h:St B k E L s w) (hm:s.length+1<=900000) (i:Nat) (a:F) (hi:s[i]?=some a) (hg:Gd (lenF a)) :
  Calls Tryz.prog 131 #[.pointer (some ⟨k,0,none⟩),.int .i64 ((i:Nat):Int)] w (PutPost B k E L s (lenF a) 1 w):=by
 have HS:=Lib.hid h;have HM:=Lib.hid hm;have HG:=Lib.hid hg;have HI:=Lib.hid hi;clear h hm hg hi;go_enter Tryz.func131,Tryz.ntmps131;obtain⟨x1,kq,eq,ekq,hbq,hkq,HBq⟩:=newV w #[.int .i64 ((i:Nat):Int)] 116;go_wp2_with fail;refine (ofS_p x1 (HS.out.below hbq.out) HM.out 6 ⟨by decide,by decide⟩ _ [i] (IL.block (cs:=[.int .i64 ((i:Nat):Int)]) HBq.out (by decide) (HS.out.fresh hkq.out) (by show 1<=maxLen;decide) rfl) [a] (by simp only[List.map_cons,List.map_nil,HI.out]) HG.out).mono ?_;rintro e x2 ⟨j,s',rfl,h1,h2,h3,h4⟩;have H1:=Lib.hid h1;have H2:=Lib.hid h2;have H3:=Lib.hid h3;have H4:=Lib.hid ((Stp.of_below hbq.out).trans h4);clear h1 h2 h3 h4;go_wp2_with fail;go_ret;exact⟨j,s',rfl,H1.out,H2.out,H3.out,H4.out⟩
theorem notS_p {B k:Nat} {E:Nat->Prop} {L s:List F} (w:World) (h:St B k E L s w) (hm:s.length+1<=900000) (i:Nat) (a:F) (hi:s[i]?=some a) (hg:Gd (notF a)) :
  Calls Tryz.prog 167 #[.pointer (some ⟨k,0,none⟩),.int .i64 ((i:Nat):Int)] w (PutPost B k E L s (notF a) 1 w):=by
 have HS:=Lib.hid h;have HM:=Lib.hid hm;have HG:=Lib.hid hg;have HI:=Lib.hid hi;clear h hm hg hi;go_enter Tryz.func167,Tryz.ntmps167;obtain⟨x1,kq,eq,ekq,hbq,hkq,HBq⟩:=newV w #[.int .i64 ((i:Nat):Int)] 116;go_wp2_with fail;refine (ofS_p x1 (HS.out.below hbq.out) HM.out 17 ⟨by decide,by decide⟩ _ [i] (IL.block (cs:=[.int .i64 ((i:Nat):Int)]) HBq.out (by decide) (HS.out.fresh hkq.out) (by show 1<=maxLen;decide) rfl) [a] (by simp only[List.map_cons,List.map_nil,HI.out]) HG.out).mono ?_;rintro e x2 ⟨j,s',rfl,h1,h2,h3,h4⟩;have H1:=Lib.hid h1;have H2:=Lib.hid h2;have H3:=Lib.hid h3;have H4:=Lib.hid ((Stp.of_below hbq.out).trans h4);clear h1 h2 h3 h4;go_wp2_with fail;go_ret;exact⟨j,s',rfl,H1.out,H2.out,H3.out,H4.out⟩
theorem leS_p {B k:Nat} {E:Nat->Prop} {L s:List F} (w:World) (h:St B k E L s w) (hm:s.length+1<=900000) (i j:Nat) (a b:F) (hi:s[i]?=some a) (hj:s[j]?=some b) (hg:Gd (leF a b)) :
  Calls Tryz.prog 130 #[.pointer (some ⟨k,0,none⟩),.int .i64 ((i:Nat):Int),.int .i64 ((j:Nat):Int)] w (PutPost B k E L s (leF a b) 1 w):=by
 have HS:=Lib.hid h;have HM:=Lib.hid hm;have HG:=Lib.hid hg;have HI:=Lib.hid hi;have HJ:=Lib.hid hj;clear h hm hg hi hj;go_enter Tryz.func130,Tryz.ntmps130;obtain⟨x1,kq,eq,ekq,hbq,hkq,HBq⟩:=newV w #[.int .i64 ((i:Nat):Int),.int .i64 ((j:Nat):Int)] 116;go_wp2_with fail;refine (ofS_p x1 (HS.out.below hbq.out) HM.out 15 ⟨by decide,by decide⟩ _ [i,j] (IL.block (cs:=[.int .i64 ((i:Nat):Int),.int .i64 ((j:Nat):Int)]) HBq.out (by decide) (HS.out.fresh hkq.out) (by show 2<=maxLen;decide) rfl) [a,b] (by simp only[List.map_cons,List.map_nil,HI.out,HJ.out]) HG.out).mono ?_;rintro e x2 ⟨q,s',rfl,h1,h2,h3,h4⟩;have H1:=Lib.hid h1;have H2:=Lib.hid h2;have H3:=Lib.hid h3;have H4:=Lib.hid ((Stp.of_below hbq.out).trans h4);clear h1 h2 h3 h4;go_wp2_with fail;go_ret;exact⟨q,s',rfl,H1.out,H2.out,H3.out,H4.out⟩
theorem sameS_p {B k:Nat} {E:Nat->Prop} {L s:List F} (w:World) (h:St B k E L s w) (hm:s.length+1<=900000) (i j:Nat) (a b:F) (hi:s[i]?=some a) (hj:s[j]?=some b) (hg:Gd (eqfF a b)) :
  Calls Tryz.prog 121 #[.pointer (some ⟨k,0,none⟩),.int .i64 ((i:Nat):Int),.int .i64 ((j:Nat):Int)] w (PutPost B k E L s (eqfF a b) 1 w):=by
 have HS:=Lib.hid h;have HM:=Lib.hid hm;have HG:=Lib.hid hg;have HI:=Lib.hid hi;have HJ:=Lib.hid hj;clear h hm hg hi hj;go_enter Tryz.func121,Tryz.ntmps121;obtain⟨x1,kq,eq,ekq,hbq,hkq,HBq⟩:=newV w #[.int .i64 ((i:Nat):Int),.int .i64 ((j:Nat):Int)] 116;go_wp2_with fail;refine (ofS_p x1 (HS.out.below hbq.out) HM.out 16 ⟨by decide,by decide⟩ _ [i,j] (IL.block (cs:=[.int .i64 ((i:Nat):Int),.int .i64 ((j:Nat):Int)]) HBq.out (by decide) (HS.out.fresh hkq.out) (by show 2<=maxLen;decide) rfl) [a,b] (by simp only[List.map_cons,List.map_nil,HI.out,HJ.out]) HG.out).mono ?_;rintro e x2 ⟨q,s',rfl,h1,h2,h3,h4⟩;have H1:=Lib.hid h1;have H2:=Lib.hid h2;have H3:=Lib.hid h3;have H4:=Lib.hid ((Stp.of_below hbq.out).trans h4);clear h1 h2 h3 h4;go_wp2_with fail;go_ret;exact⟨q,s',rfl,H1.out,H2.out,H3.out,H4.out⟩
theorem eitherS_p {B k:Nat} {E:Nat->Prop} {L s:List F} (w:World) (h:St B k E L s w) (hm:s.length+1<=900000) (v:Value) (ids:List Nat) (hv:IL B k E w v ids) (ts:List F) (hi:ids.map (fun i=>s[i]?)=ts.map some) (hg:Gd (orF ts)) :
  Calls Tryz.prog 125 #[.pointer (some ⟨k,0,none⟩),v] w (PutPost B k E L s (orF ts) 1 w):=by
 have HS:=Lib.hid h;have HM:=Lib.hid hm;have HG:=Lib.hid hg;have HV:=Lib.hid hv;have HI:=Lib.hid hi;clear h hm hg hv hi;go_enter Tryz.func125,Tryz.ntmps125;go_wp2_with fail;refine (ofS_p w HS.out HM.out 19 ⟨by decide,by decide⟩ _ ids HV.out ts HI.out HG.out).mono ?_;rintro e x2 ⟨q,s',rfl,h1,h2,h3,h4⟩;have H1:=Lib.hid h1;have H2:=Lib.hid h2;have H3:=Lib.hid h3;have H4:=Lib.hid h4;clear h1 h2 h3 h4;go_wp2_with fail;go_ret;exact⟨q,s',rfl,H1.out,H2.out,H3.out,H4.out⟩
theorem nextS_p {B k:Nat} {E:Nat->Prop} {L s:List F} (w:World) (h:St B k E L s w) (hm:s.length+2<=900000) (i:Nat) (a:F) (hi:s[i]?=some a) (hg:Gd (addF a (nF 1))) :
  Calls Tryz.prog 132 #[.pointer (some ⟨k,0,none⟩),.int .i64 ((i:Nat):Int)] w (PutPost B k E L s (addF a (nF 1)) 2 w):=by
 have HS:=Lib.hid h;have HM:=Lib.hid hm;have HG:=Lib.hid hg;have HI:=Lib.hid hi;clear h hm hg hi;go_enter Tryz.func132,Tryz.ntmps132;go_wp2_with fail;refine (numS_p w HS.out (by have:=HM.out;omega) 1 (by decide) (by decide)).mono ?_;rintro e x1 ⟨j,s1,rfl,h1,h2,h3,h4⟩;have H1:=Lib.hid h1;have H2:=Lib.hid h2;have H3:=Lib.hid h3;have H4:=Lib.hid h4;clear h1 h2 h3 h4;obtain⟨x2,kq,eq,ekq,hbq,hkq,HBq⟩:=newV x1 #[.int .i64 ((i:Nat):Int),.int .i64 ((j:Nat):Int)] 116;go_wp2_with fail
 refine (ofS_p x2 (H1.out.below hbq.out) (by have:=HM.out;have:=H2.out.len;omega) 2 ⟨by decide,by decide⟩ _ [i,j] (IL.block (cs:=[.int .i64 ((i:Nat):Int),.int .i64 ((j:Nat):Int)]) HBq.out (by decide) (H1.out.fresh hkq.out) (by show 2<=maxLen;decide) rfl) [a,nF 1] (by simp only[List.map_cons,List.map_nil,H2.out.get HI.out,H3.out]) HG.out).mono ?_;rintro e x3 ⟨q,s2,rfl,h1,h2,h3,h4⟩;have G1:=Lib.hid h1;have G2:=Lib.hid h2;have G3:=Lib.hid h3;have G4:=Lib.hid ((H4.out.trans (Stp.of_below hbq.out)).trans h4);clear h1 h2 h3 h4;go_wp2_with fail;go_ret;exact⟨q,s2,rfl,G1.out,H2.out.trans G2.out (by omega),G3.out,G4.out⟩
theorem filledS_p {B k:Nat} {E:Nat->Prop} {L s:List F} (w:World) (h:St B k E L s w) (hm:s.length+3<=900000) (i:Nat) (a:F) (hi:s[i]?=some a) (hg:Gd (fillF a)) :
  Calls Tryz.prog 126 #[.pointer (some ⟨k,0,none⟩),.int .i64 ((i:Nat):Int)] w (PutPost B k E L s (fillF a) 3 w):=by
 have HS:=Lib.hid h;have HM:=Lib.hid hm;have HG:=Lib.hid hg;have HI:=Lib.hid hi;clear h hm hg hi;go_enter Tryz.func126,Tryz.ntmps126;go_wp2_with fail;refine (numS_p w HS.out (by have:=HM.out;omega) 1 (by decide) (by decide)).mono ?_;rintro e x1 ⟨j,s1,rfl,h1,h2,h3,h4⟩;have H1:=Lib.hid h1;have H2:=Lib.hid h2;have H3:=Lib.hid h3;have H4:=Lib.hid h4;clear h1 h2 h3 h4;go_wp2_with fail;refine (lengthS_p x1 H1.out (by have:=HM.out;have:=H2.out.len;omega) i a (H2.out.get HI.out) (gd_kid HG.out (by simp[fillF,leF,fo,F.kids]))).mono ?_;rintro e x2 ⟨p,s2,rfl,h1,h2,h3,h4⟩;have G1:=Lib.hid h1;have G2:=Lib.hid h2;have G3:=Lib.hid h3;have G4:=Lib.hid (H4.out.trans h4);clear h1 h2 h3 h4;go_wp2_with fail
 refine (leS_p x2 G1.out (by have:=HM.out;have:=H2.out.len;have:=G2.out.len;omega) j p (nF 1) (lenF a) (G2.out.get H3.out) G3.out HG.out).mono ?_;rintro e x3 ⟨q,s3,rfl,h1,h2,h3,h4⟩;have K1:=Lib.hid h1;have K2:=Lib.hid h2;have K3:=Lib.hid h3;have K4:=Lib.hid (G4.out.trans h4);clear h1 h2 h3 h4;go_wp2_with fail;go_ret;exact⟨q,s3,rfl,K1.out,(H2.out.trans G2.out (Nat.le_refl _)).trans K2.out (by omega),K3.out,K4.out⟩
def sumD (cost:Nat->Nat) (d:Nat->Bool):Nat->Nat
 | 0=>0
 | n+1=>sumD cost d n+if d n then cost n else 0
theorem sumD_upd {cost:Nat->Nat} {d:Nat->Bool} {n i:Nat} (hd:d i=false):sumD cost (Rel9.upd d i) n=sumD cost d n+if i<n then cost i else 0:=by
 induction n with
 | zero=>rfl
 | succ n ih =>
  rw[sumD,sumD,ih];by_cases e:i=n
  ·subst e;have h2:Rel9.upd d i i=true:=by unfold Rel9.upd;simp
   rw[h2,hd,if_neg (Nat.lt_irrefl _),if_pos (Nat.lt_succ_self _)];simp
  have h2:Rel9.upd d i n=d n:=upd_ne' (fun h=>e h.symm);rw[h2];by_cases hl:i<n
  ·rw[if_pos hl,if_pos (show i<n+1 by omega)];omega
  rw[if_neg hl,if_neg (show ¬ i<n+1 by omega)];omega
theorem sumD_le (cost:Nat->Nat) (d:Nat->Bool):∀ n,sumD cost d n<=sumD cost (fun _=>true) n
 | 0=>Nat.le_refl _
 | n+1=>by
  have:=sumD_le cost d n;rw[sumD,sumD]
  split<;>simp<;>omega
theorem sumD_none (cost:Nat->Nat):∀ n,sumD cost (fun _=>false) n=0
 | 0=>rfl
 | n+1=>by rw[sumD,sumD_none];rfl
structure JF (B k:Nat) (E:Nat->Prop) (L:List F) (W0:World) (s0:List F) (t0:Array Value) (n:Nat) (sl cost:Nat->Nat) (Fk:Nat->Value->List F->World->Prop) (d:Nat->Bool) (T:Array Value) (w:World) (s:List F):Prop where
 st:St B k E L s w
 ext:Ext s0 s (sumD cost d n)
 be:Stp B k W0 w
 sz:T.size=t0.size
 oth:∀ j,(∀ i,i<n->j≠sl i)->T[j]?=t0[j]?
 val:∀ j,j<n->d j=true->∃ v,T[sl j]?=some v/\Fk j v s w
section
variable {B k:Nat} {E:Nat->Prop} {L:List F} {W0:World} {s0:List F} {t0:Array Value} {n:Nat} {sl cost:Nat->Nat} {Fk:Nat->Value->List F->World->Prop} {d:Nat->Bool} {T:Array Value} {w w':World} {s s':List F}
theorem JF.start (h:St B k E L s0 W0):∃ s,JF B k E L W0 s0 t0 n sl cost Fk (fun _=>false) t0 W0.drew s:=
 ⟨s0,h.below (Below.refl _ _).drew,by rw[sumD_none];exact Ext.refl s0,.of_below (Below.refl _ _).drew,rfl,fun _ _=>rfl,fun j _ h=>absurd h Bool.false_ne_true⟩
theorem JF.step (h:JF B k E L W0 s0 t0 n sl cost Fk d T w s) (hF:∀ j v (s s':List F) (w w':World),(∃ c,Ext s s' c)->Stp B k w w'->Fk j v s w->Fk j v s' w') (hne:∀ i j,i<n->j<n->i≠j->sl i≠sl j) (hlt:∀ i,i<n->sl i<t0.size) (i:Nat) (hi:i<n) (hd:d i=false) (v:Value)
  (hst:St B k E L s' w') (he:Ext s s' (cost i)) (hb:Stp B k w w') (h1:Fk i v s' w'):∃ s,JF B k E L W0 s0 t0 n sl cost Fk (Rel9.upd d i) (T.setIfInBounds (sl i) v) w' s:=by
 have hsz:sl i<T.size:=by rw[h.sz];exact hlt i hi
 refine⟨s',hst,h.ext.trans he (by rw[sumD_upd hd,if_pos hi];exact Nat.le_refl _),h.be.trans hb,by rw[Array.size_setIfInBounds,h.sz],fun j hj=>?_,fun j hj hu=>?_⟩
 ·rw[set_ne (hj i hi)];exact h.oth j hj
 by_cases hki:j=i
 ·subst hki;exact⟨v,set_eq hsz,h1⟩
 rw[upd_ne' hki] at hu;obtain⟨x,hx,hf⟩:=h.val j hj hu;exact⟨x,by rw[set_ne (hne j i hj hi hki)];exact hx,hF j x s s' w w' ⟨_,he⟩ hb hf⟩
theorem JF.room (h:JF B k E L W0 s0 t0 n sl cost Fk d T w s) (i:Nat) (hi:i<n) (hd:d i=false) {N:Nat} (hN:s0.length+sumD cost (fun _=>true) n<=N):s.length+cost i<=N:=by
 have h1:=h.ext.len;have h2:=sumD_le cost (Rel9.upd d i) n;rw[sumD_upd hd,if_pos hi] at h2
 omega
end
inductive Vs (T:Array Value) (sl:Nat->Nat):Nat->List Value->Prop
 | nil {j:Nat}:Vs T sl j []
 | cons {j:Nat} {v:Value} {l:List Value} (a:T[sl j]?=some v) (h:Vs T sl (j+1) l):Vs T sl j (v::l)
def fillW (sl:Nat->Nat):List Value->Nat->Array Value->Array Value
 | [],_,t=>t
 | v::l,j,t=>fillW sl l (j+1) (t.setIfInBounds (sl j) v)
theorem Vs.fill {T:Array Value} {sl:Nat->Nat}:∀ {vs:List Value} {j:Nat} {t:Array Value},Vs T sl j vs->T.size=t.size->(∀ i,j<=i->i<j+vs.length->sl i<t.size)->(∀ q,(∀ i,j<=i->i<j+vs.length->q≠sl i)->T[q]?=t[q]?)->T=fillW sl vs j t
 | [],j,t,_,hs,_,ho=>Array.ext_getElem? fun q=>ho q fun i h1 h2=>by simp only[lsn] at h2;omega
 | v::l,j,t,.cons a h,hs,hl,ho=>by
  show T=fillW sl l (j+1) (t.setIfInBounds (sl j) v)
  refine Vs.fill h (by rw[Array.size_setIfInBounds];exact hs) (fun i h1 h2=>?_) (fun q hq=>?_)
  ·rw[Array.size_setIfInBounds];exact hl i (by omega) (by rw[lsc];omega)
  by_cases e:q=sl j
  ·subst e;rw[set_eq (hl j (Nat.le_refl _) (by rw[lsc];omega))];exact a
  rw[set_ne e];refine ho q fun i h1 h2=>?_
  by_cases e2:i=j
  ·rw[e2];exact e
  exact hq i (by omega) (by rw[lsc] at h2;omega)
def IdF (v:Value) (t:F) (s:List F):Prop:=∃ i:Nat,v=.int .i64 ((i:Nat):Int)/\s[i]?=some t
theorem IdF.ext {v:Value} {t:F} {s s':List F} {c:Nat} (h:IdF v t s) (he:Ext s s' c):IdF v t s':=by
 obtain⟨i,h1,h2⟩:=h;exact⟨i,h1,he.get h2⟩
def IdL (B k:Nat) (E:Nat->Prop) (v:Value) (ts:List F) (s:List F) (w:World):Prop:=∃ ids,IL B k E w v ids/\ids.map (fun i=>s[i]?)=ts.map some
theorem IdL.ext {B k:Nat} {E:Nat->Prop} {v:Value} {ts:List F} {s s':List F} {w w':World} {c:Nat} (h:IdL B k E v ts s w) (he:Ext s s' c) (hb:Stp B k w w'):IdL B k E v ts s' w':=by
 obtain⟨ids,h1,h2⟩:=h;refine⟨ids,h1.stp hb,?_⟩;have key:∀ (l:List Nat) (ts:List F),l.map (fun i=>s[i]?)=ts.map some->l.map (fun i=>s'[i]?)=ts.map some:=by
  intro l;induction l with
  | nil=>intro ts h;cases ts with | nil=>rfl | cons a m=>cases h
  | cons i l ih =>
   intro ts h;cases ts with
   | nil=>cases h
   | cons a m =>
    rw[List.map_cons,List.map_cons] at h;injection h with e1 e2;rw[List.map_cons,List.map_cons,ih m e2,he.get e1]
 exact key ids ts h2
section
variable {B k:Nat} {E:Nat->Prop} {L:List F} {W0:World} {s0:List F} {t0:Array Value} {n:Nat} {sl cost:Nat->Nat} {Fk:Nat->Value->List F->World->Prop} {d:Nat->Bool} {T:Array Value} {w:World} {s:List F}
theorem JF.vE (h:JF B k E L W0 s0 t0 n sl cost Fk d T w s) (j q:Nat) (hq:sl j=q) (hj:j<n) (hd:d j=true) {V:Value} (hF:∀ v,Fk j v s w->v=V):T[q]?=some V:=by
 obtain⟨v,e,f⟩:=h.val j hj hd;rw[<-hq,e,hF v f]
theorem JF.vI (h:JF B k E L W0 s0 t0 n sl cost Fk d T w s) (j q:Nat) (hq:sl j=q) (hj:j<n) (hd:d j=true) {t:F} (hF:∀ v,Fk j v s w->IdF v t s):∃ i:Nat,T[q]?=some (.int .i64 ((i:Nat):Int))/\Hid (s[i]?=some t):=by
 obtain⟨v,e,f⟩:=h.val j hj hd;obtain⟨i,rfl,hi⟩:=hF v f;exact⟨i,by rw[<-hq,e],Lib.hid hi⟩
theorem JF.fin (h:JF B k E L W0 s0 t0 n sl cost Fk d T w s) (hlt:∀ i,i<n->sl i<t0.size) {vs:List Value} (hl:vs.length=n) (hv:Vs T sl 0 vs):T=fillW sl vs 0 t0:=
 hv.fill h.sz (fun i _ h2=>hlt i (by omega)) (fun q hq=>h.oth q (fun i hi=>hq i (Nat.zero_le _) (by omega)))
end
def JX (B k:Nat) (E:Nat->Prop) (L:List F) (W0:World) (s0:List F) (t0:Array Value) (n:Nat) (sl cost:Nat->Nat) (Fk:Nat->Value->List F->World->Prop) (d:Nat->Bool) (T:Array Value) (w:World):Prop:=∃ s,JF B k E L W0 s0 t0 n sl cost Fk d T w s
theorem CI.shapeF {w:World} {v:Value} {z:Int} {k:Nat} (h:CI w v z k):∃ b o l c,v=.agg #[.bool b,.slice o l c]:=by
 obtain⟨va,rfl,⟨o,c,rfl,-⟩,-⟩:=h;exact⟨_,_,_,_,rfl⟩
theorem CI.lowF {w:World} {v:Value} {z:Int} {k k':Nat} (h:CI w v z k) (hz:z.natAbs<L32 ^ k'):CI w v z k':=by
 obtain⟨va,h1,h2,-⟩:=h;exact⟨va,h1,h2,hz⟩
theorem FL.shapeF {w:World} {S:Nat->Prop} {d:Nat} {v:Value} {ts:List F} (h:FL w S d v ts):∃ o l c,v=.slice o l c:=by
 obtain⟨el,⟨ko,kc,e,-⟩,-⟩:=h;exact⟨_,_,_,e⟩
theorem FC.shapeF {w:World} {S:Nat->Prop} {d:Nat} {v:Value} {t:F} (h:FC w S d v t):∃ x,v=.agg x:=by
 obtain⟨u,e,-⟩:=h;exact⟨_,e⟩
def BlkF (v:Value) (t:F) (s:List F) (w:World):Prop:=∃ g i:Nat,v=.slice (some ⟨g,0,none⟩) 1 1/\w.heap[g]?=some (.cells #[.int .i64 ((i:Nat):Int)] 116 (0,0))/\s[i]?=some t
theorem BlkF.ext {B k:Nat} {v:Value} {t:F} {s s':List F} {w w':World} {c:Nat} (h:BlkF v t s w) (he:Ext s s' c) (hb:Stp B k w w'):BlkF v t s' w':=by
 obtain⟨g,i,h1,h2,h3⟩:=h;exact⟨g,i,h1,(hb.block g (lt_of_block h2) (NO.cells h2 (by decide))).trans h2,he.get h3⟩
inductive FD where
 | any
 | eqv (v:Value)
 | idf (t:F)
 | idl (ts:List F)
 | blk (t:F)
 | fl (ts:List F)
 | fc (t:F)
 | ci (z:Int) (n:Nat)
def FD.holds (B k:Nat) (E:Nat->Prop):FD->Value->List F->World->Prop
 | .any,_,_,_=>True
 | .eqv x,v,_,_=>v=x
 | .idf t,v,s,_=>IdF v t s
 | .idl ts,v,s,w=>IdL B k E v ts s w
 | .blk t,v,s,w=>BlkF v t s w
 | .fl ts,v,_,w=>FL w (NS B k E w) 9 v ts
 | .fc t,v,_,w=>FC w (NS B k E w) 10 v t
 | .ci z n,v,_,w=>CI w v z n
def fdF (B k:Nat) (E:Nat->Prop) (l:List FD) (j:Nat) (v:Value) (s:List F) (w:World):Prop:=(l.getD j .any).holds B k E v s w
theorem fdF_st {B k:Nat} {E:Nat->Prop} (l:List FD):∀ j v (s s':List F) (w w':World),(∃ c,Ext s s' c)->Stp B k w w'->fdF B k E l j v s w->fdF B k E l j v s' w':=by
 rintro j v s s' w w' ⟨c,he⟩ hb h;unfold fdF at h ⊢;cases hd:l.getD j .any with
 | any=>trivial
 | eqv x=>rw[hd] at h;exact h
 | idf t=>rw[hd] at h;exact IdF.ext h he
 | idl ts=>rw[hd] at h;exact IdL.ext h he hb
 | blk t=>rw[hd] at h;exact BlkF.ext h he hb
 | fl ts=>rw[hd] at h;exact FL.stp h hb
 | fc t=>rw[hd] at h;exact FC.stp h hb
 | ci z n=>rw[hd] at h;exact CI.kn h hb.kn
def bs (P:Nat->Prop) (v:Value):Nat->Prop:=fun b=>v.ownBlock≠some b/\P b
def Fs (w:World) (S:Nat->Prop) (us:List FU) (ts:List F):Prop:=us.length=ts.length/\∃ d,∀ i (h1:i<us.length) (h2:i<ts.length),FT w S d us[i] ts[i]
theorem Fs.map {w w':World} {S S':Nat->Prop} {us:List FU} {ts:List F} (h:Fs w S us ts) (hf:∀ d u t,FT w S d u t->FT w' S' d u t):Fs w' S' us ts:=by
 obtain⟨h1,d,h2⟩:=h;exact⟨h1,d,fun i a b=>hf _ _ _ (h2 i a b)⟩
theorem Fs.nil (w:World) (S:Nat->Prop):Fs w S [] []:=⟨rfl,0,fun i h=>absurd h (Nat.not_lt_zero i)⟩
theorem Fs.cons {w:World} {S:Nat->Prop} {us:List FU} {ts:List F} {d:Nat} {u:FU} {t:F} (h:FT w S d u t) (hs:Fs w S us ts):Fs w S (u::us) (t::ts):=by
 obtain⟨h1,e,h2⟩:=hs;refine⟨by rw[lsc,lsc,h1],d+e,fun i a b=>?_⟩;cases i with
 | zero=>exact h.up (Nat.le_add_right _ _)
 | succ i=>exact (h2 i (by simpa using a) (by simpa using b)).up (Nat.le_add_left _ _)
theorem Fs.append {w:World} {S:Nat->Prop}:∀ {us vs:List FU} {ts ss:List F},Fs w S us ts->Fs w S vs ss->Fs w S (us++vs) (ts++ss)
 | [],vs,ts,ss,h,k=>by
  have:ts=[]:=List.eq_nil_of_length_eq_zero (by rw[<-h.1];rfl);rw[this];exact k
 | u::us,vs,[],ss,h,k=>by cases h.1
 | u::us,vs,t::ts,ss,h,k=>by
  obtain⟨h1,d,h2⟩:=h;exact Fs.cons (h2 0 (by simp) (by simp)) (Fs.append ⟨by simpa using h1,d,fun i a b=>h2 (i+1) (Nat.succ_lt_succ a) (Nat.succ_lt_succ b)⟩ k)
def FGl (w:World) (S:Nat->Prop) (v:Value) (ts:List F):Prop:=∃ us:List FU,fR.At w v us/\(∀ a n c,v=.slice (some a) n c->n≠0->S a.block)/\Fs w S us ts
theorem FGl.below {w w':World} {S:Nat->Prop} {v:Value} {ts:List F} (h:FGl w S v ts) (hb:Below w.heap.size w w'):FGl w' S v ts:=by
 obtain⟨us,h1,h2,h3⟩:=h;exact⟨us,h1.below hb,h2,h3.map fun _ _ _ h=>h.below hb⟩
theorem FGl.mono {w:World} {S S':Nat->Prop} {v:Value} {ts:List F} (h:FGl w S v ts) (hs:∀ b,b<w.heap.size->S b->S' b):FGl w S' v ts:=by
 obtain⟨us,h1,h2,h3⟩:=h;refine⟨us,h1,fun a n c e h0=>hs _ ?_ (h2 a n c e h0),h3.map fun _ _ _ h=>h.lt.mono fun b hb=>hs b hb.2 hb.1⟩;obtain⟨ko,kc,e2,-,h4⟩:=h1;rw[e] at e2;injection e2 with e3 e4 e5;obtain⟨a2,e6,⟨c2,hc⟩,-⟩:=h4 0 (by omega);rw[<-e3] at e6;injection e6 with e6;rw[e6];exact lt_of_block hc
theorem FGl.fl {w:World} {S:Nat->Prop} {v:Value} {ts:List F} (h:FGl w S v ts):∃ d,FL w S d v ts:=by
 obtain⟨us,⟨ko,kc,rfl,h1,h2⟩,h3,h4,d,h5⟩:=h;have hz:(us.zip ts).length=us.length:=by rw[List.length_zip,h4,Nat.min_self]
 refine⟨d,us.zip ts,⟨ko,kc,by rw[hz],by rw[hz];exact h1,fun h0 a ha=>h3 a _ _ (by rw[ha]) (by rw[hz] at h0;exact h0),fun i hi=>?_⟩,List.map_snd_zip (by rw[h4];exact Nat.le_refl _)⟩;have hi1:i<us.length:=by rw[hz] at hi;exact hi
 have hi2:i<ts.length:=by rw[<-h4];exact hi1
 rw[List.getElem_zip];obtain⟨a,ha,-,hc,-⟩:=h2 i hi1;exact⟨⟨a,ha,fun j u hj=>by rw[add_addV];exact hc j u hj⟩,h5 i hi1 hi2⟩
inductive LD where
 | any
 | eqv (v:Value)
 | fx (t:F)
 | fl (ts:List F)
 | ci (z:Int) (k:Nat)
 | pt
def LD.holds (B:Nat) (S:Nat->Prop):LD->Value->World->Prop
 | .any,_,_=>True
 | .eqv x,v,_=>v=x
 | .fx t,v,w=>∃ d,FC w S d v t
 | .fl ts,v,w=>FGl w S v ts
 | .ci z k,v,w=>CI w v z k
 | .pt,v,w=>∃ g,v=.pointer (some ⟨g,0,none⟩)/\B<=g/\w.heap[g]?=some (.cells #[.int .i64 0,.bool false,.slice none 0 0,.string ⟨#[]⟩,.slice none 0 0] 29 (0,0))
theorem LD.holds.below {B:Nat} {S:Nat->Prop} {l:LD} {v:Value} {w w':World} (h:l.holds B S v w) (hb:Below w.heap.size w w'):l.holds B S v w':=by
 cases l with
 | any=>trivial
 | eqv x=>exact h
 | fx t=>obtain⟨d,h⟩:=h;exact⟨d,h.below hb⟩
 | fl ts=>exact FGl.below h hb
 | ci z k=>exact CI.below h hb
 | pt=>obtain⟨g,h1,h2,h3⟩:=h;exact⟨g,h1,h2,(hb.block g (lt_of_block h3)).trans h3⟩
def Vx (S:Nat->Prop) (n:Nat) (sl:Nat->Nat) (fd:Nat->LD) (d:Nat->Bool) (T:Array Value):Nat->Prop:=fun b=>S b/\∀ i,i<n->d i=true->fd i=.pt->T[sl i]? ≠ some (.pointer (some ⟨b,0,none⟩))
theorem LD.holds.mono {B:Nat} {S S':Nat->Prop} {l:LD} {v:Value} {w:World} (h:l.holds B S v w) (hs:∀ b,b<w.heap.size->S b->S' b):l.holds B S' v w:=by
 cases l with
 | any=>trivial
 | eqv x=>exact h
 | fx t=>obtain⟨d,u,h1,h2⟩:=h;exact⟨d,u,h1,h2.lt.mono fun b hb=>hs b hb.2 hb.1⟩
 | fl ts=>exact FGl.mono h hs
 | ci z k=>exact h
 | pt=>exact h
structure JL (S:Nat->Prop) (W0:World) (t0:Array Value) (n:Nat) (sl:Nat->Nat) (fd:Nat->LD) (d:Nat->Bool) (T:Array Value) (w:World):Prop where
 be:Below W0.heap.size W0 w
 sz:T.size=t0.size
 oth:∀ j,(∀ i,i<n->j≠sl i)->T[j]?=t0[j]?
 val:∀ j,j<n->d j=true->∃ v,T[sl j]?=some v/\(fd j).holds W0.heap.size (Vx S n sl fd d T) v w
 dis:∀ i j,i<n->j<n->i≠j->d i=true->d j=true->fd i=.pt->fd j=.pt->T[sl i]? ≠ T[sl j]?
structure SlOk (n:Nat) (sl:Nat->Nat) (m:Nat):Prop where
 ne:∀ i j,i<n->j<n->i≠j->sl i≠sl j
 lt:∀ i,i<n->sl i<m
section
variable {S:Nat->Prop} {W0:World} {t0:Array Value} {n:Nat} {sl:Nat->Nat} {fd:Nat->LD} {d:Nat->Bool} {T:Array Value} {w w':World} {ds:List Deferred} {Q:Exit->Act->World->Prop} {o:Oper}
theorem JL.start (S:Nat->Prop) (W0:World) (t0:Array Value) (n:Nat) (sl:Nat->Nat) (fd:Nat->LD):JL S W0 t0 n sl fd (fun _=>false) t0 W0.drew:=
 ⟨(Below.refl _ _).drew,rfl,fun _ _=>rfl,fun k _ h=>absurd h Bool.false_ne_true,fun i j _ _ _ h=>absurd h Bool.false_ne_true⟩
theorem JL.step (h:JL S W0 t0 n sl fd d T w) (hs:SlOk n sl t0.size) (i:Nat) (hi:i<n) (hd:d i=false) (v:Value) (hb:Below w.heap.size w w') (h1:(fd i).holds W0.heap.size (Vx S n sl fd d T) v w') (hp:fd i=.pt->v=.pointer (some ⟨w.heap.size,0,none⟩)) :
  JL S W0 t0 n sl fd (Rel9.upd d i) (T.setIfInBounds (sl i) v) w':=by
 have hsz:sl i<T.size:=by rw[h.sz];exact hs.lt i hi
 have get:∀ k,k<n->k≠i->(T.setIfInBounds (sl i) v)[sl k]?=T[sl k]?:=fun k hk hki=>set_ne (hs.ne k i hk hi hki)
 have geti:(T.setIfInBounds (sl i) v)[sl i]?=some v:=set_eq hsz;have old:∀ k,k<n->d k=true->fd k=.pt->fd i=.pt->T[sl k]? ≠ some v:=fun k hk hdk hfk hfi e=>by
  obtain⟨x,hx,hx2⟩:=h.val k hk hdk;rw[hfk] at hx2;obtain⟨g,rfl,-,hg⟩:=hx2;rw[hx,hp hfi] at e;injection e with e;injection e with e;injection e with e;injection e with e;have:=lt_of_block hg;omega
 refine⟨h.be.trans (hb.mono h.be.size),by rw[Array.size_setIfInBounds,h.sz],fun j hj=>?_,fun k hk hu=>?_,fun a b ha hb' hab hda hdb hfa hfb=>?_⟩
 ·rw[set_ne (hj i hi)];exact h.oth j hj
 ·have vx:∀ b,Vx S n sl fd d T b->(fd i=.pt->b≠w.heap.size)->Vx S n sl fd (Rel9.upd d i) (T.setIfInBounds (sl i) v) b:=fun b hb1 hb2=>by
   refine⟨hb1.1,fun q hq hdq hfq=>?_⟩;by_cases hqi:q=i
   ·subst hqi;rw[geti,hp hfq];intro e;injection e with e;injection e with e;injection e with e;injection e with e;exact hb2 hfq e.symm
   rw[upd_ne' hqi] at hdq;rw[get q hq hqi];exact hb1.2 q hq hdq hfq
  by_cases hki:k=i
  ·subst hki;refine⟨v,geti,?_⟩;by_cases hpt:fd k=.pt
   ·rw[hpt] at h1 ⊢;exact h1
   exact h1.mono fun b _ hb1=>vx b hb1 fun e=>absurd e hpt
  rw[upd_ne' hki] at hu;obtain⟨x,hx,hf⟩:=h.val k hk hu;exact⟨x,by rw[get k hk hki];exact hx,(hf.mono fun b hlt hb1=>vx b hb1 fun _=>by omega).below hb⟩
 by_cases hai:a=i
 ·subst hai;have hbi:b≠a:=fun e=>hab e.symm
  rw[upd_ne' hbi] at hdb;rw[geti,get b hb' hbi];exact fun e=>old b hb' hdb hfb hfa e.symm
 rw[upd_ne' hai] at hda;by_cases hbi:b=i
 ·subst hbi;rw[geti,get a ha hai];exact old a ha hda hfa hfb
 rw[upd_ne' hbi] at hdb;rw[get a ha hai,get b hb' hbi];exact h.dis a b ha hb' hab hda hdb hfa hfb
theorem JL.slok (h:JL S W0 t0 n sl fd d T w) (hne:∀ i j,i<n->j<n->i≠j->sl i≠sl j) {m:Nat} (hlt:∀ i,i<n->sl i<m) (hm:m<=t0.size):SlOk n sl t0.size:=⟨hne,fun i hi=>Nat.lt_of_lt_of_le (hlt i hi) hm⟩
theorem JL.out (h:JL S W0 t0 n sl fd d T w) {b:Nat} (hS:S b) (hb:w.heap.size<=b\/b<W0.heap.size):Vx S n sl fd d T b:=by
 refine⟨hS,fun i hi hdi hfi e=>?_⟩;obtain⟨x,hx,hx2⟩:=h.val i hi hdi;rw[hfi] at hx2;obtain⟨g,rfl,h1,hg⟩:=hx2;rw[hx] at e;injection e with e;injection e with e;injection e with e;injection e with e;have:=lt_of_block hg
 omega
def Opd (S:Nat->Prop) (W0:World) (t0:Array Value) (n:Nat) (sl:Nat->Nat) (fd:Nat->LD) (d:Nat->Bool) (T:Array Value) (w:World) (ds:List Deferred) (Q:Exit->Act->World->Prop) (i:Nat) (o:Oper):Prop:=
 o.guard=none/\∀ K:Act->World->Prop,Hid (∀ T' w',JL S W0 t0 n sl fd (Rel9.upd d i) T' w'->K ⟨T',ds⟩ w')->o.wp Tryz.prog ⟨T,ds⟩ w K Q
theorem JL.call (h:JL S W0 t0 n sl fd d T w) (hs:SlOk n sl t0.size) {i:Nat} (hi:i<n) (hd:d i=false) (hg:o.guard=none) (ho:o.dst=some (sl i)) (f:FuncId) (args:Array Value) (hr:(execOp (Act.eval ⟨T,ds⟩) o).run Tryz.prog w=.ok (.enter f args) w)
  (hc:Calls Tryz.prog f args w fun e w'=>∃ v,e=.returned v/\(fd i).holds W0.heap.size (Vx S n sl fd d T) v w'/\Below w.heap.size w w') (hp:fd i ≠ .pt):Opd S W0 t0 n sl fd d T w ds Q i o:=by
 refine⟨hg,fun K hK=>?_⟩;unfold Oper.wp;rw[hr,Oper.upon_enter];refine hc.mono ?_;rintro e w' ⟨v,rfl,h1,hb⟩;have h2:=hK.out _ _ (h.step hs i hi hd v hb h1 (fun e=>absurd e hp));rw[ho];exact h2
theorem JL.val_ (h:JL S W0 t0 n sl fd d T w) (hs:SlOk n sl t0.size) {i:Nat} (hi:i<n) (hd:d i=false) (hg:o.guard=none) (ho:o.dst=some (sl i)) (v:Value) (hr:(execOp (Act.eval ⟨T,ds⟩) o).run Tryz.prog w=.ok (.value v) w')
  (hb:Below w.heap.size w w') (h1:(fd i).holds W0.heap.size (Vx S n sl fd d T) v w') (hp:fd i=.pt->v=.pointer (some ⟨w.heap.size,0,none⟩)):Opd S W0 t0 n sl fd d T w ds Q i o:=by
 refine⟨hg,fun K hK=>?_⟩;unfold Oper.wp;rw[hr,Oper.upon_value,ho];exact hK.out _ _ (h.step hs i hi hd v hb h1 hp)
end
theorem f11_p (o:Int) (ko:Option Addr) (kl kc:Nat) (w:World) :
  Calls Tryz.prog 76 #[.int .i64 o,.slice ko kl kc] w fun e w'=>e=.returned (.agg #[.int .i64 o,.bool false,.slice none 0 0,.string ⟨#[]⟩,.slice ko kl kc])/\Below w.heap.size w w':=by
 have HW:=Lib.hid (Below.refl w.heap.size w);go_enter Tryz.func76,Tryz.ntmps76;obtain⟨x1,kr,er,ekr,hbr,hkr,HBr⟩:=newV w #[.int .i64 0,.bool false,.slice none 0 0,.string ⟨#[]⟩,.slice none 0 0] 29;replace HW:=Lib.hid (HW.out.trans (hbr.out.mono HW.out.size));have HKr:Hid (w.heap.size<=kr):=hkr;obtain⟨⟨r0,r1,r2,r3,r4⟩,fr0,fr1,fr2,fr3,fr4⟩:=cells5V HBr.out;go_wp2_with fail;obtain⟨s1,s2⟩:=res5F HW.out HBr.out n32_F HKr.out (.int .i64 o) (.bool false) (.slice none 0 0) (.string ⟨#[]⟩) (.slice ko kl kc);(try simp only[Exit.inBlock,Exit.then]);exact bodyPost_ret (v:=.agg #[.int .i64 o,.bool false,.slice none 0 0,.string ⟨#[]⟩,.slice ko kl kc]) (by simp[results,Tryz.results76,go_sem,r0,r1,r2,r3,r4]) rfl ⟨rfl,s2⟩
theorem n11_p (n:Int) (w:World) (h1 : -9223372036854775808<=n) (h2:n<=9223372036854775807) :
  Calls Tryz.prog 77 #[.int .i64 n] w fun e w'=>∃ b o l c,e=.returned (.agg #[.int .i64 0,.bool b,.slice o l c,.string ⟨#[]⟩,.slice none 0 0])/\CI w' (.agg #[.bool b,.slice o l c]) n 600/\Below w.heap.size w w':=by
 have HW:=Lib.hid (Below.refl w.heap.size w);go_enter Tryz.func77,Tryz.ntmps77;obtain⟨x1,kr,er,ekr,hbr,hkr,HBr⟩:=newV w #[.int .i64 0,.bool false,.slice none 0 0,.string ⟨#[]⟩,.slice none 0 0] 29;replace HW:=Lib.hid (HW.out.trans (hbr.out.mono HW.out.size));have HKr:Hid (w.heap.size<=kr):=hkr;go_wp2_with fail;refine (wof_any n x1 h1 h2).mono ?_;rintro e x2 ⟨x,rfl,hx,hb⟩;replace HBr:=kBV hb HBr;replace HW:=Lib.hid (HW.out.trans (hb.mono HW.out.size));obtain⟨b1,o1,l1,c1,rfl⟩:=hx.shape;have HV:=Lib.hid (hx.mono (k':=600) (by decide));clear hx;obtain⟨⟨r0,r1,r2,r3,r4⟩,fr0,fr1,fr2,fr3,fr4⟩:=cells5V HBr.out;go_wp2_with fail;obtain⟨s1,s2⟩:=res5F HW.out HBr.out n32_F HKr.out (.int .i64 0) (.bool b1) (.slice o1 l1 c1) (.string ⟨#[]⟩) (.slice none 0 0)
 (try simp only[Exit.inBlock,Exit.then]);exact bodyPost_ret (v:=.agg #[.int .i64 0,.bool b1,.slice o1 l1 c1,.string ⟨#[]⟩,.slice none 0 0]) (by simp[results,Tryz.results77,go_sem,r0,r1,r2,r3,r4]) rfl ⟨_,_,_,_,rfl,HV.out.fr s1,s2⟩
theorem f11_fx {o:Int} (ho:IR o) {v:Value} {ts:List F} {S:Nat->Prop} {w:World} (h:FGl w S v ts) :
  Calls Tryz.prog 76 #[.int .i64 o,v] w fun e w'=>∃ v',e=.returned v'/\(∃ d,FC w' S d v' (fo o ts))/\Below w.heap.size w w':=by
 obtain⟨d,hf⟩:=h.fl;obtain⟨ko,kc,rfl,-⟩:=hf.form;refine (f11_p o _ _ _ w).mono ?_;rintro e w' ⟨rfl,hb⟩;exact⟨_,rfl,⟨d+1,FC.mk ho (nr0 w') (hf.below hb)⟩,hb⟩
theorem n11_fx {n:Int} (hn:IR n) (S:Nat->Prop) (w:World) :
  Calls Tryz.prog 77 #[.int .i64 n] w fun e w'=>∃ v',e=.returned v'/\(∃ d,FC w' S d v' (nF n))/\Below w.heap.size w w':=by
 refine (n11_p n w hn.1 hn.2).mono ?_;rintro e w' ⟨b,o,l,c,rfl,h,hb⟩;exact⟨_,rfl,⟨1,FC.mk ⟨by decide,by decide⟩ h (FL.nil w' S 0)⟩,hb⟩
section
variable {S:Nat->Prop} {W0:World} {t0:Array Value} {n:Nat} {sl:Nat->Nat} {fd:Nat->LD} {d:Nat->Bool} {T:Array Value} {w w':World} {ds:List Deferred} {Q:Exit->Act->World->Prop} {o:Oper}
theorem JL.get (h:JL S W0 t0 n sl fd d T w) (j:Nat) (hj:j<n) (hd:d j=true) {t:F} (hf:fd j=.fx t):∃ u:FU,T[sl j]?=some (fV u)/\∃ e,FT w (Vx S n sl fd d T) e u t:=by
 obtain⟨v,e,hv⟩:=h.val j hj hd;rw[hf] at hv;obtain⟨d,u,rfl,hu⟩:=hv;exact⟨u,e,d,hu⟩
theorem JL.getL (h:JL S W0 t0 n sl fd d T w) (j:Nat) (hj:j<n) (hd:d j=true) {ts:List F} (hf:fd j=.fl ts):∃ v,T[sl j]?=some v/\FGl w (Vx S n sl fd d T) v ts:=by
 obtain⟨v,e,hv⟩:=h.val j hj hd;rw[hf] at hv;exact⟨v,e,hv⟩
theorem JL.opMv (h:JL S W0 t0 n sl fd d T w) (hs:SlOk n sl t0.size) (i:Nat) (hi:i<n) (hd:d i=false) {s r p:Nat} {ty:TypeId} {ps:String} {ed:Array Edge} (hsl:sl i=r) (hp:∀ i,i<n->p≠sl i) (v:Value) (hv:t0[p]?=some v) (hf:fd i=.eqv v):Opd S W0 t0 n sl fd d T w ds Q i ⟨some r,.move (.tmp p),ty,ps,ed,none⟩:=by
 have e:T[p]?=some v:=(h.oth p hp).trans hv;refine h.val_ hs hi hd rfl (by rw[hsl]) v ?_ (Below.refl _ _) (by rw[hf];rfl) (by rw[hf];intro h;cases h);unfold execOp
 simp[Act.eval,Frame.eval,e,go_sem]
theorem JL.opLd (h:JL S W0 t0 n sl fd d T w) (hs:SlOk n sl t0.size) (i:Nat) (hi:i<n) (hd:d i=false) {s r p g:Nat} {ty:TypeId} {ps:String} {ed:Array Edge} {cs:Array Value} {t:F} (hB:W0.heap[g]?=some (.cells cs 29 (0,0))) (hc:∃ d,FC W0 S d (.agg cs) t) (h5:cs.size=5) (hsl:sl i=r) (hp:∀ i,i<n->p≠sl i) (hv:t0[p]?=some (.pointer (some ⟨g,0,none⟩))) (hf:fd i=.fx t) :
  Opd S W0 t0 n sl fd d T w ds Q i ⟨some r,.load 29 (.tmp p),ty,ps,ed,none⟩:=by
 have e:T[p]?=some (.pointer (some ⟨g,0,none⟩)):=(h.oth p hp).trans hv;have hBw:=(h.be.block g (lt_of_block hB)).trans hB;refine⟨rfl,fun K hK=>?_⟩;refine wp_load_row (P:=Tryz.prog) 29 (.tmp p) rfl g ?_ _ cs (0,0) _ hBw Tryz.underlying29 rfl ?_ ?_
 ·simp[Act.eval,Frame.eval,e]
 ·obtain⟨i0,h0,-,h2,-⟩:=info_parts fR.info;rw[show Tryz.prog.info? 29=some i0 from h0,h5];exact congrArg some h2
 obtain⟨dd,hc⟩:=hc;have h9:=hK.out _ _ (h.step hs i hi hd (.agg cs) (Below.refl _ _) (by rw[hf];obtain⟨u,e1,e2⟩:=hc;exact⟨dd,u,e1,(e2.lt.mono fun b hb=>h.out hb.1 (.inr hb.2)).below h.be⟩) (by rw[hf];intro h;cases h));rw[hsl] at h9;exact h9
theorem JL.opN (h:JL S W0 t0 n sl fd d T w) (hs:SlOk n sl t0.size) (i:Nat) (hi:i<n) (hd:d i=false) {r:Nat} {k:Int} {ty:TypeId} {at_:Array TypeId} {ps:String} {ed:Array Edge} (hk:IR k) (hsl:sl i=r) (hf:fd i=.fx (nF k)) :
  Opd S W0 t0 n sl fd d T w ds Q i ⟨some r,.call { callee:=.value (.func 77),args:=#[.const (.int .i64 k)],argTypes:=at_ },ty,ps,ed,none⟩:=by
 refine h.call hs hi hd rfl (by rw[hsl]) 77 #[.int .i64 k] ?_ (by rw[hf];exact n11_fx hk _ w) (by rw[hf];intro h;cases h);unfold execOp
 simp[Act.eval,Frame.eval,resolve,invoke,Deferred.ofValue,go_sem]
theorem JL.opF (h:JL S W0 t0 n sl fd d T w) (hs:SlOk n sl t0.size) (i:Nat) (hi:i<n) (hd:d i=false) (j:Nat) (hj:j<n) (hdj:d j=true) {r a:Nat} {k:Int} {ts:List F} {ty:TypeId} {at_:Array TypeId} {ps:String} {ed:Array Edge} (hk:IR k) (hsl:sl i=r) (hsj:sl j=a) (hfj:fd j=.fl ts) (hf:fd i=.fx (fo k ts)) :
  Opd S W0 t0 n sl fd d T w ds Q i ⟨some r,.call { callee:=.value (.func 76),args:=#[.const (.int .i64 k),.tmp a],argTypes:=at_ },ty,ps,ed,none⟩:=by
 obtain⟨v,e,hv⟩:=h.getL j hj hdj hfj;rw[hsj] at e;refine h.call hs hi hd rfl (by rw[hsl]) 76 #[.int .i64 k,v] ?_ (by rw[hf];exact f11_fx hk hv) (by rw[hf];intro h;cases h);unfold execOp
 simp[Act.eval,Frame.eval,resolve,invoke,Deferred.ofValue,e,go_sem]
theorem JL.opF0 (h:JL S W0 t0 n sl fd d T w) (hs:SlOk n sl t0.size) (i:Nat) (hi:i<n) (hd:d i=false) {r:Nat} {k:Int} {ty:TypeId} {at_:Array TypeId} {ps:String} {ed:Array Edge} (hk:IR k) (hsl:sl i=r) (hf:fd i=.fx (fo k [])) :
  Opd S W0 t0 n sl fd d T w ds Q i ⟨some r,.call { callee:=.value (.func 76),args:=#[.const (.int .i64 k),.const (.slice none 0 0)],argTypes:=at_ },ty,ps,ed,none⟩:=by
 have hv:FGl w (Vx S n sl fd d T) (.slice none 0 0) []:=⟨[],El.At.nil w,(by intro a n c h;cases h),Fs.nil w _⟩;refine h.call hs hi hd rfl (by rw[hsl]) 76 #[.int .i64 k,.slice none 0 0] ?_ (by rw[hf];exact f11_fx hk hv) (by rw[hf];intro h;cases h);unfold execOp;simp[Act.eval,Frame.eval,resolve,invoke,Deferred.ofValue,go_sem]
theorem FGl.block {w:World} {S:Nat->Prop} {g k:Nat} {us:List FU} {ts:List F} (h:w.heap[g]?=some (.cells (us.flatMap fC).toArray 29 (0,0))) (hk:us.length=k) (hl:us.length<=maxLen) (hS:S g) (hf:Fs w S us ts):FGl w S (.slice (some ⟨g,0,none⟩) k k) ts:=by
 subst hk;exact⟨us,El.At.block (E:=fR) (el:=us) h hl (fun _ _=>trivial),fun a n c e _=>by injection e with e;injection e with e;rw[<-e];exact hS,hf⟩
theorem JL.opB1 (h:JL S W0 t0 n sl fd d T w) (hs:SlOk n sl t0.size) (hS:∀ b,W0.heap.size<=b->S b) (i:Nat) (hi:i<n) (hd:d i=false) (j:Nat) (hj:j<n) (hdj:d j=true) {r a:Nat} {t:F} {ty:TypeId} {ps:String} {ed:Array Edge} (hsl:sl i=r) (hsj:sl j=a) (hfj:fd j=.fx t) (hf:fd i=.fl [t]) :
  Opd S W0 t0 n sl fd d T w ds Q i ⟨some r,.buildSlice 27 1 #[(0,.tmp a)],ty,ps,ed,none⟩:=by
 obtain⟨u,e,dd,hu⟩:=h.get j hj hdj hfj;rw[hsj] at e;unfold fV at e;refine⟨rfl,fun K hK=>?_⟩;have hal:Below w.heap.size w (w.alloc (.cells ([u].flatMap fC).toArray 29)):=(Below.refl _ _).alloc (Nat.le_refl _) _;have h9:=hK.out _ _ (h.step hs i hi hd (.slice (some ⟨w.heap.size,0,none⟩) 1 1) hal (by rw[hf];exact FGl.block (us:=[u]) (heap_alloc_new w _) rfl (show 1<=maxLen by decide) (h.out (hS _ h.be.size) (.inl (Nat.le_refl _))) (Fs.cons (hu.below hal) (Fs.nil _ _))) (by rw[hf];intro h;cases h));clear hK hal;rw[hsl] at h9;go_simp
 exact h9
theorem JL.opB2 (h:JL S W0 t0 n sl fd d T w) (hs:SlOk n sl t0.size) (hS:∀ b,W0.heap.size<=b->S b) (i:Nat) (hi:i<n) (hd:d i=false) (j k:Nat) (hj:j<n) (hk:k<n) (hdj:d j=true) (hdk:d k=true) {r a b:Nat} {t s:F} {ty:TypeId} {ps:String} {ed:Array Edge} (hsl:sl i=r) (hsj:sl j=a) (hsk:sl k=b) (hfj:fd j=.fx t) (hfk:fd k=.fx s) (hf:fd i=.fl [t,s]) :
  Opd S W0 t0 n sl fd d T w ds Q i ⟨some r,.buildSlice 27 2 #[(0,.tmp a),(1,.tmp b)],ty,ps,ed,none⟩:=by
 obtain⟨u,e,dd,hu⟩:=h.get j hj hdj hfj;rw[hsj] at e;obtain⟨u2,e2,dd2,hu2⟩:=h.get k hk hdk hfk;rw[hsk] at e2;unfold fV at e e2;refine⟨rfl,fun K hK=>?_⟩;have hal:Below w.heap.size w (w.alloc (.cells ([u,u2].flatMap fC).toArray 29)):=(Below.refl _ _).alloc (Nat.le_refl _) _;have h9:=hK.out _ _ (h.step hs i hi hd (.slice (some ⟨w.heap.size,0,none⟩) 2 2) hal (by rw[hf];exact FGl.block (us:=[u,u2]) (heap_alloc_new w _) rfl (show 2<=maxLen by decide) (h.out (hS _ h.be.size) (.inl (Nat.le_refl _))) (Fs.cons (hu.below hal) (Fs.cons (hu2.below hal) (Fs.nil _ _)))) (by rw[hf];intro h;cases h));clear hK hal;rw[hsl] at h9;go_simp
 exact h9
theorem JL.opB3 (h:JL S W0 t0 n sl fd d T w) (hs:SlOk n sl t0.size) (hS:∀ b,W0.heap.size<=b->S b) (i:Nat) (hi:i<n) (hd:d i=false) (j k l:Nat) (hj:j<n) (hk:k<n) (hl:l<n) (hdj:d j=true) (hdk:d k=true) (hdl:d l=true) {r a b c:Nat} {t s q:F} {ty:TypeId} {ps:String} {ed:Array Edge} (hsl:sl i=r) (hsj:sl j=a) (hsk:sl k=b) (hsq:sl l=c) (hfj:fd j=.fx t) (hfk:fd k=.fx s) (hfl:fd l=.fx q) (hf:fd i=.fl [t,s,q]) :
  Opd S W0 t0 n sl fd d T w ds Q i ⟨some r,.buildSlice 27 3 #[(0,.tmp a),(1,.tmp b),(2,.tmp c)],ty,ps,ed,none⟩:=by
 obtain⟨u,e,dd,hu⟩:=h.get j hj hdj hfj;rw[hsj] at e;obtain⟨u2,e2,dd2,hu2⟩:=h.get k hk hdk hfk;rw[hsk] at e2;obtain⟨u3,e3,dd3,hu3⟩:=h.get l hl hdl hfl;rw[hsq] at e3;unfold fV at e e2 e3;refine⟨rfl,fun K hK=>?_⟩;have hal:Below w.heap.size w (w.alloc (.cells ([u,u2,u3].flatMap fC).toArray 29)):=(Below.refl _ _).alloc (Nat.le_refl _) _;have h9:=hK.out _ _ (h.step hs i hi hd (.slice (some ⟨w.heap.size,0,none⟩) 3 3) hal (by rw[hf];exact FGl.block (us:=[u,u2,u3]) (heap_alloc_new w _) rfl (show 3<=maxLen by decide) (h.out (hS _ h.be.size) (.inl (Nat.le_refl _))) (Fs.cons (hu.below hal) (Fs.cons (hu2.below hal) (Fs.cons (hu3.below hal) (Fs.nil _ _))))) (by rw[hf];intro h;cases h));clear hK hal;rw[hsl] at h9;go_simp
 exact h9
theorem JL.opPt (h:JL S W0 t0 n sl fd d T w) (hs:SlOk n sl t0.size) (i:Nat) (hi:i<n) (hd:d i=false) {r:Nat} {ty:TypeId} {ps:String} {ed:Array Edge} (hsl:sl i=r) (hf:fd i=.pt) :
  Opd S W0 t0 n sl fd d T w ds Q i ⟨some r,.alloc 29,ty,ps,ed,none⟩:=by
 refine⟨rfl,fun K hK=>?_⟩;have h9:=hK.out _ _ (h.step hs i hi hd (.pointer (some ⟨w.heap.size,0,none⟩)) ((Below.refl _ _).alloc (Nat.le_refl _) (.cells #[.int .i64 0,.bool false,.slice none 0 0,.string ⟨#[]⟩,.slice none 0 0] 29)) (by rw[hf];exact⟨_,rfl,h.be.size,heap_alloc_new w _⟩) (fun _=>rfl));clear hK;rw[hsl] at h9;go_simp
 exact h9
theorem JL.fin (h:JL S W0 t0 n sl fd d T w) (hs:SlOk n sl t0.size) {vs:List Value} (hl:vs.length=n) (hv:Vs T sl 0 vs):T=fillW sl vs 0 t0:=
 hv.fill h.sz (fun i _ h2=>hs.lt i (by omega)) (fun q hq=>h.oth q (fun i hi=>hq i (Nat.zero_le _) (by omega)))
end
attribute [local go_sem] fieldV0 fieldV1 fieldV2 fieldV3
def LstPost (B k:Nat) (E:Nat->Prop) (L s:List F) (ts:List F) (n:Nat) (w:World) (e:Ending) (w':World):Prop:=∃ v s',e=.returned v/\IdL B k E v ts s' w'/\St B k E L s' w'/\Ext s s' n/\Stp B k w w'
theorem emptS_p {B k:Nat} {E:Nat->Prop} {L s:List F} (w:World) (h:St B k E L s w) (hm:s.length+7<=900000) (i:Nat) (a:F) (hi:s[i]?=some a) (hg:Gd (emptF a)) :
  Calls Tryz.prog 120 #[.pointer (some ⟨k,0,none⟩),.int .i64 ((i:Nat):Int)] w (PutPost B k E L s (emptF a) 7 w):=by
 have HS:=Lib.hid h;have HM:=Lib.hid hm;have HG:=Lib.hid hg;have HI:=Lib.hid hi;have G1:Hid (Gd (notF (leF (lenF a) (nF 0)))):=Lib.hid (gd_kid hg (by simp[emptF,orF,fo,F.kids]));have G2:Hid (Gd (eqfF a nilF)):=Lib.hid (gd_kid hg (by simp[emptF,orF,fo,F.kids]));have G3:Hid (Gd (leF (lenF a) (nF 0))):=Lib.hid (gd_kid G1.out (by simp[notF,fo,F.kids]));have G4:Hid (Gd (lenF a)):=Lib.hid (gd_kid G3.out (by simp[leF,fo,F.kids]));have G5:Hid (Gd nilF):=Lib.hid (gd_kid G2.out (by simp[eqfF,fo,F.kids]));clear h hm hg hi;go_enter Tryz.func120,Tryz.ntmps120;go_wp2_with fail;refine (lengthS_p w HS.out (by have:=HM.out;omega) i a HI.out G4.out).mono ?_;rintro e y1 ⟨j1,s1,rfl,h1,h2,h3,h4⟩;have S1:=Lib.hid h1;have J1:=Lib.hid h3;have E1:Hid (Ext s s1 1):=Lib.hid ((Ext.refl s).trans h2 (by omega))
 have T1:Hid (Stp B k w y1):=Lib.hid (h4);clear h1 h2 h3 h4;go_wp2_with fail;refine (numS_p y1 S1.out (by have:=HM.out;have:=E1.out.len;omega) 0 (by decide) (by decide)).mono ?_;rintro e y2 ⟨j2,s2,rfl,h1,h2,h3,h4⟩;have S2:=Lib.hid h1;replace J1:=Lib.hid (h2.get J1.out);have J2:=Lib.hid h3;have E2:Hid (Ext s s2 2):=Lib.hid (E1.out.trans h2 (by omega));have T2:Hid (Stp B k w y2):=Lib.hid (T1.out.trans h4);clear h1 h2 h3 h4;go_wp2_with fail;refine (leS_p y2 S2.out (by have:=HM.out;have:=E2.out.len;omega) j1 j2 (lenF a) (nF 0) J1.out J2.out G3.out).mono ?_;rintro e y3 ⟨j3,s3,rfl,h1,h2,h3,h4⟩;have S3:=Lib.hid h1;replace J1:=Lib.hid (h2.get J1.out);replace J2:=Lib.hid (h2.get J2.out);have J3:=Lib.hid h3;have E3:Hid (Ext s s3 3):=Lib.hid (E2.out.trans h2 (by omega))
 have T3:Hid (Stp B k w y3):=Lib.hid (T2.out.trans h4);clear h1 h2 h3 h4;go_wp2_with fail;refine (notS_p y3 S3.out (by have:=HM.out;have:=E3.out.len;omega) j3 _ J3.out G1.out).mono ?_;rintro e y4 ⟨j4,s4,rfl,h1,h2,h3,h4⟩;have S4:=Lib.hid h1;replace J1:=Lib.hid (h2.get J1.out);replace J2:=Lib.hid (h2.get J2.out);replace J3:=Lib.hid (h2.get J3.out);have J4:=Lib.hid h3;have E4:Hid (Ext s s4 4):=Lib.hid (E3.out.trans h2 (by omega));have T4:Hid (Stp B k w y4):=Lib.hid (T3.out.trans h4);clear h1 h2 h3 h4;go_wp2_with fail;refine (ofS_p y4 S4.out (by have:=HM.out;have:=E4.out.len;omega) 9 ⟨by decide,by decide⟩ _ [] (IL.nil B k E y4) [] rfl G5.out).mono ?_;rintro e y5 ⟨j5,s5,rfl,h1,h2,h3,h4⟩;have S5:=Lib.hid h1;replace J1:=Lib.hid (h2.get J1.out);replace J2:=Lib.hid (h2.get J2.out)
 replace J3:=Lib.hid (h2.get J3.out);replace J4:=Lib.hid (h2.get J4.out);have J5:=Lib.hid h3;have E5:Hid (Ext s s5 5):=Lib.hid (E4.out.trans h2 (by omega));have T5:Hid (Stp B k w y5):=Lib.hid (T4.out.trans h4);clear h1 h2 h3 h4;go_wp2_with fail;refine (sameS_p y5 S5.out (by have:=HM.out;have:=E5.out.len;omega) i j5 a nilF (E5.out.get HI.out) J5.out G2.out).mono ?_;rintro e y6 ⟨j6,s6,rfl,h1,h2,h3,h4⟩;have S6:=Lib.hid h1;replace J1:=Lib.hid (h2.get J1.out);replace J2:=Lib.hid (h2.get J2.out);replace J3:=Lib.hid (h2.get J3.out);replace J4:=Lib.hid (h2.get J4.out);replace J5:=Lib.hid (h2.get J5.out);have J6:=Lib.hid h3;have E6:Hid (Ext s s6 6):=Lib.hid (E5.out.trans h2 (by omega));have T6:Hid (Stp B k w y6):=Lib.hid (T5.out.trans h4);clear h1 h2 h3 h4
 obtain⟨z6,kq,eq,ekq,hbq,hkq,HBq⟩:=newV y6 #[.int .i64 ((j4:Nat):Int),.int .i64 ((j6:Nat):Int)] 116;go_wp2_with fail;refine (eitherS_p z6 (S6.out.below hbq.out) (by have:=HM.out;have:=E6.out.len;omega) _ [j4,j6] (IL.block (cs:=[.int .i64 ((j4:Nat):Int),.int .i64 ((j6:Nat):Int)]) HBq.out (by decide) (S6.out.fresh hkq.out) (by show 2<=maxLen;decide) rfl) [notF (leF (lenF a) (nF 0)),eqfF a nilF] (by simp only[List.map_cons,List.map_nil,J4.out,J6.out]) HG.out).mono ?_;rintro e y7 ⟨j7,s7,rfl,h1,h2,h3,h4⟩;have S7:=Lib.hid h1;replace J1:=Lib.hid (h2.get J1.out);replace J2:=Lib.hid (h2.get J2.out);replace J3:=Lib.hid (h2.get J3.out);replace J4:=Lib.hid (h2.get J4.out);replace J5:=Lib.hid (h2.get J5.out);replace J6:=Lib.hid (h2.get J6.out);have J7:=Lib.hid h3
 have E7:Hid (Ext s s7 7):=Lib.hid (E6.out.trans h2 (by omega));have T7:Hid (Stp B k w y7):=Lib.hid ((T6.out.trans (Stp.of_below hbq.out)).trans h4);clear h1 h2 h3 h4;go_wp2_with fail;go_ret;exact⟨j7,s7,rfl,S7.out,E7.out,J7.out,T7.out⟩
theorem tail1_p {B k:Nat} {E:Nat->Prop} {L s:List F} (w:World) (h:St B k E L s w) (hm:s.length+2<=900000) (i f:Nat) (a p:F) (hi:s[i]?=some a) (hf:s[f]?=some p) (hg:Gd (orF [notF p,a])) (ka kb:Nat) (ha:w.heap[ka]?=some (.cells #[.pointer (some ⟨k,0,none⟩)] 112 (0,0))) (hb:w.heap[kb]?=some (.cells #[.int .i64 ((f:Nat):Int)] 116 (0,0))) :
  Calls Tryz.prog 169 #[.int .i64 ((i:Nat):Int),.pointer (some ⟨ka,0,none⟩),.pointer (some ⟨kb,0,none⟩)] w (PutPost B k E L s (orF [notF p,a]) 2 w):=by
 have HS:=Lib.hid h;have HM:=Lib.hid hm;have HG:=Lib.hid hg;have HI:=Lib.hid hi;have HF:=Lib.hid hf;have HBa:=Lib.hid ha;have HBb:=Lib.hid hb;have G1:Hid (Gd (notF p)):=Lib.hid (gd_kid hg (by simp[orF,fo,F.kids]));clear h hm hg hi hf ha hb;go_enter Tryz.func169,Tryz.ntmps169;go_upto_region 1 with fail;have HNE:Hid (∀ i j,i<7->j<7->i≠j->(fun i=>i+5) i≠(fun i=>i+5) j):=Lib.hid (fun i j _ _ h e=>h (Nat.add_right_cancel e));have HL9:Hid (∀ i,i<7->(fun i=>i+5) i<12):=Lib.hid (fun i h=>by show i+5<12;omega)
 refine Rel9.region (by kernel_rfl) [[],[],[],[1,2],[],[1,2,3,4],[0,1,2,3,4,5],[0,1,2,3,4,5,6]] 7 (by kernel_rfl) (by kernel_rfl) (JX B k E L w s _ 7 (fun i=>i+5) (fun i=>[0,0,0,1,0,0,1].getD i 0) (fdF B k E [.eqv (.pointer (some ⟨k,0,none⟩)),.eqv (.pointer (some ⟨k,0,none⟩)),.eqv (.int .i64 ((f:Nat):Int)),.idf (notF p),.eqv (.int .i64 ((i:Nat):Int)),.idl [notF p,a],.idf (orF [notF p,a])])) (JF.start HS.out) ?_ ?_
 ·rintro d T wc n9 o ⟨s9,hJ⟩ ho hi hd hdep hcl;have hstep:=fun (v:Value) (s8:List F) (w2:World)=>hJ.step (v:=v) (s':=s8) (w':=w2) (fdF_st (B:=B) (k:=k) (E:=E) _) HNE.out (fun i hi=>Nat.lt_of_lt_of_le (HL9.out i hi) (of_decide_eq_true rfl)) n9 hi hd
  have HST9:=Lib.hid hJ.st;have HROOM:=Lib.hid (hJ.room n9 hi hd (N:=900000) (show s.length+2<=900000 from by have:=HM.out;omega));have m1:T[1]?=some (.pointer (some ⟨ka,0,none⟩)):=(hJ.oth 1 (by decide)).trans (by rfl);have hBq:=(hJ.be.block ka (lt_of_block HBa.out) (NO.cells HBa.out (by decide))).trans HBa.out;have qa0:=cell_at (v:=.pointer (some ⟨k,0,none⟩)) hBq 0 rfl;clear hBq;have m2:T[2]?=some (.pointer (some ⟨kb,0,none⟩)):=(hJ.oth 2 (by decide)).trans (by rfl);have hBq:=(hJ.be.block kb (lt_of_block HBb.out) (NO.cells HBb.out (by decide))).trans HBb.out;have qb0:=cell_at (v:=.int .i64 ((f:Nat):Int)) hBq 0 rfl;clear hBq;have m0:T[0]?=some (.int .i64 ((i:Nat):Int)):=(hJ.oth 0 (by decide)).trans (by rfl)
  obtain rfl | rfl | rfl | rfl | rfl | rfl | rfl:n9=0\/n9=1\/n9=2\/n9=3\/n9=4\/n9=5\/n9=6:=by omega
  all_goals (injection ho with ho)
  all_goals (subst ho)
  all_goals (try (clear hJ hdep hcl;refine⟨rfl,fun K9 hK=>?_⟩;have HST:=Lib.hid hstep;clear hstep;go_simp;exact hK.out _ _ (HST.out _ _ _ HST9.out ((Ext.refl _).up (Nat.zero_le _)) (Stp.refl _ _ _) rfl)))
  ·have e6:=hJ.vE 1 6 rfl (by decide) (hdep 1 (by rfl)) (fun _ h=>h);have e7:=hJ.vE 2 7 rfl (by decide) (hdep 2 (by rfl)) (fun _ h=>h);have HEXT:=Lib.hid hJ.ext;clear hJ hdep hcl;refine⟨rfl,fun K9 hK=>?_⟩;have HST:=Lib.hid hstep;clear hstep;go_simp;refine (notS_p wc HST9.out HROOM.out f p (HEXT.out.get HF.out) G1.out).mono ?_;rintro e w8 ⟨i8,s8,rfl,p1,p2,p3,p4⟩;exact hK.out _ _ (HST.out _ _ _ p1 p2 p4 ⟨i8,rfl,p3⟩)
  ·obtain⟨i3,e8,H3⟩:=hJ.vI 3 8 rfl (by decide) (hdep 3 (by rfl)) (fun _ h=>h);have e9:=hJ.vE 4 9 rfl (by decide) (hdep 4 (by rfl)) (fun _ h=>h);have HEXT:=Lib.hid hJ.ext;clear hJ hdep hcl;refine⟨rfl,fun K9 hK=>?_⟩;have HST:=Lib.hid hstep;clear hstep;go_simp;have hal:Below wc.heap.size wc (wc.alloc _):=(Below.refl _ _).alloc (Nat.le_refl _) (.cells #[.int .i64 ((i3:Nat):Int),.int .i64 ((i:Nat):Int)] 116)
   exact hK.out _ _ (HST.out _ _ _ (HST9.out.below hal) ((Ext.refl _).up (Nat.zero_le _)) (.of_below hal) ⟨[i3,i],IL.block (l:=[i3,i]) (cs:=[.int .i64 ((i3:Nat):Int),.int .i64 ((i:Nat):Int)]) (show (wc.alloc (.cells #[.int .i64 ((i3:Nat):Int),.int .i64 ((i:Nat):Int)] 116)).heap[wc.heap.size]?=some (.cells [.int .i64 ((i3:Nat):Int),.int .i64 ((i:Nat):Int)].toArray 116 (0,0)) from heap_alloc_new wc _) (by decide) (HST9.out.fresh (Nat.le_refl _)) (by show 2<=maxLen;decide) rfl,by simp only[List.map_cons,List.map_nil,H3.out,HEXT.out.get HI.out]⟩)
  have e5:=hJ.vE 0 5 rfl (by decide) (hdep 0 (by rfl)) (fun _ h=>h);obtain⟨v5,e10,f5⟩:=hJ.val 5 (by decide) (hdep 5 (by rfl));obtain⟨l5,f5a,h5⟩:=(show IdL B k E v5 [notF p,a] s9 wc from f5);obtain⟨q5o,q5c,g5,-⟩:=id f5a;rw[g5] at e10 f5a;replace e10:T[10]?=_:=e10;have A5:=Lib.hid f5a;have H5:=Lib.hid h5;clear f5 f5a h5 g5;clear hJ hdep hcl;refine⟨rfl,fun K9 hK=>?_⟩;have HST:=Lib.hid hstep;clear hstep;go_simp;refine (eitherS_p wc HST9.out HROOM.out _ l5 A5.out [notF p,a] H5.out HG.out).mono ?_;rintro e w8 ⟨i8,s8,rfl,p1,p2,p3,p4⟩;exact hK.out _ _ (HST.out _ _ _ p1 p2 p4 ⟨i8,rfl,p3⟩)
 rintro T wt ⟨s9,hJ⟩;have a0:=hJ.vE 0 5 rfl (by decide) rfl (fun _ h=>h);have a1:=hJ.vE 1 6 rfl (by decide) rfl (fun _ h=>h);have a2:=hJ.vE 2 7 rfl (by decide) rfl (fun _ h=>h);obtain⟨i3,a3,H3⟩:=hJ.vI 3 8 rfl (by decide) rfl (fun _ h=>h);have a4:=hJ.vE 4 9 rfl (by decide) rfl (fun _ h=>h);obtain⟨v5,a5,f5⟩:=hJ.val 5 (by decide) rfl;obtain⟨l5,f5a,h5⟩:=(show IdL B k E v5 [notF p,a] s9 wt from f5);have A5:=Lib.hid f5a;clear f5 f5a h5;obtain⟨i6,a6,H6⟩:=hJ.vI 6 11 rfl (by decide) rfl (fun _ h=>h);have hfr:=hJ.fin (fun i hi=>Nat.lt_of_lt_of_le (HL9.out i hi) (of_decide_eq_true rfl)) rfl (.cons a0 (.cons a1 (.cons a2 (.cons a3 (.cons a4 (.cons a5 (.cons a6 .nil)))))));have HST9:=Lib.hid hJ.st;have HEX9:Hid (Ext s s9 2):=Lib.hid hJ.ext;have HBE9:=Lib.hid hJ.be;clear hJ HNE HL9 a0 a1 a2 a3 a4 a5 a6
 rw[hfr];clear hfr;simp only[fillW,Nat.reduceAdd,List.setIfInBounds_toArray,List.set_cons_zero,List.set_cons_succ];simp only[List.drop_succ_cons,List.drop_zero];go_wp2_with fail;go_ret;exact⟨i6,s9,rfl,HST9.out,HEX9.out,H6.out,HBE9.out⟩
theorem tailS_p {B k:Nat} {E:Nat->Prop} {L s:List F} (w:World) (h:St B k E L s w) (hm:s.length+20<=900000) (i l:Nat) (X Y:F) (hx:s[i]?=some X) (hy:s[l]?=some Y) (hg:∀ t ∈ tailF X Y,Gd t) :
  Calls Tryz.prog 124 #[.pointer (some ⟨k,0,none⟩),.int .i64 ((i:Nat):Int),.int .i64 ((l:Nat):Int)] w (LstPost B k E L s (tailF X Y) 20 w):=by
 have HS:=Lib.hid h;have HM:=Lib.hid hm;have HX:=Lib.hid hx;have HY:=Lib.hid hy;have g1:=hg (orF [notF (fillF Y),eqfF (lenF Y) (addF (lenF X) (nF 1))]) (by simp[tailF]);have g2:=hg (orF [fillF Y,eqfF X nilF]) (by simp[tailF]);have g3:=hg (orF [notF (fillF Y),eqfF Y (consF (hdF Y) X)]) (by simp[tailF]);have g4:=gd_kid g1 (x:=eqfF (lenF Y) (addF (lenF X) (nF 1))) (by simp[orF,fo,F.kids]);have g5:=gd_kid g2 (x:=eqfF X nilF) (by simp[orF,fo,F.kids]);have g6:=gd_kid g3 (x:=eqfF Y (consF (hdF Y) X)) (by simp[orF,fo,F.kids]);have g7:=gd_kid g2 (x:=fillF Y) (by simp[orF,fo,F.kids]);have g8:=gd_kid g4 (x:=addF (lenF X) (nF 1)) (by simp[eqfF,fo,F.kids]);have g9:=gd_kid g4 (x:=lenF Y) (by simp[eqfF,fo,F.kids]);have g10:=gd_kid g8 (x:=lenF X) (by simp[addF,fo,F.kids])
 have g11:=gd_kid g6 (x:=consF (hdF Y) X) (by simp[eqfF,fo,F.kids]);have g12:=gd_kid g11 (x:=hdF Y) (by simp[consF,fo,F.kids]);have g13:=gd_kid g5 (x:=nilF) (by simp[eqfF,fo,F.kids]);have G1:=Lib.hid g1;have G2:=Lib.hid g2;have G3:=Lib.hid g3;have G4:=Lib.hid g4;have G5:=Lib.hid g5;have G6:=Lib.hid g6;have G7:=Lib.hid g7;have G8:=Lib.hid g8;have G9:=Lib.hid g9;have G10:=Lib.hid g10;have G11:=Lib.hid g11;have G12:=Lib.hid g12;have G13:=Lib.hid g13;clear h hm hx hy hg g1 g2 g3 g4 g5 g6 g7 g8 g9 g10 g11 g12 g13;go_enter Tryz.func124,Tryz.ntmps124;have HW:=Lib.hid (Below.refl w.heap.size w);obtain⟨x1,kS,eS,ekS,hbS,hkS,HBS⟩:=newV w #[.pointer (some ⟨k,0,none⟩)] 112;replace HS:=Lib.hid (HS.out.below hbS.out);replace HW:=Lib.hid (HW.out.trans (hbS.out.mono HW.out.size))
 have c0:=cell_at (v:=.pointer (some ⟨k,0,none⟩)) HBS.out 0 rfl;have fc0:=froz_at HBS.out 0;go_wp2_with fail;refine (filledS_p x1 HS.out (by have:=HM.out;omega) l Y HY.out G7.out).mono ?_;rintro e x3 ⟨f,s1,rfl,h1,h2,h3,h4⟩;have HS1:=Lib.hid h1;have HE1:=Lib.hid h2;have HF:=Lib.hid h3;have HT1:=Lib.hid ((Stp.of_below HW.out).trans h4);replace HX:=Lib.hid (h2.get HX.out);replace HY:=Lib.hid (h2.get HY.out);replace HBS:=Lib.hid ((h4.block kS (lt_of_block HBS.out) (NO.cells HBS.out (by decide))).trans HBS.out);have HM1:Hid (s1.length+17<=900000):=Lib.hid (by have:=HM.out;have:=h2.len;omega);clear h1 h2 h3 h4 HM HS HW;clear c0 fc0;skip;obtain⟨x11,kf,ef,ekf,hbf,hkf,HBf⟩:=newV x3 #[.int .i64 ((f:Nat):Int)] 116;replace HBS:=kBV hbf.out HBS;replace HS1:=Lib.hid (HS1.out.below hbf.out)
 replace HT1:=Lib.hid (HT1.out.trans (Stp.of_below hbf.out));have c0:=cell_at (v:=.pointer (some ⟨k,0,none⟩)) HBS.out 0 rfl;have fc0:=froz_at HBS.out 0;have d0:=cell_at (v:=.int .i64 ((f:Nat):Int)) HBf.out 0 rfl;have fd0:=froz_at HBf.out 0;go_upto_region 3 with fail;clear c0 fc0 d0 fd0;have HNE:Hid (∀ i j,i<35->j<35->i≠j->(fun i=>i+13) i≠(fun i=>i+13) j):=Lib.hid (fun i j _ _ h e=>h (Nat.add_right_cancel e));have HL9:Hid (∀ i,i<35->(fun i=>i+13) i<48):=Lib.hid (fun i h=>by show i+13<48;omega)
 refine Rel9.region (by kernel_rfl) [[],[],[],[],[2,3],[],[],[],[2,3,4,6,7],[2,3,4,5,6,7,8],[1,2,3,4,5,6,7,8,9],[0,1,2,3,4,5,6,7,8,9,10],[],[],[],[],[],[0,1,2,3,4,5,6,7,8,9,10,11,16],[0,1,2,3,4,5,6,7,8,9,10,11,14,15,16,17],[0,1,2,3,4,5,6,7,8,9,10,11,13,14,15,16,17,18],[0,1,2,3,4,5,6,7,8,9,10,11,12,13,14,15,16,17,18,19],[],[],[],[],[],[],[26],[0,1,2,3,4,5,6,7,8,9,10,11,12,13,14,15,16,17,18,19,20,25,26,27],[],[0,1,2,3,4,5,6,7,8,9,10,11,12,13,14,15,16,17,18,19,20,25,26,27,28,29],[0,1,2,3,4,5,6,7,8,9,10,11,12,13,14,15,16,17,18,19,20,24,25,26,27,28,29,30],[0,1,2,3,4,5,6,7,8,9,10,11,12,13,14,15,16,17,18,19,20,22,23,24,25,26,27,28,29,30,31],[0,1,2,3,4,5,6,7,8,9,10,11,12,13,14,15,16,17,18,19,20,21,22,23,24,25,26,27,28,29,30,31,32],[0,1,2,3,4,5,6,7,8,9,10,11,12,13,14,15,16,17,18,19,20,21,22,23,24,25,26,27,28,29,30,31,32,33],[0,1,2,3,4,5,6,7,8,9,10,11,12,13,14,15,16,17,18,19,20,21,22,23,24,25,26,27,28,29,30,31,32,33,34]] 35 (by kernel_rfl) (by kernel_rfl) (JX B k E L x11 s1 _ 35 (fun i=>i+13) (fun i=>[0,0,0,0,1,0,0,0,1,2,1,2,0,0,0,0,0,1,1,0,1,0,0,0,0,0,0,0,1,0,0,1,1,2,0].getD i 0) (fdF B k E [.eqv (.func (.func 169) #[] #[.pointer (some ⟨kS,0,none⟩),.pointer (some ⟨kf,0,none⟩)]),.eqv (.pointer (some ⟨k,0,none⟩)),.eqv (.pointer (some ⟨k,0,none⟩)),.eqv (.int .i64 ((l:Nat):Int)),.idf (lenF Y),.eqv (.pointer (some ⟨k,0,none⟩)),.eqv (.pointer (some ⟨k,0,none⟩)),.eqv (.int .i64 ((i:Nat):Int)),.idf (lenF X),.idf (addF (lenF X) (nF 1)),.idf (eqfF (lenF Y) (addF (lenF X) (nF 1))),.idf (orF [notF (fillF Y),eqfF (lenF Y) (addF (lenF X) (nF 1))]),.eqv (.pointer (some ⟨k,0,none⟩)),.eqv (.int .i64 ((f:Nat):Int)),.eqv (.pointer (some ⟨k,0,none⟩)),.eqv (.int .i64 ((i:Nat):Int)),.eqv (.pointer (some ⟨k,0,none⟩)),.idf (nilF),.idf (eqfF X nilF),.idl [fillF Y,eqfF X nilF],.idf (orF [fillF Y,eqfF X nilF]),.eqv (.func (.func 169) #[] #[.pointer (some ⟨kS,0,none⟩),.pointer (some ⟨kf,0,none⟩)]),.eqv (.pointer (some ⟨k,0,none⟩)),.eqv (.int .i64 ((l:Nat):Int)),.eqv (.pointer (some ⟨k,0,none⟩)),.eqv (.pointer (some ⟨k,0,none⟩)),.eqv (.int .i64 ((l:Nat):Int)),.idl [Y],.idf (hdF Y),.eqv (.int .i64 ((i:Nat):Int)),.idl [hdF Y,X],.idf (consF (hdF Y) X),.idf (eqfF Y (consF (hdF Y) X)),.idf (orF [notF (fillF Y),eqfF Y (consF (hdF Y) X)]),.idl [orF [notF (fillF Y),eqfF (lenF Y) (addF (lenF X) (nF 1))],orF [fillF Y,eqfF X nilF],orF [notF (fillF Y),eqfF Y (consF (hdF Y) X)]]])) (JF.start HS1.out) ?_ ?_
 ·rintro d T wc n9 o ⟨s9,hJ⟩ ho hi hd hdep hcl;have hstep:=fun (v:Value) (s8:List F) (w2:World)=>hJ.step (v:=v) (s':=s8) (w':=w2) (fdF_st (B:=B) (k:=k) (E:=E) _) HNE.out (fun i hi=>Nat.lt_of_lt_of_le (HL9.out i hi) (of_decide_eq_true rfl)) n9 hi hd
  have HST9:=Lib.hid hJ.st;have HROOM:=Lib.hid (hJ.room n9 hi hd (N:=900000) (show s1.length+15<=900000 from by have:=HM1.out;omega));have m8:T[8]?=some (.func (.func 169) #[] #[.pointer (some ⟨kS,0,none⟩),.pointer (some ⟨kf,0,none⟩)]):=(hJ.oth 8 (by decide)).trans (by rfl);have m3:T[3]?=some (.pointer (some ⟨kS,0,none⟩)):=(hJ.oth 3 (by decide)).trans (by rfl);have hBq:=(hJ.be.block kS (lt_of_block HBS.out) (NO.cells HBS.out (by decide))).trans HBS.out;have qS0:=cell_at (v:=.pointer (some ⟨k,0,none⟩)) hBq 0 rfl;clear hBq;have m2:T[2]?=some (.int .i64 ((l:Nat):Int)):=(hJ.oth 2 (by decide)).trans (by rfl);have m1:T[1]?=some (.int .i64 ((i:Nat):Int)):=(hJ.oth 1 (by decide)).trans (by rfl);have m7:T[7]?=some (.pointer (some ⟨kf,0,none⟩)):=(hJ.oth 7 (by decide)).trans (by rfl)
  have hBq:=(hJ.be.block kf (lt_of_block HBf.out) (NO.cells HBf.out (by decide))).trans HBf.out;have qf0:=cell_at (v:=.int .i64 ((f:Nat):Int)) hBq 0 rfl;clear hBq;obtain rfl | rfl | rfl | rfl | rfl | rfl | rfl | rfl | rfl | rfl | rfl | rfl | rfl | rfl | rfl | rfl | rfl | rfl | rfl | rfl | rfl | rfl | rfl | rfl | rfl | rfl | rfl | rfl | rfl | rfl | rfl | rfl | rfl | rfl | rfl:n9=0\/n9=1\/n9=2\/n9=3\/n9=4\/n9=5\/n9=6\/n9=7\/n9=8\/n9=9\/n9=10\/n9=11\/n9=12\/n9=13\/n9=14\/n9=15\/n9=16\/n9=17\/n9=18\/n9=19\/n9=20\/n9=21\/n9=22\/n9=23\/n9=24\/n9=25\/n9=26\/n9=27\/n9=28\/n9=29\/n9=30\/n9=31\/n9=32\/n9=33\/n9=34:=by omega
  all_goals (injection ho with ho)
  all_goals (subst ho)
  all_goals (try (clear hJ hdep hcl;refine⟨rfl,fun K9 hK=>?_⟩;have HST:=Lib.hid hstep;clear hstep;go_simp;exact hK.out _ _ (HST.out _ _ _ HST9.out ((Ext.refl _).up (Nat.zero_le _)) (Stp.refl _ _ _) rfl)))
  ·have e15:=hJ.vE 2 15 rfl (by decide) (hdep 2 (by rfl)) (fun _ h=>h);have e16:=hJ.vE 3 16 rfl (by decide) (hdep 3 (by rfl)) (fun _ h=>h);have HEXT:=Lib.hid hJ.ext;clear hJ hdep hcl;refine⟨rfl,fun K9 hK=>?_⟩;have HST:=Lib.hid hstep;clear hstep;go_simp;refine (lengthS_p wc HST9.out HROOM.out l Y (HEXT.out.get HY.out) G9.out).mono ?_;rintro e w8 ⟨i8,s8,rfl,p1,p2,p3,p4⟩;exact hK.out _ _ (HST.out _ _ _ p1 p2 p4 ⟨i8,rfl,p3⟩)
  ·have e19:=hJ.vE 6 19 rfl (by decide) (hdep 6 (by rfl)) (fun _ h=>h);have e20:=hJ.vE 7 20 rfl (by decide) (hdep 7 (by rfl)) (fun _ h=>h);have HEXT:=Lib.hid hJ.ext;clear hJ hdep hcl;refine⟨rfl,fun K9 hK=>?_⟩;have HST:=Lib.hid hstep;clear hstep;go_simp;refine (lengthS_p wc HST9.out HROOM.out i X (HEXT.out.get HX.out) G10.out).mono ?_;rintro e w8 ⟨i8,s8,rfl,p1,p2,p3,p4⟩;exact hK.out _ _ (HST.out _ _ _ p1 p2 p4 ⟨i8,rfl,p3⟩)
  ·have e18:=hJ.vE 5 18 rfl (by decide) (hdep 5 (by rfl)) (fun _ h=>h);obtain⟨i8,e21,H8⟩:=hJ.vI 8 21 rfl (by decide) (hdep 8 (by rfl)) (fun _ h=>h);clear hJ hdep hcl;refine⟨rfl,fun K9 hK=>?_⟩;have HST:=Lib.hid hstep;clear hstep;go_simp;refine (nextS_p wc HST9.out HROOM.out i8 _ H8.out G8.out).mono ?_;rintro e w8 ⟨i8,s8,rfl,p1,p2,p3,p4⟩;exact hK.out _ _ (HST.out _ _ _ p1 p2 p4 ⟨i8,rfl,p3⟩)
  ·have e14:=hJ.vE 1 14 rfl (by decide) (hdep 1 (by rfl)) (fun _ h=>h);obtain⟨i4,e17,H4⟩:=hJ.vI 4 17 rfl (by decide) (hdep 4 (by rfl)) (fun _ h=>h);obtain⟨i9,e22,H9⟩:=hJ.vI 9 22 rfl (by decide) (hdep 9 (by rfl)) (fun _ h=>h);clear hJ hdep hcl;refine⟨rfl,fun K9 hK=>?_⟩;have HST:=Lib.hid hstep;clear hstep;go_simp;refine (sameS_p wc HST9.out HROOM.out i4 i9 _ _ H4.out H9.out G4.out).mono ?_;rintro e w8 ⟨i8,s8,rfl,p1,p2,p3,p4⟩;exact hK.out _ _ (HST.out _ _ _ p1 p2 p4 ⟨i8,rfl,p3⟩)
  ·have e13:=hJ.vE 0 13 rfl (by decide) (hdep 0 (by rfl)) (fun _ h=>h);obtain⟨i10,e23,H10⟩:=hJ.vI 10 23 rfl (by decide) (hdep 10 (by rfl)) (fun _ h=>h);have HEXT:=Lib.hid hJ.ext;have hA9:=(hJ.be.block kS (lt_of_block HBS.out) (NO.cells HBS.out (by decide))).trans HBS.out;have hB9:=(hJ.be.block kf (lt_of_block HBf.out) (NO.cells HBf.out (by decide))).trans HBf.out;have HA9:=Lib.hid hA9;have HB9:=Lib.hid hB9;clear hA9 hB9;clear hJ hdep hcl;refine⟨rfl,fun K9 hK=>?_⟩;have HST:=Lib.hid hstep;clear hstep;go_simp;refine (tail1_p wc HST9.out HROOM.out i10 f _ _ H10.out (HEXT.out.get HF.out) G1.out kS kf HA9.out HB9.out).mono ?_;rintro e w8 ⟨i8,s8,rfl,p1,p2,p3,p4⟩;exact hK.out _ _ (HST.out _ _ _ p1 p2 p4 ⟨i8,rfl,p3⟩)
  ·have e29:=hJ.vE 16 29 rfl (by decide) (hdep 16 (by rfl)) (fun _ h=>h);clear hJ hdep hcl;refine⟨rfl,fun K9 hK=>?_⟩;have HST:=Lib.hid hstep;clear hstep;go_simp;refine (ofS_p wc HST9.out HROOM.out 9 ⟨by decide,by decide⟩ _ [] (IL.nil B k E wc) [] rfl G13.out).mono ?_;rintro e w8 ⟨i8,s8,rfl,p1,p2,p3,p4⟩;exact hK.out _ _ (HST.out _ _ _ p1 p2 p4 ⟨i8,rfl,p3⟩)
  ·have e27:=hJ.vE 14 27 rfl (by decide) (hdep 14 (by rfl)) (fun _ h=>h);have e28:=hJ.vE 15 28 rfl (by decide) (hdep 15 (by rfl)) (fun _ h=>h);obtain⟨i17,e30,H17⟩:=hJ.vI 17 30 rfl (by decide) (hdep 17 (by rfl)) (fun _ h=>h);have HEXT:=Lib.hid hJ.ext;clear hJ hdep hcl;refine⟨rfl,fun K9 hK=>?_⟩;have HST:=Lib.hid hstep;clear hstep;go_simp;refine (sameS_p wc HST9.out HROOM.out i i17 X nilF (HEXT.out.get HX.out) H17.out G5.out).mono ?_;rintro e w8 ⟨i8,s8,rfl,p1,p2,p3,p4⟩;exact hK.out _ _ (HST.out _ _ _ p1 p2 p4 ⟨i8,rfl,p3⟩)
  ·have e26:=hJ.vE 13 26 rfl (by decide) (hdep 13 (by rfl)) (fun _ h=>h);obtain⟨i18,e31,H18⟩:=hJ.vI 18 31 rfl (by decide) (hdep 18 (by rfl)) (fun _ h=>h);have HEXT:=Lib.hid hJ.ext;clear hJ hdep hcl;refine⟨rfl,fun K9 hK=>?_⟩;have HST:=Lib.hid hstep;clear hstep;go_simp;have hal:Below wc.heap.size wc (wc.alloc _):=(Below.refl _ _).alloc (Nat.le_refl _) (.cells #[.int .i64 ((f:Nat):Int),.int .i64 ((i18:Nat):Int)] 116)
   exact hK.out _ _ (HST.out _ _ _ (HST9.out.below hal) ((Ext.refl _).up (Nat.zero_le _)) (.of_below hal) ⟨[f,i18],IL.block (l:=[f,i18]) (cs:=[.int .i64 ((f:Nat):Int),.int .i64 ((i18:Nat):Int)]) (show (wc.alloc (.cells #[.int .i64 ((f:Nat):Int),.int .i64 ((i18:Nat):Int)] 116)).heap[wc.heap.size]?=some (.cells [.int .i64 ((f:Nat):Int),.int .i64 ((i18:Nat):Int)].toArray 116 (0,0)) from heap_alloc_new wc _) (by decide) (HST9.out.fresh (Nat.le_refl _)) (by show 2<=maxLen;decide) rfl,by simp only[List.map_cons,List.map_nil,HEXT.out.get HF.out,H18.out]⟩)
  ·have e25:=hJ.vE 12 25 rfl (by decide) (hdep 12 (by rfl)) (fun _ h=>h);obtain⟨v19,e32,f19⟩:=hJ.val 19 (by decide) (hdep 19 (by rfl));obtain⟨l19,f19a,h19⟩:=(show IdL B k E v19 [fillF Y,eqfF X nilF] s9 wc from f19);obtain⟨q19o,q19c,g19,-⟩:=id f19a;rw[g19] at e32 f19a;replace e32:T[32]?=_:=e32;have A19:=Lib.hid f19a;have H19:=Lib.hid h19;clear f19 f19a h19 g19;clear hJ hdep hcl;refine⟨rfl,fun K9 hK=>?_⟩;have HST:=Lib.hid hstep;clear hstep;go_simp;refine (eitherS_p wc HST9.out HROOM.out _ l19 A19.out _ H19.out G2.out).mono ?_;rintro e w8 ⟨i8,s8,rfl,p1,p2,p3,p4⟩;exact hK.out _ _ (HST.out _ _ _ p1 p2 p4 ⟨i8,rfl,p3⟩)
  ·have e39:=hJ.vE 26 39 rfl (by decide) (hdep 26 (by rfl)) (fun _ h=>h);have HEXT:=Lib.hid hJ.ext;clear hJ hdep hcl;refine⟨rfl,fun K9 hK=>?_⟩;have HST:=Lib.hid hstep;clear hstep;go_simp;have hal:Below wc.heap.size wc (wc.alloc _):=(Below.refl _ _).alloc (Nat.le_refl _) (.cells #[.int .i64 ((l:Nat):Int)] 116);exact hK.out _ _ (HST.out _ _ _ (HST9.out.below hal) ((Ext.refl _).up (Nat.zero_le _)) (.of_below hal) ⟨[l],IL.block (l:=[l]) (cs:=[.int .i64 ((l:Nat):Int)]) (show (wc.alloc (.cells #[.int .i64 ((l:Nat):Int)] 116)).heap[wc.heap.size]?=some (.cells [.int .i64 ((l:Nat):Int)].toArray 116 (0,0)) from heap_alloc_new wc _) (by decide) (HST9.out.fresh (Nat.le_refl _)) (by show 1<=maxLen;decide) rfl,by simp only[List.map_cons,List.map_nil,HEXT.out.get HY.out]⟩)
  ·have e38:=hJ.vE 25 38 rfl (by decide) (hdep 25 (by rfl)) (fun _ h=>h);obtain⟨v27,e40,f27⟩:=hJ.val 27 (by decide) (hdep 27 (by rfl));obtain⟨l27,f27a,h27⟩:=(show IdL B k E v27 [Y] s9 wc from f27);obtain⟨q27o,q27c,g27,-⟩:=id f27a;rw[g27] at e40 f27a;replace e40:T[40]?=_:=e40;have A27:=Lib.hid f27a;have H27:=Lib.hid h27;clear f27 f27a h27 g27;clear hJ hdep hcl;refine⟨rfl,fun K9 hK=>?_⟩;have HST:=Lib.hid hstep;clear hstep;go_simp;refine (ofS_p wc HST9.out HROOM.out 7 ⟨by decide,by decide⟩ _ l27 A27.out [Y] H27.out G12.out).mono ?_;rintro e w8 ⟨i8,s8,rfl,p1,p2,p3,p4⟩;exact hK.out _ _ (HST.out _ _ _ p1 p2 p4 ⟨i8,rfl,p3⟩)
  ·obtain⟨i28,e41,H28⟩:=hJ.vI 28 41 rfl (by decide) (hdep 28 (by rfl)) (fun _ h=>h);have e42:=hJ.vE 29 42 rfl (by decide) (hdep 29 (by rfl)) (fun _ h=>h);have HEXT:=Lib.hid hJ.ext;clear hJ hdep hcl;refine⟨rfl,fun K9 hK=>?_⟩;have HST:=Lib.hid hstep;clear hstep;go_simp;have hal:Below wc.heap.size wc (wc.alloc _):=(Below.refl _ _).alloc (Nat.le_refl _) (.cells #[.int .i64 ((i28:Nat):Int),.int .i64 ((i:Nat):Int)] 116)
   exact hK.out _ _ (HST.out _ _ _ (HST9.out.below hal) ((Ext.refl _).up (Nat.zero_le _)) (.of_below hal) ⟨[i28,i],IL.block (l:=[i28,i]) (cs:=[.int .i64 ((i28:Nat):Int),.int .i64 ((i:Nat):Int)]) (show (wc.alloc (.cells #[.int .i64 ((i28:Nat):Int),.int .i64 ((i:Nat):Int)] 116)).heap[wc.heap.size]?=some (.cells [.int .i64 ((i28:Nat):Int),.int .i64 ((i:Nat):Int)].toArray 116 (0,0)) from heap_alloc_new wc _) (by decide) (HST9.out.fresh (Nat.le_refl _)) (by show 2<=maxLen;decide) rfl,by simp only[List.map_cons,List.map_nil,H28.out,HEXT.out.get HX.out]⟩)
  ·have e37:=hJ.vE 24 37 rfl (by decide) (hdep 24 (by rfl)) (fun _ h=>h);obtain⟨v30,e43,f30⟩:=hJ.val 30 (by decide) (hdep 30 (by rfl));obtain⟨l30,f30a,h30⟩:=(show IdL B k E v30 [hdF Y,X] s9 wc from f30);obtain⟨q30o,q30c,g30,-⟩:=id f30a;rw[g30] at e43 f30a;replace e43:T[43]?=_:=e43;have A30:=Lib.hid f30a;have H30:=Lib.hid h30;clear f30 f30a h30 g30;clear hJ hdep hcl;refine⟨rfl,fun K9 hK=>?_⟩;have HST:=Lib.hid hstep;clear hstep;go_simp;refine (ofS_p wc HST9.out HROOM.out 10 ⟨by decide,by decide⟩ _ l30 A30.out [hdF Y,X] H30.out G11.out).mono ?_;rintro e w8 ⟨i8,s8,rfl,p1,p2,p3,p4⟩;exact hK.out _ _ (HST.out _ _ _ p1 p2 p4 ⟨i8,rfl,p3⟩)
  ·have e35:=hJ.vE 22 35 rfl (by decide) (hdep 22 (by rfl)) (fun _ h=>h);have e36:=hJ.vE 23 36 rfl (by decide) (hdep 23 (by rfl)) (fun _ h=>h);obtain⟨i31,e44,H31⟩:=hJ.vI 31 44 rfl (by decide) (hdep 31 (by rfl)) (fun _ h=>h);have HEXT:=Lib.hid hJ.ext;clear hJ hdep hcl;refine⟨rfl,fun K9 hK=>?_⟩;have HST:=Lib.hid hstep;clear hstep;go_simp;refine (sameS_p wc HST9.out HROOM.out l i31 Y _ (HEXT.out.get HY.out) H31.out G6.out).mono ?_;rintro e w8 ⟨i8,s8,rfl,p1,p2,p3,p4⟩;exact hK.out _ _ (HST.out _ _ _ p1 p2 p4 ⟨i8,rfl,p3⟩)
  ·have e34:=hJ.vE 21 34 rfl (by decide) (hdep 21 (by rfl)) (fun _ h=>h);obtain⟨i32,e45,H32⟩:=hJ.vI 32 45 rfl (by decide) (hdep 32 (by rfl)) (fun _ h=>h);have HEXT:=Lib.hid hJ.ext;have hA9:=(hJ.be.block kS (lt_of_block HBS.out) (NO.cells HBS.out (by decide))).trans HBS.out;have hB9:=(hJ.be.block kf (lt_of_block HBf.out) (NO.cells HBf.out (by decide))).trans HBf.out;have HA9:=Lib.hid hA9;have HB9:=Lib.hid hB9;clear hA9 hB9;clear hJ hdep hcl;refine⟨rfl,fun K9 hK=>?_⟩;have HST:=Lib.hid hstep;clear hstep;go_simp;refine (tail1_p wc HST9.out HROOM.out i32 f _ _ H32.out (HEXT.out.get HF.out) G3.out kS kf HA9.out HB9.out).mono ?_;rintro e w8 ⟨i8,s8,rfl,p1,p2,p3,p4⟩;exact hK.out _ _ (HST.out _ _ _ p1 p2 p4 ⟨i8,rfl,p3⟩)
  obtain⟨i11,e24,H11⟩:=hJ.vI 11 24 rfl (by decide) (hdep 11 (by rfl)) (fun _ h=>h);obtain⟨i20,e33,H20⟩:=hJ.vI 20 33 rfl (by decide) (hdep 20 (by rfl)) (fun _ h=>h);obtain⟨i33,e46,H33⟩:=hJ.vI 33 46 rfl (by decide) (hdep 33 (by rfl)) (fun _ h=>h);clear hJ hdep hcl;refine⟨rfl,fun K9 hK=>?_⟩;have HST:=Lib.hid hstep;clear hstep;go_simp;have hal:Below wc.heap.size wc (wc.alloc _):=(Below.refl _ _).alloc (Nat.le_refl _) (.cells #[.int .i64 ((i11:Nat):Int),.int .i64 ((i20:Nat):Int),.int .i64 ((i33:Nat):Int)] 116)
  exact hK.out _ _ (HST.out _ _ _ (HST9.out.below hal) ((Ext.refl _).up (Nat.zero_le _)) (.of_below hal) ⟨[i11,i20,i33],IL.block (l:=[i11,i20,i33]) (cs:=[.int .i64 ((i11:Nat):Int),.int .i64 ((i20:Nat):Int),.int .i64 ((i33:Nat):Int)]) (show (wc.alloc (.cells #[.int .i64 ((i11:Nat):Int),.int .i64 ((i20:Nat):Int),.int .i64 ((i33:Nat):Int)] 116)).heap[wc.heap.size]?=some (.cells [.int .i64 ((i11:Nat):Int),.int .i64 ((i20:Nat):Int),.int .i64 ((i33:Nat):Int)].toArray 116 (0,0)) from heap_alloc_new wc _) (by decide) (HST9.out.fresh (Nat.le_refl _)) (by show 3<=maxLen;decide) rfl,by simp only[List.map_cons,List.map_nil,H11.out,H20.out,H33.out]⟩)
 rintro T wt ⟨s9,hJ⟩;have a0:=hJ.vE 0 13 rfl (by decide) rfl (fun _ h=>h);have a1:=hJ.vE 1 14 rfl (by decide) rfl (fun _ h=>h);have a2:=hJ.vE 2 15 rfl (by decide) rfl (fun _ h=>h);have a3:=hJ.vE 3 16 rfl (by decide) rfl (fun _ h=>h);obtain⟨i4,a4,H4⟩:=hJ.vI 4 17 rfl (by decide) rfl (fun _ h=>h);have a5:=hJ.vE 5 18 rfl (by decide) rfl (fun _ h=>h);have a6:=hJ.vE 6 19 rfl (by decide) rfl (fun _ h=>h);have a7:=hJ.vE 7 20 rfl (by decide) rfl (fun _ h=>h);obtain⟨i8,a8,H8⟩:=hJ.vI 8 21 rfl (by decide) rfl (fun _ h=>h);obtain⟨i9,a9,H9⟩:=hJ.vI 9 22 rfl (by decide) rfl (fun _ h=>h);obtain⟨i10,a10,H10⟩:=hJ.vI 10 23 rfl (by decide) rfl (fun _ h=>h);obtain⟨i11,a11,H11⟩:=hJ.vI 11 24 rfl (by decide) rfl (fun _ h=>h);have a12:=hJ.vE 12 25 rfl (by decide) rfl (fun _ h=>h)
 have a13:=hJ.vE 13 26 rfl (by decide) rfl (fun _ h=>h);have a14:=hJ.vE 14 27 rfl (by decide) rfl (fun _ h=>h);have a15:=hJ.vE 15 28 rfl (by decide) rfl (fun _ h=>h);have a16:=hJ.vE 16 29 rfl (by decide) rfl (fun _ h=>h);obtain⟨i17,a17,H17⟩:=hJ.vI 17 30 rfl (by decide) rfl (fun _ h=>h);obtain⟨i18,a18,H18⟩:=hJ.vI 18 31 rfl (by decide) rfl (fun _ h=>h);obtain⟨v19,a19,f19⟩:=hJ.val 19 (by decide) rfl;obtain⟨l19,f19a,h19⟩:=(show IdL B k E v19 [fillF Y,eqfF X nilF] s9 wt from f19);have A19:=Lib.hid f19a;clear f19 f19a h19;obtain⟨i20,a20,H20⟩:=hJ.vI 20 33 rfl (by decide) rfl (fun _ h=>h);have a21:=hJ.vE 21 34 rfl (by decide) rfl (fun _ h=>h);have a22:=hJ.vE 22 35 rfl (by decide) rfl (fun _ h=>h);have a23:=hJ.vE 23 36 rfl (by decide) rfl (fun _ h=>h)
 have a24:=hJ.vE 24 37 rfl (by decide) rfl (fun _ h=>h);have a25:=hJ.vE 25 38 rfl (by decide) rfl (fun _ h=>h);have a26:=hJ.vE 26 39 rfl (by decide) rfl (fun _ h=>h);obtain⟨v27,a27,f27⟩:=hJ.val 27 (by decide) rfl;obtain⟨l27,f27a,h27⟩:=(show IdL B k E v27 [Y] s9 wt from f27);have A27:=Lib.hid f27a;clear f27 f27a h27;obtain⟨i28,a28,H28⟩:=hJ.vI 28 41 rfl (by decide) rfl (fun _ h=>h);have a29:=hJ.vE 29 42 rfl (by decide) rfl (fun _ h=>h);obtain⟨v30,a30,f30⟩:=hJ.val 30 (by decide) rfl;obtain⟨l30,f30a,h30⟩:=(show IdL B k E v30 [hdF Y,X] s9 wt from f30);have A30:=Lib.hid f30a;clear f30 f30a h30;obtain⟨i31,a31,H31⟩:=hJ.vI 31 44 rfl (by decide) rfl (fun _ h=>h);obtain⟨i32,a32,H32⟩:=hJ.vI 32 45 rfl (by decide) rfl (fun _ h=>h)
 obtain⟨i33,a33,H33⟩:=hJ.vI 33 46 rfl (by decide) rfl (fun _ h=>h);obtain⟨v34,a34,f34⟩:=hJ.val 34 (by decide) rfl;obtain⟨l34,f34a,h34⟩:=(show IdL B k E v34 [orF [notF (fillF Y),eqfF (lenF Y) (addF (lenF X) (nF 1))],orF [fillF Y,eqfF X nilF],orF [notF (fillF Y),eqfF Y (consF (hdF Y) X)]] s9 wt from f34);have A34:=Lib.hid f34a;have H34:=Lib.hid h34;clear f34 f34a h34
 have hfr:=hJ.fin (fun i hi=>Nat.lt_of_lt_of_le (HL9.out i hi) (of_decide_eq_true rfl)) rfl (.cons a0 (.cons a1 (.cons a2 (.cons a3 (.cons a4 (.cons a5 (.cons a6 (.cons a7 (.cons a8 (.cons a9 (.cons a10 (.cons a11 (.cons a12 (.cons a13 (.cons a14 (.cons a15 (.cons a16 (.cons a17 (.cons a18 (.cons a19 (.cons a20 (.cons a21 (.cons a22 (.cons a23 (.cons a24 (.cons a25 (.cons a26 (.cons a27 (.cons a28 (.cons a29 (.cons a30 (.cons a31 (.cons a32 (.cons a33 (.cons a34 .nil)))))))))))))))))))))))))))))))))));have HST9:=Lib.hid hJ.st;have HEX9:Hid (Ext s1 s9 15):=Lib.hid hJ.ext;have HBE9:=Lib.hid hJ.be;clear hJ HNE HL9 a0 a1 a2 a3 a4 a5 a6 a7 a8 a9 a10 a11 a12 a13 a14 a15 a16 a17 a18 a19 a20 a21 a22 a23 a24 a25 a26 a27 a28 a29 a30 a31 a32 a33 a34;rw[hfr];clear hfr
 simp only[fillW,Nat.reduceAdd,List.setIfInBounds_toArray,List.set_cons_zero,List.set_cons_succ];simp only[List.drop_succ_cons,List.drop_zero];go_wp2_with fail;go_ret;exact⟨_,s9,rfl,⟨l34,A34.out,H34.out⟩,HST9.out,HE1.out.trans HEX9.out (by omega),HT1.out.trans HBE9.out⟩
theorem infoId:(Tryz.prog.info? 116).map (fun i=>(i.zero,i.size,i.bytes))=some (some (.int .i64 0),1,8):=by kernel_rfl
def idR:El Nat where
 e:=116
 t:=114
 n:=1
 b:=8
 z:=.int .i64 0
 f i:=[.int .i64 ((i:Nat):Int)]
 R _ _:=True
 ok _:=True
 pos:=by decide
 by_:=by decide
 zs:=rfl
 z32:=by intro u hu z;simp only[Value.cells,List.mem_cons,List.not_mem_nil,or_false] at hu;subst hu;intro h;cases h
 ht:=Tryz.underlying114
 info:=infoId
 len _:=rfl
 one n:=by intro u hu;rw[List.mem_singleton] at hu;subst hu;rfl
 n32 n:=by intro u hu z;rw[List.mem_singleton] at hu;subst hu;intro h;cases h
 fr _ _ _:=trivial
 own:=trivial
theorem idR_flat (l:List Nat):l.flatMap idR.f=l.map fun i=>Value.int .i64 ((i:Nat):Int):=by
 induction l with
 | nil=>rfl
 | cons a l ih=>rw[List.flatMap_cons,ih];rfl
theorem idR_stp {B k B0:Nat} {w w':World} {v:Value} {l:List Nat} (h:idR.Row w B0 v l) (hk:Stp B k w w'):idR.Row w' B0 v l:=by
 have blk:∀ (g:Nat) (c:Array Value),w.heap[g]?=some (Obj.cells c 116 (0,0))->w'.heap[g]?=some (Obj.cells c 116 (0,0)):=fun g c hc=>(hk.block g (lt_of_block hc) (NO.cells hc (by decide))).trans hc
 obtain⟨⟨h1,h2⟩,h3,h4⟩:=h;refine⟨⟨h1,?_⟩,fun g hg=>?_,fun _ _=>trivial⟩
 ·rcases h2 with h2 | ⟨g,cap,cur,e1,e2,e3,e4⟩
  ·exact .inl h2
  exact .inr ⟨g,cap,cur,e1,e2,blk g cur e3,e4⟩
 obtain⟨c,hc,h32⟩:=h3 g hg;exact⟨c,blk g c hc,h32⟩
theorem idR_il {B k B0:Nat} {E:Nat->Prop} {w:World} {v:Value} {l:List Nat} (h:idR.Row w B0 v l) (hE:∀ g,v.ownBlock=some g->¬ E g):IL B k E w v l:=by
 obtain⟨ko,kc,rfl,h1,h2⟩:=h.at;refine⟨ko,kc,rfl,h1,fun j hj=>?_⟩;obtain⟨a,ha,⟨c,hc⟩,h3,-⟩:=h2 j hj;refine⟨a,ha,⟨⟨NO.cells hc (by decide),hE _ (by rw[ha];rfl)⟩,⟨c,hc⟩⟩,?_⟩;have:=h3 0 (.int .i64 ((l[j]:Nat):Int)) rfl
 simpa [idR] using this
theorem idR_block {B0 g:Nat} {w:World} {l:List Nat} (h:w.heap[g]?=some (.cells (l.map fun i=>Value.int .i64 ((i:Nat):Int)).toArray 116 (0,0))) (hg:B0<=g) (hl:l.length<=maxLen):idR.Row w B0 (.slice (some ⟨g,0,none⟩) l.length l.length) l:=by
 refine⟨⟨by rw[flat_lenV idR.f idR.len],.inr ⟨g,l.length,_,rfl,hg,h,Nat.le_refl _,hl,by simp[idR],?_⟩⟩,fun q hq=>?_,fun _ _=>trivial⟩
 ·rw[idR_flat];show List.take (l.length*1) (l.map _)=_
  rw[Nat.mul_one];exact List.take_of_length_le (by simp)
 injection hq with hq;subst hq;refine⟨_,h,?_⟩;intro u hu z;simp only[List.mem_map] at hu;obtain⟨i,-,rfl⟩:=hu;intro h;cases h
theorem idR_at {g:Nat} {w:World} {l:List Nat} (h:w.heap[g]?=some (.cells (l.map fun i=>Value.int .i64 ((i:Nat):Int)).toArray 116 (0,0))) (hl:l.length<=maxLen):idR.At w (.slice (some ⟨g,0,none⟩) l.length l.length) l:=(idR_block h (Nat.zero_le _) hl).at
theorem IL.atF {B k:Nat} {E:Nat->Prop} {w:World} {v:Value} {l:List Nat} (h:IL B k E w v l):idR.At w v l:=by
 obtain⟨ko,kc,rfl,h1,h2⟩:=h;refine⟨ko,kc,rfl,h1,fun j hj=>?_⟩;obtain⟨a,ha,⟨-,hc⟩,hcell⟩:=h2 j hj;refine⟨a,ha,hc,fun q u hu=>?_,trivial⟩;cases q with
 | zero =>
  injection hu with hu;subst hu;have e:a.add (j*idR.n+0)=a.add j:=by rw[show idR.n=1 from rfl,Nat.mul_one,Nat.add_zero]
  rw[e];exact hcell
 | succ q=>cases hu
def LenPost (B k:Nat) (E:Nat->Prop) (L s:List F) (ts:List F) (n:Nat) (w:World) (e:Ending) (w':World):Prop:=∃ v ids s',e=.returned v/\idR.Row w' w.heap.size v ids/\ids.map (fun i=>s'[i]?)=ts.map some/\St B k (fun g=>E g\/v.ownBlock=some g) L s' w'/\Ext s s' n/\Stp B k w w'
theorem El.At.frontF {α:Type} {E:El α} {w:World} {g cap:Nat} {el:List α} {z:Array Value} (h:w.heap[g]?=some (.cells ((el.flatMap E.f).toArray++z) E.e (0,0))) (hl:el.length<=cap) (hc:cap<=maxLen) (hR:∀ a ∈ el,E.R w a):E.At w (.slice (some ⟨g,0,none⟩) el.length cap) el:=by
 refine⟨_,_,rfl,⟨hl,hc,fun h=>by cases h⟩,fun i hi=>⟨_,rfl,⟨_,h⟩,fun j u hu=>?_,hR _ (List.getElem_mem hi)⟩⟩;have hj:j<E.n:=by have:=(List.getElem?_eq_some_iff.1 hu).1;rwa [E.len] at this
 have hq:i*E.n+j<(el.flatMap E.f).length:=by
  rw[flat_lenV E.f E.len];calc i*E.n+j<i*E.n+E.n:=by omega
   _=(i+1)*E.n:=by rw[Nat.add_mul];omega
   _<=el.length*E.n:=Nat.mul_le_mul_right _ hi
 rw[add_litV,Nat.zero_add,cell_of_row w g _ _ _ _ h,Array.getElem?_append_left (by simpa using hq),gsa,flat_atV E.f E.len el i j hi hj];exact hu
theorem El.At.moreF {α:Type} {E:El α} {w:World} {ko:Option Addr} {n:Nat} {x:Value} {el ns:List α} (h:E.At w (.slice ko n n) el) (hx:E.At w x ns) (h0:0<ns.length) (hlen:el.length+ns.length<=1000000) (ty:TypeId) :
  ∃ v' w',(Builtin.append_ #[E.t,E.t] ty #[.slice ko n n,x]).run Tryz.prog w=.ok v' w'/\E.At w' v' (el++ns)/\v'.ownBlock=some w.heap.size/\Below w.heap.size w w':=by
 obtain⟨i,hi,hz,hz1,hz2⟩:=info_parts E.info;have ht:=E.ht;have hbyte:=E.by_;obtain⟨xo,xc,rfl,hx1,hx2⟩:=id hx;obtain⟨a,rfl,-,-,hR0⟩:=hx2 0 h0;have hnews:=hx.news;have hl:(ns.flatMap E.f).length=ns.length*i.size:=by rw[hz1];exact flat_lenV E.f E.len ns
 have hb2:(el.length+ns.length)*i.bytes<=140737488355328:=by
  rw[hz2];exact Nat.le_trans (Nat.mul_le_mul hlen hbyte) (by decide)
 have hmx:el.length+ns.length<=maxLen:=by unfold maxLen;omega
 have hR:∀ b ∈ el++ns,E.R w b:=fun b hb=>by
  rcases List.mem_append.1 hb with hb | hb
  ·obtain⟨k,hk,rfl⟩:=List.getElem_of_mem hb;obtain⟨_,_,_,_,h5⟩:=h;obtain⟨_,_,_,_,h6⟩:=h5 k hk;exact h6
  obtain⟨k,hk,rfl⟩:=List.getElem_of_mem hb;obtain⟨_,_,_,h6⟩:=hx2 k hk;exact h6.2
 have hbl:∀ o:Obj,Below w.heap.size w (w.drew.alloc o):=fun o=>((Below.refl _ _).drew).alloc (Nat.le_refl _) o
 have hn:n=el.length:=by obtain⟨_,_,e,_⟩:=h;injection e
 cases ko with
 | none =>
  have h00:n=0:=by obtain⟨_,_,e,⟨_,_,h3⟩,_⟩:=h;injection e with e1 e2 e3;rw[e3];exact h3 e1.symm
  have he:el=[]:=List.eq_nil_of_length_eq_zero (by omega);subst h00;subst he;have hr2:=run_append_nil (P:=Tryz.prog) w E.t ty E.e i E.z ht hi hz a ns.length xc _ hl hnews h0 (by omega) (by rw[lsn,Nat.zero_add] at hb2;omega);refine⟨_,_,hr2,?_,rfl,hbl _⟩;exact El.At.frontF (el:=ns) (heap_alloc_new w.drew _) (grownCap_ge ..) (grownCap_le_maxLen _ _ _ _ (by simpa using hmx)) (fun b hb=>E.below (hR b (by simpa using hb)) (hbl _))
 | some b =>
  have hlo:(el.flatMap E.f).length=n*i.size:=by rw[hz1,hn];exact flat_lenV E.f E.len el
  have hr2:=run_append_grow (P:=Tryz.prog) w E.t ty E.e i E.z ht hi hz b n n _ hlo h.news a ns.length xc _ hl hnews (by omega) (by omega) (growslice_fits (by omega) (by rw[hn];exact hb2));refine⟨_,_,hr2,?_,rfl,hbl _⟩;have e:(el.flatMap E.f).toArray++(ns.flatMap E.f).toArray=((el++ns).flatMap E.f).toArray:=by rw[List.flatMap_append];simp
  have hh:=heap_alloc_new w.drew (.cells ((el.flatMap E.f).toArray++(ns.flatMap E.f).toArray++Builtin.zeroCells E.z.cells (grownCap w (n+ns.length) n E.e - (n+ns.length))) E.e);rw[e] at hh;have:=El.At.frontF (el:=el++ns) (cap:=grownCap w (n+ns.length) n E.e) hh (by rw[lsa,<-hn];exact grownCap_ge ..) (grownCap_le_maxLen _ _ _ _ (by rw[hn];exact hmx)) (fun b hb=>E.below (hR b hb) (hbl _));rw[lsa,<-hn] at this;rw[e];exact this
theorem El.Row.fullF {α:Type} {E:El α} {w:World} {B:Nat} {ko:Option Addr} {n:Nat} {x:Value} {el ns:List α} (h:E.Row w B (.slice ko n n) el) (hx:E.At w x ns) (h0:0<ns.length) (hlen:el.length+ns.length<=1000000) (hB:B<=w.heap.size) (ty:TypeId) :
  ∃ v' w',(Builtin.append_ #[E.t,E.t] ty #[.slice ko n n,x]).run Tryz.prog w=.ok v' w'/\E.Row w' B v' (el++ns)/\v'.ownBlock=some w.heap.size/\Below w.heap.size w w':=by
 obtain⟨v1,w1,r1,a1,c1,b1⟩:=h.at.moreF hx h0 hlen ty;obtain⟨v2,w2,r2,a2,-⟩:=h.run hx ty hlen hB;rw[r1] at r2;injection r2 with e1 e2;subst e1;subst e2;exact⟨v1,w1,r1,a2,c1,b1⟩
theorem El.Row.appendFull {α:Type} {E:El α} {w:World} {B:Nat} {ko:Option Addr} {n:Nat} {x:Value} {el ns:List α} (h:E.Row w B (.slice ko n n) el) {ops:Array Oper} {rest:List Oper} {o:Oper} {a:Act} {Q:Exit->Act->World->Prop} (hgd:o.guard=none) (s y:Operand)
  (ho:o.op=.call { callee:=.builtin .append,args:=#[s,y],argTypes:=#[E.t,E.t] }) (hs:a.eval s=.slice ko n n) (hx:a.eval y=x) (hxs:E.At w x ns) (h0:0<ns.length) (hlen:el.length+ns.length<=1000000) (hB:B<=w.heap.size)
  (hK:∀ v' w',E.Row w' B v' (el++ns)->v'.ownBlock=some w.heap.size->Below w.heap.size w w'->wpList Tryz.prog ops Q rest (a.put o.dst v') w'):wpList Tryz.prog ops Q (o::rest) a w:=by
 refine wpList_plain hgd fun K hk=>?_
 obtain⟨v',w',hr,h1,h2,h3⟩:=h.fullF hxs h0 hlen hB o.type;unfold Oper.wp execOp;simp only[ho,resolve,invoke,builtin,Sem.run_bind,Sem.run_pure,Result.andThen_ok,List.map_toArray,List.map_cons,List.map_nil,hs,hx,hr];exact hk _ _ (hK v' w' h1 h2 h3)
theorem St.turn {B k:Nat} {E E':Nat->Prop} {L s:List F} {w w':World} {r:Option Nat} (h:St B k E L s w) (hg:w.grownBy w' r)
  (hr:∀ g,r=some g->E g/\B<=g/\∃ c,w.heap[g]?=some (.cells c 116 (0,0))/\N32 c.toList)
  (hE:∀ g,E' g->E g\/w.heap.size<=g) (hl:∀ g,E' g->g<w'.heap.size):St B k E' L s w':=by
 obtain⟨km,v,us,M,h⟩:=h;obtain⟨w0,h1,h2,h3⟩:=h.tx;have cellsNe:∀ (g:Nat) (c:Array Value) (T:TypeId),w.heap[g]?=some (.cells c T (0,0))->T≠116->some g≠r:=fun g c T hc hT e=>by
  obtain⟨-,-,c',hc',-⟩:=hr g e.symm;rw[hc] at hc';injection hc' with e1;injection e1 with _ e2;exact hT e2
 have ek:w'.heap[k]?=w.heap[k]?:=hg.block k (lt_of_block h.bk) (cellsNe k _ _ h.bk (by decide));have em:w'.heap[km]?=w.heap[km]?:=hg.block km h.mp.lt (fun e=>by
  obtain⟨-,-,c',hc',-⟩:=hr km e.symm;obtain⟨es,cl,hm⟩:=h.mp.obj;rw[hm] at hc';cases hc')
 have kn:KN w w':=by
  intro a z hc;have hla:=World.block_lt_of_cell? w a hc;by_cases hb:some a.block=r
  ·obtain⟨-,-,c,hc',h32⟩:=hr a.block hb.symm;exact absurd hc (cell_n32 hc' h32 rfl z)
  rw[cell_keepF (hg.block _ hla hb)];exact hc
 have neE:∀ g,¬ E g->some g≠r:=fun g hn e=>hn (hr g e.symm).1
 have no:∀ g,g<w.heap.size->¬ E g->NO B k w g->NO B k w' g:=fun g hlt hn hno=>by
  have hb:=hg.block g hlt (neE g hn);rintro⟨hB,o⟩;refine hno ⟨hB,?_⟩;rw[hb] at o;rcases o with o | ⟨c,T,a1,a2 | ⟨a2,a3⟩,a4⟩
  ·exact .inl o
  ·exact .inr ⟨c,T,a1,.inl a2,a4⟩
  exact .inr ⟨c,T,a1,.inr ⟨a2,row_same (fun _=>ek) g hlt a3⟩,a4⟩
 have ns:∀ g,g<w.heap.size->NS B k E w g->NS B k E' w' g:=fun g hlt hn=>⟨no g hlt hn.2 hn.1,fun he=>by rcases hE g he with h9 | h9;exact hn.2 h9;omega⟩
 exact⟨km,v,us,M,{ h with
  bk:=ek.trans h.bk
  sz:=Nat.le_trans h.sz hg.size
  mp:=h.mp.keep em
  row:=by
   obtain⟨⟨r1,r2⟩,r3,r4⟩:=h.row;refine⟨⟨r1,?_⟩,fun g hgo=>?_,fun _ _=>trivial⟩
   ·rcases r2 with r2 | ⟨g,cap,cur,e1,e2,e3,e4⟩
    ·exact .inl r2
    exact .inr ⟨g,cap,cur,e1,e2,(hg.block g (lt_of_block e3) (cellsNe g _ _ e3 (by decide))).trans e3,e4⟩
   obtain⟨c,hc,h32⟩:=r3 g hgo;exact⟨c,(hg.block g (lt_of_block hc) (cellsNe g _ _ hc (by decide))).trans hc,h32⟩
  ft:=fun i u t hu ht=>(((h.ft i u t hu ht).lt).keep (fun g hg'=>hg.block g hg'.2 (neE g hg'.1.2)) kn).mono fun g hg'=>ns g hg'.2 hg'.1
  ids:=fun i u t hu ht=>by
   obtain⟨ko,kc,e,q1,q2⟩:=h.ids i u t hu ht;refine⟨ko,kc,e,q1,fun j hj=>?_⟩;obtain⟨a,ha,hn,hc⟩:=q2 j hj;have hla:=World.block_lt_of_cell? w _ hc;rw[add_blockV] at hla;exact⟨a,ha,⟨ns _ hla hn.1,by obtain⟨c,hc'⟩:=hn.2;exact⟨c,(hg.block _ hla (neE _ hn.1.2)).trans hc'⟩⟩,by rw[cell_keepF (w:=w) (by rw[add_blockV];exact hg.block _ hla (neE _ hn.1.2))];exact hc⟩
  ex:=hl
  tx:=⟨w0,h1,h2,⟨hg.os.trans h3.os,hg.tape.trans h3.tape,hg.output.trans h3.output,Nat.le_trans h3.size hg.size,fun g hgB=>(hg.block g (Nat.lt_of_lt_of_le hgB h.sz) (fun e=>by have:=(hr g e.symm).2.1;omega)).trans (h3.block g hgB)⟩⟩ }⟩
theorem St.own {B k:Nat} {E:Nat->Prop} {L s:List F} {w w':World} {v:Value} {g:Nat} (h:St B k E L s w) (hb:Below w.heap.size w w') (hv:v.ownBlock=some g) (hg:w.heap.size<=g) (hl:g<w'.heap.size):St B k (fun q=>E q\/v.ownBlock=some q) L s w':=by
 have hs:=h;obtain⟨km,v0,us,M,hU⟩:=hs;refine h.turn (below_grownV hb none) (fun g h=>by cases h) (fun q hq=>?_) (fun q hq=>?_)
 ·rcases hq with hq | hq
  ·exact .inl hq
  rw[hv] at hq;injection hq with hq;exact .inr (by omega)
 rcases hq with hq | hq
 ·exact Nat.lt_of_lt_of_le (hU.ex q hq) hb.size
 rw[hv] at hq;injection hq with hq;omega
theorem St.less {B k:Nat} {E E':Nat->Prop} {L s:List F} {w:World} (h:St B k E L s w) (hE:∀ g,E' g->E g):St B k E' L s w:=
 h.turn (World.grownBy.refl _ none) (fun g h=>by cases h) (fun g hg=>.inl (hE g hg)) (fun g hg=>by
  obtain⟨km,v,us,M,h⟩:=h
  exact h.ex g (hE g hg))
def LsF {α:Type} (E:El α) (w:World) (a:Addr) (ls:List (List α)):Prop:=∀ i (h:i<ls.length),∃ o l c,w.cell? (a.add i)=some (.slice o l c)/\E.At w (.slice o l c) ls[i]
theorem LsF.below {α:Type} {E:El α} {w w':World} {a:Addr} {ls:List (List α)} (h:LsF E w a ls) (hb:Below w.heap.size w w'):LsF E w' a ls:=fun i hi=>by
 obtain⟨o,l,c,h1,h2⟩:=h i hi;exact⟨o,l,c,by rw[hb.cell (cell_lt h1)];exact h1,h2.below hb⟩
def lenLF {α:Type} (ls:List (List α)):Nat:=(ls.map (·.length)).sum
theorem lenL_takeF {α:Type} (ls:List (List α)) (j:Nat) (hj:j<ls.length):lenLF (ls.take (j+1))=lenLF (ls.take j)+ls[j].length:=by
 unfold lenLF;rw[List.take_succ_eq_append_getElem hj,List.map_append,List.sum_append];simp
theorem lenL_leF {α:Type} (ls:List (List α)) (j:Nat):lenLF (ls.take j)<=lenLF ls:=by
 unfold lenLF;conv=>rhs;rw[<-List.take_append_drop j ls,List.map_append,List.sum_append]
 omega
theorem lenL_flatF {α:Type} (ls:List (List α)):ls.flatten.length=lenLF ls:=by
 unfold lenLF;rw[List.length_flatten]
theorem flat_takeF {α:Type} (ls:List (List α)) (j:Nat) (hj:j<ls.length):(ls.take (j+1)).flatten=(ls.take j).flatten++ls[j]:=by
 rw[List.take_succ_eq_append_getElem hj,List.flatten_append];simp
theorem wpList_append_runF {w w':World} {v x v':Value} {t tn:TypeId} {ops:Array Oper} {rest:List Oper} {o:Oper} {a:Act} {Q:Exit->Act->World->Prop} (hgd:o.guard=none) (s y:Operand)
  (ho:o.op=.call { callee:=.builtin .append,args:=#[s,y],argTypes:=#[t,tn] }) (hs:a.eval s=v) (hx:a.eval y=x) (hr:∀ ty,(Builtin.append_ #[t,tn] ty #[v,x]).run Tryz.prog w=.ok v' w')
  (hK:wpList Tryz.prog ops Q rest (a.put o.dst v') w'):wpList Tryz.prog ops Q (o::rest) a w:=by
 refine wpList_plain hgd fun K hk=>?_
 unfold Oper.wp execOp;simp only[ho,resolve,invoke,builtin,Sem.run_bind,Sem.run_pure,Result.andThen_ok,List.map_toArray,List.map_cons,List.map_nil,hs,hx,hr];exact hk _ _ hK
theorem madeRowF {α:Type} (E:El α) (w:World) (B n:Nat) (hn:n<=1000000) (hB:B<=w.heap.size) (G:Nat) (hG:n<=G/\G<=maxLen) :
  E.Row (w.drew.alloc (.cells (Builtin.zeroCells E.z.cells n++Builtin.zeroCells E.z.cells (G - n)) E.e)) B (.slice (some ⟨w.heap.size,0,none⟩) 0 G) []:=by
 refine⟨World.ownsRow_made w.drew _ G hB hG.2 ?_,fun g hg=>?_,fun q hq=>by cases hq⟩
 ·simp only[Array.size_append,size_zeroCells,E.zs,<-Nat.add_mul];congr 1;omega
 injection hg with hg;subst hg;exact⟨_,heap_alloc_new w.drew _,by simp only[Array.toList_append];exact (N32.zeros E.z32 _).app (N32.zeros E.z32 _)⟩
theorem growI_p (n B:Nat) (w:World) (hn:n<=1000000) (hB:B<=w.heap.size) :
  Calls Tryz.prog 168 #[.slice none 0 0,.int .i64 (n:Nat)] w fun e w'=>∃ v,e=.returned v/\idR.Row w' B v []/\Below w.heap.size w w':=by
 by_cases h0:n=0
 ·subst h0;go_enter Tryz.func168,Tryz.ntmps168;go_wp2_with fail;exact bodyPost_ret (results_tmp Tryz.results168 _ _ _) rfl ⟨_,rfl,El.Row.nil _ _,Below.refl _ _⟩
 obtain⟨i,hi,hz,hz1,hz2⟩:=info_parts idR.info;have hpos:=idR.pos;have hge:=grownCap_ge w n 0 idR.e;have hle:=grownCap_le_maxLen w n 0 idR.e (by unfold maxLen;omega);have hrun:=fun ty=>Lib.run_append_nil_zeros (P:=Tryz.prog) w idR.t 3 ty idR.e i idR.z .i64 .i64 idR.ht Tryz.underlying3 hi hz n (by omega) (by rw[hz1];exact hpos) (by omega) (by rw[hz2];exact Nat.le_trans (Nat.mul_le_mul hn idR.by_) (by decide))
 obtain⟨G,hG⟩:∃ G,G=grownCap w n 0 idR.e:=⟨_,rfl⟩;rw[<-hG] at hge hle hrun;have HM:=Lib.hid (madeRowF idR w B n hn hB G ⟨hge,hle⟩);have hG2:G<=9223372036854775807:=hle;have hn0:(0:Int)<(n:Int):=by omega
 clear hG hge hle hi hz hz1 hz2 hpos;obtain⟨w2,hw2⟩:∃ q,q=(w.drew.alloc (.cells (Builtin.zeroCells idR.z.cells n++Builtin.zeroCells idR.z.cells (G - n)) idR.e)):=⟨_,rfl⟩;have hbb:Below w.heap.size w w2:=by rw[hw2];exact ((Below.refl _ _).drew).alloc (Nat.le_refl _) _
 rw[<-hw2] at hrun HM;have HB:=Lib.hid hbb;clear hw2 hbb;have HRUN:=Lib.hid hrun;clear hrun;go_enter Tryz.func168,Tryz.ntmps168;go_wp2_with (at_builtin;refine wpList_append_runF rfl (.tmp 20) (.tmp 21) rfl rfl rfl HRUN.out ?_);exact bodyPost_ret (results_tmp Tryz.results168 _ _ _) rfl ⟨_,rfl,HM.out,HB.out⟩
theorem concatI_p (a:Addr) (m mc:Nat) (ls:List (List Nat)) (w:World) (h:LsF idR w a ls) (hm:m=ls.length) (hmc:m<=mc/\mc<=maxLen) (hlen:lenLF ls<=100000) (hml:m<=1000) :
  Calls Tryz.prog 123 #[.slice (some a) m mc] w fun e w'=>∃ v,e=.returned v/\idR.At w' v ls.flatten/\Below w.heap.size w w':=by
 have HX:=Lib.hid h;have HM:=Lib.hid hm;have HL:=Lib.hid hlen;have hmx:mc<=9223372036854775807:=hmc.2;have hmc1:=hmc.1;clear h hm hlen hmc;go_enter Tryz.func123,Tryz.ntmps123;go_wp2_with fail;go_loopw [3,11] (fun nv iv wr=>∃ j s:Nat,iv=.int .i64 (j:Nat)/\nv=.int .i64 (s:Nat)/\j<=m/\s<=100000/\Hid (s=lenLF (ls.take j))/\Hid (Below w.heap.size w wr)) (fun _ i _=>m - (intOf i).toNat)
 case atStart=>exact⟨0,0,rfl,rfl,Nat.zero_le _,Nat.zero_le _,Lib.hid rfl,Lib.hid (Below.refl _ _)⟩
 case round =>
  obtain⟨j,s,rfl,rfl,hj,hs,HS,HW⟩:=hrel;by_cases hlt:j<m
  ·have hjl:j<ls.length:=by rw[<-HM.out];exact hlt
   obtain⟨o,l,c,c0,hat⟩:=(HX.out.below HW.out) j hjl;have hl:l=ls[j].length:=by obtain⟨_,_,e,_⟩:=hat;injection e
   have hl1:=lenL_takeF ls j hjl;have hl2:=lenL_leF ls (j+1);rw[<-hl] at hl1;have hsl:s+l<=100000:=by have:=HS.out;have:=HL.out;omega
   have HS2:=Lib.hid (show s+l=lenLF (ls.take (j+1)) by rw[hl1,HS.out]);clear hl hl1 hl2 hat;go_wp2_with fail;go_roundw
   case rel=>exact⟨j+1,s+l,by go_num,by go_num,hlt,hsl,HS2,HW⟩
   case measure=>simp[intOf];omega
  have ej:j=m:=by omega
  subst ej;obtain⟨wq,rfl⟩:∃ q,q=wr:=⟨_,rfl⟩;go_wp2_with fail;refine (growI_p s w.heap.size wq (by omega) HW.out.size).mono ?_;rintro e w3 ⟨v3,rfl,hr,hb⟩;obtain⟨po,pc,rfl,-⟩:=hr.form;have HR:=Lib.hid hr;replace HW:=Lib.hid (HW.out.trans (hb.mono HW.out.size));clear hr hb;go_wp2_with fail;go_loopw [6,27] (fun ov iv wr=>∃ (j2:Nat),iv=.int .i64 (j2:Nat)/\j2<=j/\Hid (idR.Row wr w.heap.size ov (ls.take j2).flatten)/\Hid (Below w.heap.size w wr)) (fun _ i _=>j - (intOf i).toNat)
  case atStart=>exact⟨0,rfl,Nat.zero_le _,HR,HW⟩
  case round =>
   clear HR HW;obtain⟨j2,rfl,hj2,HR,HW⟩:=hrel;obtain⟨oo,oc,rfl,hol,hoc,-⟩:=HR.out.form;by_cases hlt2:j2<j
   ·have hjl:j2<ls.length:=by rw[<-HM.out];exact hlt2
    obtain⟨o,l,c,c0,hat⟩:=(HX.out.below HW.out) j2 hjl;have HAT:=Lib.hid hat;have hl0:(ls.take j2).flatten.length+ls[j2].length<=100000:=by have h1:=lenL_takeF ls j2 hjl;have h2:=lenL_leF ls (j2+1);have h3:=lenL_flatF (ls.take j2);have:=HL.out;omega
    have HL0:=Lib.hid hl0;clear hat hl0;go_wp2_with (at_builtin;refine El.Row.append (E:=idR) HR.out rfl (.tmp 31) (.tmp 32) rfl rfl rfl HAT.out (by have:=HL0.out;omega) HW.out.size ?_;intro v9 w9 r1 r2 r3 r4);go_roundw
    case rel=>exact⟨j2+1,by go_num,hlt2,Lib.hid (by rw[flat_takeF ls j2 hjl];exact r1),Lib.hid (HW.out.trans r3)⟩
    case measure=>simp[intOf];omega
   have ej:j2=j:=by omega
   go_wp2_with fail;have hfin:=HR.out.at;have hfl:(ls.take j2).flatten=ls.flatten:=by rw[ej,HM.out,List.take_length]
   skip;exact bodyPost_ret (results_tmp Tryz.results123 _ _ _) rfl ⟨_,rfl,by rw[<-hfl];exact hfin,HW.out⟩
attribute [local go_sem] fieldV0 fieldV1 fieldV2 fieldV3
theorem kids2 {x:F} (h:rt x=true) (ho:x.op=10):∃ a b,x.kids=[a,b]:=by
 obtain⟨o,z,nm,ks⟩:=x;have hp:=rt_parts h;have ho':o=10:=ho;subst ho';obtain⟨a,b,e,-,-⟩:=fsr_two (by have:=hp.1;simpa [kidsOk] using this);exact⟨a,b,e⟩
theorem St.cl' {B k:Nat} {E:Nat->Prop} {L s:List F} {w:World} (h:St B k E L s w):∀ t ∈ s,∀ c ∈ t.kids,c ∈ s:=by
 obtain⟨km,v,us,M,h⟩:=h;exact h.cl
theorem NO.local_ {B k g kn n cap:Nat} {a:Value} {c:Array Value} {T:TypeId} {w:World} (hbk:w.heap[k]?=some (.cells #[a,.slice (some ⟨g,0,none⟩) n cap] 163 (0,0))) (hne:g≠kn) (hkn:w.heap[kn]?=some (.cells c T (0,0))) (hT:T≠163):NO B k w kn:=by
 rintro⟨-,⟨es,cl,e⟩ | ⟨c',T',e,hT' | ⟨-,h1,a',v',h2,h3⟩,-⟩⟩
 ·rw[hkn] at e;cases e
 ·rw[hkn] at e;injection e with e;injection e with _ e;exact hT (e.trans hT')
 rw[hbk] at h2;injection h2 with h2;injection h2 with h2;injection h2 with h2;injection h2 with _ h2;injection h2 with h2;subst h2;injection h3 with h3;exact hne h3
theorem lensS_p {B k:Nat} {E:Nat->Prop} {L s:List F} (w:World) (h:St B k E L s w) (hm:s.length+9<=900000) (i:Nat) (X:F) (hx:s[i]?=some X) (hg:∀ t ∈ lensF X,Gd t) :
  Calls Tryz.prog 74 #[.pointer (some ⟨k,0,none⟩),.int .i64 ((i:Nat):Int)] w (LenPost B k E L s (lensF X) 9 w):=by
 have HS:=Lib.hid h;have HM:=Lib.hid hm;have HX:=Lib.hid hx;have HG:=Lib.hid hg;have g1:=hg (leF (nF 0) (lenF X)) (by simp[lensF]);have G1:=Lib.hid g1;have G2:Hid (Gd (lenF X)):=Lib.hid (gd_kid g1 (by simp[leF,fo,F.kids]));clear h hm hx hg g1;go_enter Tryz.func74,Tryz.ntmps74;go_wp2_with fail;refine (numS_p w HS.out (by have:=HM.out;omega) 0 (by decide) (by decide)).mono ?_;rintro e y1 ⟨j1,s1,rfl,h1,h2,h3,h4⟩;have S1:=Lib.hid h1;have J1:=Lib.hid h3;have E1:Hid (Ext s s1 1):=Lib.hid ((Ext.refl s).trans h2 (by omega));have T1:Hid (Stp B k w y1):=Lib.hid (h4);clear h1 h2 h3 h4;go_wp2_with fail;refine (lengthS_p y1 S1.out (by have:=HM.out;have:=E1.out.len;omega) i X (E1.out.get HX.out) G2.out).mono ?_;rintro e y2 ⟨j2,s2,rfl,h1,h2,h3,h4⟩;have S2:=Lib.hid h1;replace J1:=Lib.hid (h2.get J1.out)
 have J2:=Lib.hid h3;have E2:Hid (Ext s s2 2):=Lib.hid (E1.out.trans h2 (by omega));have T2:Hid (Stp B k w y2):=Lib.hid (T1.out.trans h4);clear h1 h2 h3 h4;go_wp2_with fail;refine (leS_p y2 S2.out (by have:=HM.out;have:=E2.out.len;omega) j1 j2 (nF 0) (lenF X) J1.out J2.out G1.out).mono ?_;rintro e y3 ⟨j3,s3,rfl,h1,h2,h3,h4⟩;have S3:=Lib.hid h1;replace J1:=Lib.hid (h2.get J1.out);replace J2:=Lib.hid (h2.get J2.out);have J3:=Lib.hid h3;have E3:Hid (Ext s s3 3):=Lib.hid (E2.out.trans h2 (by omega));have T3:Hid (Stp B k w y3):=Lib.hid (T2.out.trans h4);clear h1 h2 h3 h4;have HXI:Hid (s3[i]?=some X):=Lib.hid (E3.out.get HX.out);obtain⟨z3,kq,eq,ekq,hbq,hkq,HBq⟩:=newV y3 #[.int .i64 ((j3:Nat):Int)] 116;have HS3:=Lib.hid (S3.out.below hbq.out);have HT3:=Lib.hid (T3.out.trans (Stp.of_below hbq.out))
 obtain⟨km,v,us,M,hU⟩:=HS3.out;obtain⟨g,cap,u,qo,ql,qc,q,⟨rfl,hil,hcap,hmx⟩,⟨c0,c1,c2,c3,c4,c5,c6⟩,⟨-,hop,-⟩,hids,-⟩:=hU.node HXI.out;have d1:=cell_at (v:=.slice (some ⟨g,0,none⟩) s3.length cap) hU.bk 1 rfl;have hmx':cap<=9223372036854775807:=hmx;have HIL:=Lib.hid hids;have HBK:=Lib.hid hU.bk;have HOP:=Lib.hid hop;clear hU hids hop;obtain⟨z4,kn,en,ekn,hbn,hkn,HBn⟩:=newV z3 #[.int .i64 u.k,.bool (decide (u.n.z<0)),.slice u.n.o u.n.l u.n.c,.string u.nm,.slice u.ko u.kl u.kc,.slice qo ql qc,.bool q] 167;have n0:=cell_at (v:=.int .i64 u.k) HBn.out 0 rfl;have n5:=cell_at (v:=.slice qo ql qc) HBn.out 5 rfl;obtain⟨op,hop⟩:∃ o,o=u.k:=⟨_,rfl⟩;by_cases h9:u.k=9
 ·have e9:(u.k==9)=true:=by rw[h9];rfl
  have hl:Hid (lensF X=[leF (nF 0) (lenF X),eqfF (lenF X) (nF 0)]):=Lib.hid (by unfold lensF;rw[<-HOP.out,if_pos h9]);have G3:Hid (Gd (eqfF (lenF X) (nF 0))):=Lib.hid (HG.out _ (by rw[hl.out];simp));have hs4:=HS3.out.below hbn.out;have HS4:=Lib.hid hs4;have HT4:Hid (Stp B k w z4):=Lib.hid (HT3.out.trans (Stp.of_below hbn.out));have hb4:=(hbn.out.block kq (lt_of_block HBq.out)).trans HBq.out;have hqz:w.heap.size<=kq:=by have h1:=T3.out.size;have h2:=hkq.out;omega
  have HR:Hid (idR.Row z4 w.heap.size (.slice (some ⟨kq,0,none⟩) 1 1) [j3]):=Lib.hid (idR_block (l:=[j3]) hb4 hqz (by show 1<=maxLen;decide));have HWZ:Hid (w.heap.size<=z4.heap.size):=Lib.hid HT4.out.size;clear h9 hop hs4 hb4 hqz;go_wp2_with fail;refine (lengthS_p z4 HS4.out (by have:=HM.out;have:=E3.out.len;omega) i X HXI.out G2.out).mono ?_;rintro e y5 ⟨j5,s5,rfl,h1,h2,h3,h4⟩;have S5:=Lib.hid h1;replace J3:=Lib.hid (h2.get J3.out);have J5:=Lib.hid h3;have E5:Hid (Ext s s5 4):=Lib.hid (E3.out.trans h2 (by omega));have T5:Hid (Stp B k w y5):=Lib.hid (HT4.out.trans h4);replace HR:=Lib.hid (idR_stp HR.out h4);clear h1 h2 h3 h4 c0 c1 c2 c3 c4 c5 c6 d1 n0 n5;go_wp2_with fail;refine (numS_p y5 S5.out (by have:=HM.out;have:=E5.out.len;omega) 0 (by decide) (by decide)).mono ?_
  rintro e y6 ⟨j6,s6,rfl,h1,h2,h3,h4⟩;have S6:=Lib.hid h1;replace J3:=Lib.hid (h2.get J3.out);replace J5:=Lib.hid (h2.get J5.out);have J6:=Lib.hid h3;have E6:Hid (Ext s s6 5):=Lib.hid (E5.out.trans h2 (by omega));have T6:Hid (Stp B k w y6):=Lib.hid (T5.out.trans h4);replace HR:=Lib.hid (idR_stp HR.out h4);clear h1 h2 h3 h4;go_wp2_with fail;refine (sameS_p y6 S6.out (by have:=HM.out;have:=E6.out.len;omega) j5 j6 _ _ J5.out J6.out G3.out).mono ?_;rintro e y7 ⟨j7,s7,rfl,h1,h2,h3,h4⟩;have S7:=Lib.hid h1;replace J3:=Lib.hid (h2.get J3.out);have J7:=Lib.hid h3;have E7:Hid (Ext s s7 6):=Lib.hid (E6.out.trans h2 (by omega));have T7:Hid (Stp B k w y7):=Lib.hid (T6.out.trans h4);replace HR:=Lib.hid (idR_stp HR.out h4);clear h1 h2 h3 h4;obtain⟨z7,kr,er,ekr,hbr,hkr,HBr⟩:=newV y7 #[.int .i64 ((j7:Nat):Int)] 116
  replace HR:=Lib.hid (El.Row.below HR.out hbr.out);have HAT:Hid (idR.At z7 (.slice (some ⟨kr,0,none⟩) 1 1) [j7]):=Lib.hid (idR_at (l:=[j7]) HBr.out (by show 1<=maxLen;decide));have HSZ:Hid (w.heap.size<=z7.heap.size):=Lib.hid (Nat.le_trans T7.out.size hbr.out.size);go_wp2_with (first | (at_builtin;refine El.Row.appendFull (E:=idR) HR.out rfl (.tmp 27) (.tmp 35) rfl rfl rfl HAT.out (by show 0<1;decide) (by show 1+1<=1000000;decide) HSZ.out ?_;intro v9 w9 r1 r3 r2;have R1:=Lib.hid r1;have R2:=Lib.hid r2;have R3:=Lib.hid r3;clear r1 r2 r3) | fail);go_ret
  exact⟨_,[j3,j7],s7,rfl,R1.out,by rw[hl.out];simp only[List.map_cons,List.map_nil,J3.out,J7.out],(S7.out.below hbr.out).own R2.out R3.out (Nat.le_refl _) (R1.out.ge R3.out).2,E7.out.up (by omega),(T7.out.trans (.of_below hbr.out)).trans (.of_below R2.out)⟩
 by_cases h10:u.k=10
 ·have e9:(u.k==9)=false:=beq_eq_false_iff_ne.2 h9;have e10:(u.k==10)=true:=by rw[h10];rfl
  obtain⟨x0,x1,hk2⟩:=kids2 (HS3.out.good X (List.mem_of_getElem? HXI.out)).1 (by rw[<-HOP.out,h10]);have hk1:kd X 1=x1:=by unfold kd;rw[hk2];rfl
  have hl:Hid (lensF X=[leF (nF 0) (lenF X),eqfF (lenF X) (addF (lenF x1) (nF 1))]):=Lib.hid (by unfold lensF;rw[<-HOP.out,if_neg h9,if_pos h10,hk1]);have hIL:=HIL.out;rw[hk2] at hIL;obtain⟨ko',kc',e,⟨hq1,hq2,hq3⟩,hc⟩:=hIL;injection e with e1 e2 e3;replace e2:ql=2:=e2;subst e1;subst e2;subst e3;obtain⟨qa,rfl,hqn,hqc⟩:=hc 1 (by simp);replace hqc:z3.cell? (qa.add 1)=some (.int .i64 ((idx s3 x1:Nat):Int)):=hqc;replace hq1:2<=qc:=hq1;have HQN:=Lib.hid hqn;have HQC:=Lib.hid hqc;have hq2':qc<=9223372036854775807:=hq2;have HX1:Hid (s3[idx s3 x1]?=some x1):=Lib.hid (idx_get (HS3.out.cl' X (List.mem_of_getElem? HXI.out) x1 (by rw[hk2];simp)));have G4:Hid (Gd (eqfF (lenF X) (addF (lenF x1) (nF 1)))):=Lib.hid (HG.out _ (by rw[hl.out];simp))
  have G5:Hid (Gd (addF (lenF x1) (nF 1))):=Lib.hid (gd_kid G4.out (by simp[eqfF,fo,F.kids]));have G6:Hid (Gd (lenF x1)):=Lib.hid (gd_kid G5.out (by simp[addF,fo,F.kids]));have hs4:=HS3.out.below hbn.out;have HS4:=Lib.hid hs4;have HT4:Hid (Stp B k w z4):=Lib.hid (HT3.out.trans (Stp.of_below hbn.out));have hb4:=(hbn.out.block kq (lt_of_block HBq.out)).trans HBq.out;have hqz:w.heap.size<=kq:=by have h1:=T3.out.size;have h2:=hkq.out;omega
  have HR:Hid (idR.Row z4 w.heap.size (.slice (some ⟨kq,0,none⟩) 1 1) [j3]):=Lib.hid (idR_block (l:=[j3]) hb4 hqz (by show 1<=maxLen;decide));have HM3:Hid (s3.length+5<=900000):=Lib.hid (by have:=HM.out;have:=E3.out.len;omega);have hgn:g≠kn:=by have h1:=World.block_lt_of_cell? _ _ c0;have h2:=ekn;intro h3;change g<_ at h1;omega
  have HNO:Hid (NO B k z4 kn):=Lib.hid (NO.local_ ((hbn.out.block k (lt_of_block HBK.out)).trans HBK.out) hgn HBn.out (by decide));have HZ34:=Lib.hid (Stp.of_below (B:=B) (k:=k) hbn.out);clear hk1 hc hq2 hq3 hqn hqc h9 h10 hop hs4 hb4 hqz hgn HIL;go_upto_region 7 with fail;have HNE:Hid (∀ i j,i<15->j<15->i≠j->(fun i=>i+39) i≠(fun i=>i+39) j):=Lib.hid (fun i j _ _ h e=>h (Nat.add_right_cancel e));have HL9:Hid (∀ i,i<15->(fun i=>i+39) i<54):=Lib.hid (fun i h=>by show i+39<54;omega)
  refine Rel9.region (by kernel_rfl) [[],[],[],[],[2,3],[],[],[],[7],[7,8],[7,8,9],[2,3,4,6,7,8,9,10],[2,3,4,5,6,7,8,9,10,11],[1,2,3,4,5,6,7,8,9,10,11,12],[1,2,3,4,5,6,7,8,9,10,11,12,13],[0,1,2,3,4,5,6,7,8,9,10,11,12,13,14],[0,1,2,3,4,5,6,7,8,9,10,11,12,13,14,15]] 15 (by kernel_rfl) (by kernel_rfl) (JX B k E L z4 s3 _ 15 (fun i=>i+39) (fun i=>[0,0,0,0,1,0,0,0,0,0,0,1,2,1,0].getD i 0) (fdF B k E [.eqv (.slice (some ⟨kq,0,none⟩) 1 1),.eqv (.pointer (some ⟨k,0,none⟩)),.eqv (.pointer (some ⟨k,0,none⟩)),.eqv (.int .i64 ((i:Nat):Int)),.idf (lenF X),.eqv (.pointer (some ⟨k,0,none⟩)),.eqv (.pointer (some ⟨k,0,none⟩)),.eqv (.pointer (some ⟨kn,5,none⟩)),.eqv (.slice (some qa) 2 qc),.eqv (.pointer (some (qa.add 1))),.eqv (.int .i64 ((idx s3 x1:Nat):Int)),.idf (lenF x1),.idf (addF (lenF x1) (nF 1)),.idf (eqfF (lenF X) (addF (lenF x1) (nF 1))),.blk (eqfF (lenF X) (addF (lenF x1) (nF 1)))])) (JF.start HS4.out) ?_ ?_
  ·rintro d T wc n9 o ⟨s9,hJ⟩ ho hi hd hdep hcl;have hstep:=fun (v:Value) (s8:List F) (w2:World)=>hJ.step (v:=v) (s':=s8) (w':=w2) (fdF_st (B:=B) (k:=k) (E:=E) _) HNE.out (fun i hi=>Nat.lt_of_lt_of_le (HL9.out i hi) (of_decide_eq_true rfl)) n9 hi hd
   have HST9:=Lib.hid hJ.st;have HROOM:=Lib.hid (hJ.room n9 hi hd (N:=900000) (show s3.length+5<=900000 from by have:=HM3.out;omega));have m5:T[5]?=some (.slice (some ⟨kq,0,none⟩) 1 1):=(hJ.oth 5 (by decide)).trans (by rfl);have m0:T[0]?=some (.pointer (some ⟨k,0,none⟩)):=(hJ.oth 0 (by decide)).trans (by rfl);have m1:T[1]?=some (.int .i64 ((i:Nat):Int)):=(hJ.oth 1 (by decide)).trans (by rfl);obtain rfl | rfl | rfl | rfl | rfl | rfl | rfl | rfl | rfl | rfl | rfl | rfl | rfl | rfl | rfl:n9=0\/n9=1\/n9=2\/n9=3\/n9=4\/n9=5\/n9=6\/n9=7\/n9=8\/n9=9\/n9=10\/n9=11\/n9=12\/n9=13\/n9=14:=by omega
   all_goals (injection ho with ho)
   all_goals (subst ho)
   all_goals (try (clear hJ hdep hcl;refine⟨rfl,fun K9 hK=>?_⟩;have HST:=Lib.hid hstep;clear hstep;go_simp;exact hK.out _ _ (HST.out _ _ _ HST9.out ((Ext.refl _).up (Nat.zero_le _)) (Stp.refl _ _ _) rfl)))
   ·have e41:=hJ.vE 2 41 rfl (by decide) (hdep 2 (by rfl)) (fun _ h=>h);have e42:=hJ.vE 3 42 rfl (by decide) (hdep 3 (by rfl)) (fun _ h=>h);have HEXT:=Lib.hid hJ.ext;clear hJ hdep hcl;refine⟨rfl,fun K9 hK=>?_⟩;have HST:=Lib.hid hstep;clear hstep;go_simp;refine (lengthS_p wc HST9.out HROOM.out i X (HEXT.out.get HXI.out) G2.out).mono ?_;rintro e w8 ⟨i8,s8,rfl,p1,p2,p3,p4⟩;exact hK.out _ _ (HST.out _ _ _ p1 p2 p4 ⟨i8,rfl,p3⟩)
   ·have es:T[6]?=some (.pointer (some ⟨kn,0,none⟩)):=(hJ.oth 6 (by decide)).trans (by rfl);clear hJ hdep hcl;refine⟨rfl,fun K9 hK=>?_⟩;have HST:=Lib.hid hstep;clear hstep;go_simp;exact hK.out _ _ (HST.out _ _ _ HST9.out ((Ext.refl _).up (Nat.zero_le _)) (Stp.refl _ _ _) rfl)
   ·have e46:=hJ.vE 7 46 rfl (by decide) (hdep 7 (by rfl)) (fun _ h=>h);have HBE:=Lib.hid hJ.be;have n5:=cell_at (v:=.slice (some qa) 2 qc) ((HBE.out.block kn (lt_of_block HBn.out) HNO.out).trans HBn.out) 5 rfl;clear hJ hdep hcl;refine⟨rfl,fun K9 hK=>?_⟩;have HST:=Lib.hid hstep;clear hstep;go_simp;exact hK.out _ _ (HST.out _ _ _ HST9.out ((Ext.refl _).up (Nat.zero_le _)) (Stp.refl _ _ _) rfl)
   ·have e47:=hJ.vE 8 47 rfl (by decide) (hdep 8 (by rfl)) (fun _ h=>h);clear hJ hdep hcl;refine⟨rfl,fun K9 hK=>?_⟩;have HST:=Lib.hid hstep;clear hstep;go_simp;exact hK.out _ _ (HST.out _ _ _ HST9.out ((Ext.refl _).up (Nat.zero_le _)) (Stp.refl _ _ _) rfl)
   ·have e48:=hJ.vE 9 48 rfl (by decide) (hdep 9 (by rfl)) (fun _ h=>h);have HBE:=Lib.hid hJ.be;have cq:wc.cell? (qa.add 1)=some (.int .i64 ((idx s3 x1:Nat):Int)):=by rw[cell_keepF (w:=z3) (by rw[add_blockV];exact (HZ34.out.trans HBE.out).block _ (by have h1:=World.block_lt_of_cell? _ _ HQC.out;rw[add_blockV] at h1;exact h1) HQN.out.1.1)];exact HQC.out
    replace cq:wc.cell? { block:=qa.block,off:=qa.off+1 }=some (.int .i64 ((idx s3 x1:Nat):Int)):=cq;clear hJ hdep hcl;refine⟨rfl,fun K9 hK=>?_⟩;have HST:=Lib.hid hstep;clear hstep;go_simp;exact hK.out _ _ (HST.out _ _ _ HST9.out ((Ext.refl _).up (Nat.zero_le _)) (Stp.refl _ _ _) rfl)
   ·have e45:=hJ.vE 6 45 rfl (by decide) (hdep 6 (by rfl)) (fun _ h=>h);have e49:=hJ.vE 10 49 rfl (by decide) (hdep 10 (by rfl)) (fun _ h=>h);have HEXT:=Lib.hid hJ.ext;clear hJ hdep hcl;refine⟨rfl,fun K9 hK=>?_⟩;have HST:=Lib.hid hstep;clear hstep;go_simp;refine (lengthS_p wc HST9.out HROOM.out (idx s3 x1) x1 (HEXT.out.get HX1.out) G6.out).mono ?_;rintro e w8 ⟨i8,s8,rfl,p1,p2,p3,p4⟩;exact hK.out _ _ (HST.out _ _ _ p1 p2 p4 ⟨i8,rfl,p3⟩)
   ·have e44:=hJ.vE 5 44 rfl (by decide) (hdep 5 (by rfl)) (fun _ h=>h);obtain⟨i11,e50,H11⟩:=hJ.vI 11 50 rfl (by decide) (hdep 11 (by rfl)) (fun _ h=>h);clear hJ hdep hcl;refine⟨rfl,fun K9 hK=>?_⟩;have HST:=Lib.hid hstep;clear hstep;go_simp;refine (nextS_p wc HST9.out HROOM.out i11 _ H11.out G5.out).mono ?_;rintro e w8 ⟨i8,s8,rfl,p1,p2,p3,p4⟩;exact hK.out _ _ (HST.out _ _ _ p1 p2 p4 ⟨i8,rfl,p3⟩)
   ·have e40:=hJ.vE 1 40 rfl (by decide) (hdep 1 (by rfl)) (fun _ h=>h);obtain⟨i4,e43,H4⟩:=hJ.vI 4 43 rfl (by decide) (hdep 4 (by rfl)) (fun _ h=>h);obtain⟨i12,e51,H12⟩:=hJ.vI 12 51 rfl (by decide) (hdep 12 (by rfl)) (fun _ h=>h);clear hJ hdep hcl;refine⟨rfl,fun K9 hK=>?_⟩;have HST:=Lib.hid hstep;clear hstep;go_simp;refine (sameS_p wc HST9.out HROOM.out i4 i12 _ _ H4.out H12.out G4.out).mono ?_;rintro e w8 ⟨i8,s8,rfl,p1,p2,p3,p4⟩;exact hK.out _ _ (HST.out _ _ _ p1 p2 p4 ⟨i8,rfl,p3⟩)
   obtain⟨i13,e52,H13⟩:=hJ.vI 13 52 rfl (by decide) (hdep 13 (by rfl)) (fun _ h=>h);clear hJ hdep hcl;refine⟨rfl,fun K9 hK=>?_⟩;have HST:=Lib.hid hstep;clear hstep;go_simp;have hal:Below wc.heap.size wc (wc.alloc _):=(Below.refl _ _).alloc (Nat.le_refl _) (.cells #[.int .i64 ((i13:Nat):Int)] 116);exact hK.out _ _ (HST.out _ _ _ (HST9.out.below hal) ((Ext.refl _).up (Nat.zero_le _)) (.of_below hal) ⟨_,i13,rfl,heap_alloc_new wc _,H13.out⟩)
  rintro T wt ⟨s9,hJ⟩;have a0:=hJ.vE 0 39 rfl (by decide) rfl (fun _ h=>h);have a1:=hJ.vE 1 40 rfl (by decide) rfl (fun _ h=>h);have a2:=hJ.vE 2 41 rfl (by decide) rfl (fun _ h=>h);have a3:=hJ.vE 3 42 rfl (by decide) rfl (fun _ h=>h);obtain⟨i4,a4,H4⟩:=hJ.vI 4 43 rfl (by decide) rfl (fun _ h=>h);have a5:=hJ.vE 5 44 rfl (by decide) rfl (fun _ h=>h);have a6:=hJ.vE 6 45 rfl (by decide) rfl (fun _ h=>h);have a7:=hJ.vE 7 46 rfl (by decide) rfl (fun _ h=>h);have a8:=hJ.vE 8 47 rfl (by decide) rfl (fun _ h=>h);have a9:=hJ.vE 9 48 rfl (by decide) rfl (fun _ h=>h);have a10:=hJ.vE 10 49 rfl (by decide) rfl (fun _ h=>h);obtain⟨i11,a11,H11⟩:=hJ.vI 11 50 rfl (by decide) rfl (fun _ h=>h);obtain⟨i12,a12,H12⟩:=hJ.vI 12 51 rfl (by decide) rfl (fun _ h=>h)
  obtain⟨i13,a13,H13⟩:=hJ.vI 13 52 rfl (by decide) rfl (fun _ h=>h);obtain⟨v14,a14,f14⟩:=hJ.val 14 (by decide) rfl;obtain⟨g14,i14,rfl,b14,h14⟩:=(show BlkF v14 (eqfF (lenF X) (addF (lenF x1) (nF 1))) s9 wt from f14);have A14:=Lib.hid b14;have H14:=Lib.hid h14;clear f14 b14 h14;have hfr:=hJ.fin (fun i hi=>Nat.lt_of_lt_of_le (HL9.out i hi) (of_decide_eq_true rfl)) rfl (.cons a0 (.cons a1 (.cons a2 (.cons a3 (.cons a4 (.cons a5 (.cons a6 (.cons a7 (.cons a8 (.cons a9 (.cons a10 (.cons a11 (.cons a12 (.cons a13 (.cons a14 .nil)))))))))))))));have HST9:=Lib.hid hJ.st;have HEX9:Hid (Ext s3 s9 5):=Lib.hid hJ.ext;have HBE9:=Lib.hid hJ.be;clear hJ HNE HL9 a0 a1 a2 a3 a4 a5 a6 a7 a8 a9 a10 a11 a12 a13 a14;rw[hfr];clear hfr
  simp only[fillW,Nat.reduceAdd,List.setIfInBounds_toArray,List.set_cons_zero,List.set_cons_succ];simp only[List.drop_succ_cons,List.drop_zero];replace HR:=Lib.hid (idR_stp HR.out HBE9.out);have HAT:Hid (idR.At wt (.slice (some ⟨g14,0,none⟩) 1 1) [i14]):=Lib.hid (idR_at (l:=[i14]) A14.out (by show 1<=maxLen;decide));have HSZ:Hid (w.heap.size<=wt.heap.size):=Lib.hid (Nat.le_trans HT4.out.size HBE9.out.size);replace J3:=Lib.hid (HEX9.out.get J3.out);go_wp2_with (first | (at_builtin;refine El.Row.appendFull (E:=idR) HR.out rfl (.tmp 39) (.tmp 53) rfl rfl rfl HAT.out (by show 0<1;decide) (by show 1+1<=1000000;decide) HSZ.out ?_;intro v9 w9 r1 r3 r2;have R1:=Lib.hid r1;have R2:=Lib.hid r2;have R3:=Lib.hid r3;clear r1 r2 r3) | fail);go_ret
  exact⟨_,[j3,i14],s9,rfl,R1.out,by rw[hl.out];simp only[List.map_cons,List.map_nil,J3.out,H14.out],HST9.out.own R2.out R3.out (Nat.le_refl _) (R1.out.ge R3.out).2,E3.out.trans HEX9.out (by omega),(HT4.out.trans HBE9.out).trans (.of_below R2.out)⟩
 have e9:(u.k==9)=false:=beq_eq_false_iff_ne.2 h9;have e10:(u.k==10)=false:=beq_eq_false_iff_ne.2 h10;have hl:Hid (lensF X=[leF (nF 0) (lenF X)]):=Lib.hid (by unfold lensF;rw[<-HOP.out,if_neg h9,if_neg h10]);clear h9 h10 hop;go_wp2_with fail;go_ret;refine⟨_,[j3],s3,rfl,idR_block (l:=[j3]) ?_ ?_ (by show 1<=maxLen;decide),by rw[hl.out];simp only[List.map_cons,List.map_nil,J3.out],(S3.out.own (hbq.out.trans (hbn.out.mono hbq.out.size)) rfl hkq.out (Nat.lt_of_lt_of_le (lt_of_block HBq.out) hbn.out.size)),E3.out.up (by omega),HT3.out.trans (Stp.of_below hbn.out)⟩
 ·exact (hbn.out.block kq (lt_of_block HBq.out)).trans HBq.out
 have h1:=T3.out.size;have h2:=hkq.out;omega
theorem St.bases {B k:Nat} {E:Nat->Prop} {L s:List F} {w:World} (h:St B k E L s w):B<=w.heap.size/\k<w.heap.size:=by
 obtain⟨km,v,us,M,h⟩:=h;exact⟨h.sz,lt_of_block h.bk⟩
theorem St.app {B k B0:Nat} {E:Nat->Prop} {L s:List F} {w w':World} {v:Value} {l:List Nat} (h:St B k (fun g=>E g\/v.ownBlock=some g) L s w) (hR:idR.Row w B0 v l) (hB:B<=B0) (hg:w.grownBy w' v.ownBlock):St B k E L s w':=by
 have hs:=h;obtain⟨km,v0,us,M,hU⟩:=hs;refine h.turn hg (fun g hr=>?_) (fun g hg=>.inl (.inl hg)) (fun g he=>Nat.lt_of_lt_of_le (hU.ex g (.inl he)) hg.size);obtain⟨c,hc,h32⟩:=hR.n32 g hr;exact⟨.inr hr,Nat.le_trans hB (hR.ge hr).1,c,hc,h32⟩
theorem Stp.app {B k:Nat} {w0 w w':World} {r:Option Nat} (h:Stp B k w0 w) (hg:w.grownBy w' r) (hr:∀ g,r=some g->w0.heap.size<=g) (hk:k<w0.heap.size):Stp B k w0 w':=by
 have ne:∀ g,g<w0.heap.size->some g≠r:=fun g hl e=>by have:=hr g e.symm;omega
 refine⟨hg.os.trans h.os,hg.tape.trans h.tape,hg.output.trans h.output,Nat.le_trans h.size hg.size,fun g hl hn=>(hg.block g (Nat.lt_of_lt_of_le hl h.size) (ne g hl)).trans (h.block g hl hn),fun g hl ho=>?_⟩;refine h.row g hl ?_;obtain⟨a1,a,v,a2,a3⟩:=ho;exact⟨a1,a,v,by rw[<-hg.block k (Nat.lt_of_lt_of_le hk h.size) (ne k hk)];exact a2,a3⟩
def FacPost (B k:Nat) (E:Nat->Prop) (L s:List F) (ts:List F) (n:Nat) (w:World) (e:Ending) (w':World):Prop:=∃ v ids s',e=.returned v/\idR.At w' v ids/\ids.map (fun i=>s'[i]?)=ts.map some/\St B k E L s' w'/\Ext s s' n/\Stp B k w w'
theorem LstPost.fac {B k:Nat} {E:Nat->Prop} {L s:List F} {ts:List F} {n:Nat} {w:World} {e:Ending} {w':World} (h:LstPost B k E L s ts n w e w'):FacPost B k E L s ts n w e w':=by
 obtain⟨v,s',h1,⟨ids,h2,h3⟩,h4,h5,h6⟩:=h;exact⟨v,ids,s',h1,h2.atF,h3,h4,h5,h6⟩
attribute [local go_sem] fieldV0 fieldV1 fieldV2 fieldV3
theorem high_p {B k:Nat} {E:Nat->Prop} {L s:List F} (w:World) (h:St B k E L s w) (hm:s.length+2<=900000) (i:Nat) (U:F) (hi:s[i]?=some U) (hg:Gd (leF (nF 0) U)) (ka:Nat) (ha:w.heap[ka]?=some (.cells #[.pointer (some ⟨k,0,none⟩)] 112 (0,0))) :
  Calls Tryz.prog 170 #[.int .i64 ((i:Nat):Int),.pointer (some ⟨ka,0,none⟩)] w (PutPost B k E L s (leF (nF 0) U) 2 w):=by
 have HS:=Lib.hid h;have HM:=Lib.hid hm;have HG:=Lib.hid hg;have HBa:=Lib.hid ha;have HIi:=Lib.hid hi;clear h hm hg ha hi;go_enter Tryz.func170,Tryz.ntmps170;go_upto_region 1 with fail;have HNE:Hid (∀ i j,i<5->j<5->i≠j->(fun i=>i+4) i≠(fun i=>i+4) j):=Lib.hid (fun i j _ _ h e=>h (Nat.add_right_cancel e));have HL9:Hid (∀ i,i<5->(fun i=>i+4) i<9):=Lib.hid (fun i h=>by show i+4<9;omega);refine Rel9.region (by kernel_rfl) [[],[],[1],[],[0,1,2,3],[0,1,2,3,4]] 5 (by kernel_rfl) (by kernel_rfl) (JX B k E L w s _ 5 (fun i=>i+4) (fun i=>[0,0,1,0,1].getD i 0) (fdF B k E [.eqv (.pointer (some ⟨k,0,none⟩)),.eqv (.pointer (some ⟨k,0,none⟩)),.idf (nF 0),.eqv (.int .i64 ((i:Nat):Int)),.idf (leF (nF 0) U)])) (JF.start HS.out) ?_ ?_
 ·rintro d T wc n9 o ⟨s9,hJ⟩ ho hi hd hdep hcl;have hstep:=fun (v:Value) (s8:List F) (w2:World)=>hJ.step (v:=v) (s':=s8) (w':=w2) (fdF_st (B:=B) (k:=k) (E:=E) _) HNE.out (fun i hi=>Nat.lt_of_lt_of_le (HL9.out i hi) (of_decide_eq_true rfl)) n9 hi hd
  have HST9:=Lib.hid hJ.st;have HROOM:=Lib.hid (hJ.room n9 hi hd (N:=900000) (show s.length+2<=900000 from by have:=HM.out;omega));have m1:T[1]?=some (.pointer (some ⟨ka,0,none⟩)):=(hJ.oth 1 (by decide)).trans (by rfl);have hBq:=(hJ.be.block ka (lt_of_block HBa.out) (NO.cells HBa.out (by decide))).trans HBa.out;have qa0:=cell_at (v:=.pointer (some ⟨k,0,none⟩)) hBq 0 rfl;clear hBq;have m0:T[0]?=some (.int .i64 ((i:Nat):Int)):=(hJ.oth 0 (by decide)).trans (by rfl);obtain rfl | rfl | rfl | rfl | rfl:n9=0\/n9=1\/n9=2\/n9=3\/n9=4:=by omega
  all_goals (injection ho with ho)
  all_goals (subst ho)
  all_goals (try (clear hJ hdep hcl;refine⟨rfl,fun K9 hK=>?_⟩;have HST:=Lib.hid hstep;clear hstep;go_simp;exact hK.out _ _ (HST.out _ _ _ HST9.out ((Ext.refl _).up (Nat.zero_le _)) (Stp.refl _ _ _) rfl)))
  ·have e5:=hJ.vE 1 5 rfl (by decide) (hdep 1 (by rfl)) (fun _ h=>h);clear hJ hdep hcl;refine⟨rfl,fun K9 hK=>?_⟩;have HST:=Lib.hid hstep;clear hstep;go_simp;refine (numS_p wc HST9.out HROOM.out 0 (by decide) (by decide)).mono ?_;rintro e w8 ⟨i8,s8,rfl,p1,p2,p3,p4⟩;exact hK.out _ _ (HST.out _ _ _ p1 p2 p4 ⟨i8,rfl,p3⟩)
  have e4:=hJ.vE 0 4 rfl (by decide) (hdep 0 (by rfl)) (fun _ h=>h);obtain⟨i2,e6,H2⟩:=hJ.vI 2 6 rfl (by decide) (hdep 2 (by rfl)) (fun _ h=>h);have e7:=hJ.vE 3 7 rfl (by decide) (hdep 3 (by rfl)) (fun _ h=>h);have HEXT:=Lib.hid hJ.ext;clear hJ hdep hcl;refine⟨rfl,fun K9 hK=>?_⟩;have HST:=Lib.hid hstep;clear hstep;go_simp;refine (leS_p wc HST9.out HROOM.out i2 i _ _ H2.out (HEXT.out.get HIi.out) HG.out).mono ?_;rintro e w8 ⟨i8,s8,rfl,p1,p2,p3,p4⟩;exact hK.out _ _ (HST.out _ _ _ p1 p2 p4 ⟨i8,rfl,p3⟩)
 rintro T wt ⟨s9,hJ⟩;have a0:=hJ.vE 0 4 rfl (by decide) rfl (fun _ h=>h);have a1:=hJ.vE 1 5 rfl (by decide) rfl (fun _ h=>h);obtain⟨i2,a2,H2⟩:=hJ.vI 2 6 rfl (by decide) rfl (fun _ h=>h);have a3:=hJ.vE 3 7 rfl (by decide) rfl (fun _ h=>h);obtain⟨i4,a4,H4⟩:=hJ.vI 4 8 rfl (by decide) rfl (fun _ h=>h);have hfr:=hJ.fin (fun i hi=>Nat.lt_of_lt_of_le (HL9.out i hi) (of_decide_eq_true rfl)) rfl (.cons a0 (.cons a1 (.cons a2 (.cons a3 (.cons a4 .nil)))));have HST9:=Lib.hid hJ.st;have HEX9:Hid (Ext s s9 2):=Lib.hid hJ.ext;have HBE9:=Lib.hid hJ.be;clear hJ HNE HL9 a0 a1 a2 a3 a4;rw[hfr];clear hfr;simp only[fillW,Nat.reduceAdd,List.setIfInBounds_toArray,List.set_cons_zero,List.set_cons_succ];simp only[List.drop_succ_cons,List.drop_zero];go_wp2_with fail;go_ret
 exact⟨i4,s9,rfl,HST9.out,HEX9.out,H4.out,HBE9.out⟩
theorem low_p {B k:Nat} {E:Nat->Prop} {L s:List F} (w:World) (h:St B k E L s w) (hm:s.length+2<=900000) (i:Nat) (U:F) (hi:s[i]?=some U) (hg:Gd (leF U (nF 0))) (ka:Nat) (ha:w.heap[ka]?=some (.cells #[.pointer (some ⟨k,0,none⟩)] 112 (0,0))) :
  Calls Tryz.prog 171 #[.int .i64 ((i:Nat):Int),.pointer (some ⟨ka,0,none⟩)] w (PutPost B k E L s (leF U (nF 0)) 2 w):=by
 have HS:=Lib.hid h;have HM:=Lib.hid hm;have HG:=Lib.hid hg;have HBa:=Lib.hid ha;have HIi:=Lib.hid hi;clear h hm hg ha hi;go_enter Tryz.func171,Tryz.ntmps171;go_upto_region 1 with fail;have HNE:Hid (∀ i j,i<5->j<5->i≠j->(fun i=>i+4) i≠(fun i=>i+4) j):=Lib.hid (fun i j _ _ h e=>h (Nat.add_right_cancel e));have HL9:Hid (∀ i,i<5->(fun i=>i+4) i<9):=Lib.hid (fun i h=>by show i+4<9;omega);refine Rel9.region (by kernel_rfl) [[],[],[],[2],[0,1,2,3],[0,1,2,3,4]] 5 (by kernel_rfl) (by kernel_rfl) (JX B k E L w s _ 5 (fun i=>i+4) (fun i=>[0,0,0,1,1].getD i 0) (fdF B k E [.eqv (.pointer (some ⟨k,0,none⟩)),.eqv (.int .i64 ((i:Nat):Int)),.eqv (.pointer (some ⟨k,0,none⟩)),.idf (nF 0),.idf (leF U (nF 0))])) (JF.start HS.out) ?_ ?_
 ·rintro d T wc n9 o ⟨s9,hJ⟩ ho hi hd hdep hcl;have hstep:=fun (v:Value) (s8:List F) (w2:World)=>hJ.step (v:=v) (s':=s8) (w':=w2) (fdF_st (B:=B) (k:=k) (E:=E) _) HNE.out (fun i hi=>Nat.lt_of_lt_of_le (HL9.out i hi) (of_decide_eq_true rfl)) n9 hi hd
  have HST9:=Lib.hid hJ.st;have HROOM:=Lib.hid (hJ.room n9 hi hd (N:=900000) (show s.length+2<=900000 from by have:=HM.out;omega));have m1:T[1]?=some (.pointer (some ⟨ka,0,none⟩)):=(hJ.oth 1 (by decide)).trans (by rfl);have hBq:=(hJ.be.block ka (lt_of_block HBa.out) (NO.cells HBa.out (by decide))).trans HBa.out;have qa0:=cell_at (v:=.pointer (some ⟨k,0,none⟩)) hBq 0 rfl;clear hBq;have m0:T[0]?=some (.int .i64 ((i:Nat):Int)):=(hJ.oth 0 (by decide)).trans (by rfl);obtain rfl | rfl | rfl | rfl | rfl:n9=0\/n9=1\/n9=2\/n9=3\/n9=4:=by omega
  all_goals (injection ho with ho)
  all_goals (subst ho)
  all_goals (try (clear hJ hdep hcl;refine⟨rfl,fun K9 hK=>?_⟩;have HST:=Lib.hid hstep;clear hstep;go_simp;exact hK.out _ _ (HST.out _ _ _ HST9.out ((Ext.refl _).up (Nat.zero_le _)) (Stp.refl _ _ _) rfl)))
  ·have e6:=hJ.vE 2 6 rfl (by decide) (hdep 2 (by rfl)) (fun _ h=>h);clear hJ hdep hcl;refine⟨rfl,fun K9 hK=>?_⟩;have HST:=Lib.hid hstep;clear hstep;go_simp;refine (numS_p wc HST9.out HROOM.out 0 (by decide) (by decide)).mono ?_;rintro e w8 ⟨i8,s8,rfl,p1,p2,p3,p4⟩;exact hK.out _ _ (HST.out _ _ _ p1 p2 p4 ⟨i8,rfl,p3⟩)
  have e4:=hJ.vE 0 4 rfl (by decide) (hdep 0 (by rfl)) (fun _ h=>h);have e5:=hJ.vE 1 5 rfl (by decide) (hdep 1 (by rfl)) (fun _ h=>h);obtain⟨i3,e7,H3⟩:=hJ.vI 3 7 rfl (by decide) (hdep 3 (by rfl)) (fun _ h=>h);have HEXT:=Lib.hid hJ.ext;clear hJ hdep hcl;refine⟨rfl,fun K9 hK=>?_⟩;have HST:=Lib.hid hstep;clear hstep;go_simp;refine (leS_p wc HST9.out HROOM.out i i3 _ _ (HEXT.out.get HIi.out) H3.out HG.out).mono ?_;rintro e w8 ⟨i8,s8,rfl,p1,p2,p3,p4⟩;exact hK.out _ _ (HST.out _ _ _ p1 p2 p4 ⟨i8,rfl,p3⟩)
 rintro T wt ⟨s9,hJ⟩;have a0:=hJ.vE 0 4 rfl (by decide) rfl (fun _ h=>h);have a1:=hJ.vE 1 5 rfl (by decide) rfl (fun _ h=>h);have a2:=hJ.vE 2 6 rfl (by decide) rfl (fun _ h=>h);obtain⟨i3,a3,H3⟩:=hJ.vI 3 7 rfl (by decide) rfl (fun _ h=>h);obtain⟨i4,a4,H4⟩:=hJ.vI 4 8 rfl (by decide) rfl (fun _ h=>h);have hfr:=hJ.fin (fun i hi=>Nat.lt_of_lt_of_le (HL9.out i hi) (of_decide_eq_true rfl)) rfl (.cons a0 (.cons a1 (.cons a2 (.cons a3 (.cons a4 .nil)))));have HST9:=Lib.hid hJ.st;have HEX9:Hid (Ext s s9 2):=Lib.hid hJ.ext;have HBE9:=Lib.hid hJ.be;clear hJ HNE HL9 a0 a1 a2 a3 a4;rw[hfr];clear hfr;simp only[fillW,Nat.reduceAdd,List.setIfInBounds_toArray,List.set_cons_zero,List.set_cons_succ];simp only[List.drop_succ_cons,List.drop_zero];go_wp2_with fail;go_ret
 exact⟨i4,s9,rfl,HST9.out,HEX9.out,H4.out,HBE9.out⟩
theorem both_p {B k:Nat} {E:Nat->Prop} {L s:List F} (w:World) (h:St B k E L s w) (hm:s.length+3<=900000) (i j l:Nat) (U V X:F) (hi:s[i]?=some U) (hj:s[j]?=some V) (hl:s[l]?=some X) (hg:Gd (orF [notF U,notF V,X])) (ka:Nat) (ha:w.heap[ka]?=some (.cells #[.pointer (some ⟨k,0,none⟩)] 112 (0,0))) :
  Calls Tryz.prog 172 #[.int .i64 ((i:Nat):Int),.int .i64 ((j:Nat):Int),.int .i64 ((l:Nat):Int),.pointer (some ⟨ka,0,none⟩)] w (PutPost B k E L s (orF [notF U,notF V,X]) 3 w):=by
 have HS:=Lib.hid h;have HM:=Lib.hid hm;have HG:=Lib.hid hg;have HBa:=Lib.hid ha;have HIi:=Lib.hid hi;have HIj:=Lib.hid hj;have HIl:=Lib.hid hl;have G1:=Lib.hid (gd_kid HG.out (x:=notF U) (by simp[orF,notF,eqfF,leF,addF,fo,F.kids]));have G2:=Lib.hid (gd_kid HG.out (x:=notF V) (by simp[orF,notF,eqfF,leF,addF,fo,F.kids]));clear h hm hg ha hi hj hl;go_enter Tryz.func172,Tryz.ntmps172;go_upto_region 1 with fail;have HNE:Hid (∀ i j,i<10->j<10->i≠j->(fun i=>i+8) i≠(fun i=>i+8) j):=Lib.hid (fun i j _ _ h e=>h (Nat.add_right_cancel e));have HL9:Hid (∀ i,i<10->(fun i=>i+8) i<18):=Lib.hid (fun i h=>by show i+8<18;omega)
 refine Rel9.region (by kernel_rfl) [[],[],[],[1,2],[],[],[1,2,3,4,5],[],[1,2,3,4,5,6,7],[0,1,2,3,4,5,6,7,8],[0,1,2,3,4,5,6,7,8,9]] 10 (by kernel_rfl) (by kernel_rfl) (JX B k E L w s _ 10 (fun i=>i+8) (fun i=>[0,0,0,1,0,0,1,0,0,1].getD i 0) (fdF B k E [.eqv (.pointer (some ⟨k,0,none⟩)),.eqv (.pointer (some ⟨k,0,none⟩)),.eqv (.int .i64 ((i:Nat):Int)),.idf (notF U),.eqv (.pointer (some ⟨k,0,none⟩)),.eqv (.int .i64 ((j:Nat):Int)),.idf (notF V),.eqv (.int .i64 ((l:Nat):Int)),.idl [notF U,notF V,X],.idf (orF [notF U,notF V,X])])) (JF.start HS.out) ?_ ?_
 ·rintro d T wc n9 o ⟨s9,hJ⟩ ho hi hd hdep hcl;have hstep:=fun (v:Value) (s8:List F) (w2:World)=>hJ.step (v:=v) (s':=s8) (w':=w2) (fdF_st (B:=B) (k:=k) (E:=E) _) HNE.out (fun i hi=>Nat.lt_of_lt_of_le (HL9.out i hi) (of_decide_eq_true rfl)) n9 hi hd
  have HST9:=Lib.hid hJ.st;have HROOM:=Lib.hid (hJ.room n9 hi hd (N:=900000) (show s.length+3<=900000 from by have:=HM.out;omega));have m3:T[3]?=some (.pointer (some ⟨ka,0,none⟩)):=(hJ.oth 3 (by decide)).trans (by rfl);have hBq:=(hJ.be.block ka (lt_of_block HBa.out) (NO.cells HBa.out (by decide))).trans HBa.out;have qa0:=cell_at (v:=.pointer (some ⟨k,0,none⟩)) hBq 0 rfl;clear hBq;have m0:T[0]?=some (.int .i64 ((i:Nat):Int)):=(hJ.oth 0 (by decide)).trans (by rfl);have m1:T[1]?=some (.int .i64 ((j:Nat):Int)):=(hJ.oth 1 (by decide)).trans (by rfl);have m2:T[2]?=some (.int .i64 ((l:Nat):Int)):=(hJ.oth 2 (by decide)).trans (by rfl);obtain rfl | rfl | rfl | rfl | rfl | rfl | rfl | rfl | rfl | rfl:n9=0\/n9=1\/n9=2\/n9=3\/n9=4\/n9=5\/n9=6\/n9=7\/n9=8\/n9=9:=by omega
  all_goals (injection ho with ho)
  all_goals (subst ho)
  all_goals (try (clear hJ hdep hcl;refine⟨rfl,fun K9 hK=>?_⟩;have HST:=Lib.hid hstep;clear hstep;go_simp;exact hK.out _ _ (HST.out _ _ _ HST9.out ((Ext.refl _).up (Nat.zero_le _)) (Stp.refl _ _ _) rfl)))
  ·have e9:=hJ.vE 1 9 rfl (by decide) (hdep 1 (by rfl)) (fun _ h=>h);have e10:=hJ.vE 2 10 rfl (by decide) (hdep 2 (by rfl)) (fun _ h=>h);have HEXT:=Lib.hid hJ.ext;clear hJ hdep hcl;refine⟨rfl,fun K9 hK=>?_⟩;have HST:=Lib.hid hstep;clear hstep;go_simp;refine (notS_p wc HST9.out HROOM.out i U (HEXT.out.get HIi.out) G1.out).mono ?_;rintro e w8 ⟨i8,s8,rfl,p1,p2,p3,p4⟩;exact hK.out _ _ (HST.out _ _ _ p1 p2 p4 ⟨i8,rfl,p3⟩)
  ·have e12:=hJ.vE 4 12 rfl (by decide) (hdep 4 (by rfl)) (fun _ h=>h);have e13:=hJ.vE 5 13 rfl (by decide) (hdep 5 (by rfl)) (fun _ h=>h);have HEXT:=Lib.hid hJ.ext;clear hJ hdep hcl;refine⟨rfl,fun K9 hK=>?_⟩;have HST:=Lib.hid hstep;clear hstep;go_simp;refine (notS_p wc HST9.out HROOM.out j V (HEXT.out.get HIj.out) G2.out).mono ?_;rintro e w8 ⟨i8,s8,rfl,p1,p2,p3,p4⟩;exact hK.out _ _ (HST.out _ _ _ p1 p2 p4 ⟨i8,rfl,p3⟩)
  ·obtain⟨i3,e11,H3⟩:=hJ.vI 3 11 rfl (by decide) (hdep 3 (by rfl)) (fun _ h=>h);obtain⟨i6,e14,H6⟩:=hJ.vI 6 14 rfl (by decide) (hdep 6 (by rfl)) (fun _ h=>h);have e15:=hJ.vE 7 15 rfl (by decide) (hdep 7 (by rfl)) (fun _ h=>h);have HEXT:=Lib.hid hJ.ext;clear hJ hdep hcl;refine⟨rfl,fun K9 hK=>?_⟩;have HST:=Lib.hid hstep;clear hstep;go_simp;have hal:Below wc.heap.size wc (wc.alloc _):=(Below.refl _ _).alloc (Nat.le_refl _) (.cells #[.int .i64 ((i3:Nat):Int),.int .i64 ((i6:Nat):Int),.int .i64 ((l:Nat):Int)] 116)
   exact hK.out _ _ (HST.out _ _ _ (HST9.out.below hal) ((Ext.refl _).up (Nat.zero_le _)) (.of_below hal) ⟨[i3,i6,l],IL.block (l:=[i3,i6,l]) (cs:=[.int .i64 ((i3:Nat):Int),.int .i64 ((i6:Nat):Int),.int .i64 ((l:Nat):Int)]) (show (wc.alloc (.cells #[.int .i64 ((i3:Nat):Int),.int .i64 ((i6:Nat):Int),.int .i64 ((l:Nat):Int)] 116)).heap[wc.heap.size]?=some (.cells [.int .i64 ((i3:Nat):Int),.int .i64 ((i6:Nat):Int),.int .i64 ((l:Nat):Int)].toArray 116 (0,0)) from heap_alloc_new wc _) (by decide) (HST9.out.fresh (Nat.le_refl _)) (by show 3<=maxLen;decide) rfl,by simp only[List.map_cons,List.map_nil,H3.out,H6.out,HEXT.out.get HIl.out]⟩)
  have e8:=hJ.vE 0 8 rfl (by decide) (hdep 0 (by rfl)) (fun _ h=>h);obtain⟨v8,e16,f8⟩:=hJ.val 8 (by decide) (hdep 8 (by rfl));obtain⟨l8,f8a,h8⟩:=(show IdL B k E v8 [notF U,notF V,X] s9 wc from f8);obtain⟨q8o,q8c,g8,-⟩:=id f8a;rw[g8] at e16 f8a;replace e16:T[16]?=_:=e16;have A8:=Lib.hid f8a;have H8:=Lib.hid h8;clear f8 f8a h8 g8;clear hJ hdep hcl;refine⟨rfl,fun K9 hK=>?_⟩;have HST:=Lib.hid hstep;clear hstep;go_simp;refine (eitherS_p wc HST9.out HROOM.out _ l8 A8.out [notF U,notF V,X] H8.out HG.out).mono ?_;rintro e w8 ⟨i8,s8,rfl,p1,p2,p3,p4⟩;exact hK.out _ _ (HST.out _ _ _ p1 p2 p4 ⟨i8,rfl,p3⟩)
 rintro T wt ⟨s9,hJ⟩;have a0:=hJ.vE 0 8 rfl (by decide) rfl (fun _ h=>h);have a1:=hJ.vE 1 9 rfl (by decide) rfl (fun _ h=>h);have a2:=hJ.vE 2 10 rfl (by decide) rfl (fun _ h=>h);obtain⟨i3,a3,H3⟩:=hJ.vI 3 11 rfl (by decide) rfl (fun _ h=>h);have a4:=hJ.vE 4 12 rfl (by decide) rfl (fun _ h=>h);have a5:=hJ.vE 5 13 rfl (by decide) rfl (fun _ h=>h);obtain⟨i6,a6,H6⟩:=hJ.vI 6 14 rfl (by decide) rfl (fun _ h=>h);have a7:=hJ.vE 7 15 rfl (by decide) rfl (fun _ h=>h);obtain⟨v8,a8,f8⟩:=hJ.val 8 (by decide) rfl;obtain⟨l8,f8a,h8⟩:=(show IdL B k E v8 [notF U,notF V,X] s9 wt from f8);have A8:=Lib.hid f8a;clear f8 f8a h8;obtain⟨i9,a9,H9⟩:=hJ.vI 9 17 rfl (by decide) rfl (fun _ h=>h)
 have hfr:=hJ.fin (fun i hi=>Nat.lt_of_lt_of_le (HL9.out i hi) (of_decide_eq_true rfl)) rfl (.cons a0 (.cons a1 (.cons a2 (.cons a3 (.cons a4 (.cons a5 (.cons a6 (.cons a7 (.cons a8 (.cons a9 .nil))))))))));have HST9:=Lib.hid hJ.st;have HEX9:Hid (Ext s s9 3):=Lib.hid hJ.ext;have HBE9:=Lib.hid hJ.be;clear hJ HNE HL9 a0 a1 a2 a3 a4 a5 a6 a7 a8 a9;rw[hfr];clear hfr;simp only[fillW,Nat.reduceAdd,List.setIfInBounds_toArray,List.set_cons_zero,List.set_cons_succ];simp only[List.drop_succ_cons,List.drop_zero];go_wp2_with fail;go_ret;exact⟨i9,s9,rfl,HST9.out,HEX9.out,H9.out,HBE9.out⟩
theorem one_p {B k:Nat} {E:Nat->Prop} {L s:List F} (w:World) (h:St B k E L s w) (hm:s.length+5<=900000) (i j q:Nat) (U V X:F) (hi:s[i]?=some U) (hj:s[j]?=some V) (hq:s[q]?=some X) (hg:Gd (orF [notF (eqfF U (nF 1)),eqfF X V])) (ka kb:Nat) (ha:w.heap[ka]?=some (.cells #[.pointer (some ⟨k,0,none⟩)] 112 (0,0))) (hb:w.heap[kb]?=some (.cells #[.int .i64 ((q:Nat):Int)] 116 (0,0))) :
  Calls Tryz.prog 173 #[.int .i64 ((i:Nat):Int),.int .i64 ((j:Nat):Int),.pointer (some ⟨ka,0,none⟩),.pointer (some ⟨kb,0,none⟩)] w (PutPost B k E L s (orF [notF (eqfF U (nF 1)),eqfF X V]) 5 w):=by
 have HS:=Lib.hid h;have HM:=Lib.hid hm;have HG:=Lib.hid hg;have HBa:=Lib.hid ha;have HBb:=Lib.hid hb;have HIi:=Lib.hid hi;have HIj:=Lib.hid hj;have HIq:=Lib.hid hq;have G1:=Lib.hid (gd_kid HG.out (x:=notF (eqfF U (nF 1))) (by simp[orF,notF,eqfF,leF,addF,fo,F.kids]));have G2:=Lib.hid (gd_kid HG.out (x:=eqfF X V) (by simp[orF,notF,eqfF,leF,addF,fo,F.kids]));have G3:=Lib.hid (gd_kid (gd_kid HG.out (x:=notF (eqfF U (nF 1))) (by simp[orF,notF,eqfF,leF,addF,fo,F.kids])) (x:=eqfF U (nF 1)) (by simp[orF,notF,eqfF,leF,addF,fo,F.kids]));clear h hm hg ha hb hi hj hq;go_enter Tryz.func173,Tryz.ntmps173;go_upto_region 1 with fail;have HNE:Hid (∀ i j,i<14->j<14->i≠j->(fun i=>i+7) i≠(fun i=>i+7) j):=Lib.hid (fun i j _ _ h e=>h (Nat.add_right_cancel e))
 have HL9:Hid (∀ i,i<14->(fun i=>i+7) i<21):=Lib.hid (fun i h=>by show i+7<21;omega)
 refine Rel9.region (by kernel_rfl) [[],[],[],[],[],[4],[2,3,4,5],[1,2,3,4,5,6],[],[],[],[1,2,3,4,5,6,7,8,9,10],[1,2,3,4,5,6,7,8,9,10,11],[0,1,2,3,4,5,6,7,8,9,10,11,12],[0,1,2,3,4,5,6,7,8,9,10,11,12,13]] 14 (by kernel_rfl) (by kernel_rfl) (JX B k E L w s _ 14 (fun i=>i+7) (fun i=>[0,0,0,0,0,1,1,1,0,0,0,1,0,1].getD i 0) (fdF B k E [.eqv (.pointer (some ⟨k,0,none⟩)),.eqv (.pointer (some ⟨k,0,none⟩)),.eqv (.pointer (some ⟨k,0,none⟩)),.eqv (.int .i64 ((i:Nat):Int)),.eqv (.pointer (some ⟨k,0,none⟩)),.idf (nF 1),.idf (eqfF U (nF 1)),.idf (notF (eqfF U (nF 1))),.eqv (.pointer (some ⟨k,0,none⟩)),.eqv (.int .i64 ((q:Nat):Int)),.eqv (.int .i64 ((j:Nat):Int)),.idf (eqfF X V),.idl [notF (eqfF U (nF 1)),eqfF X V],.idf (orF [notF (eqfF U (nF 1)),eqfF X V])])) (JF.start HS.out) ?_ ?_
 ·rintro d T wc n9 o ⟨s9,hJ⟩ ho hi hd hdep hcl;have hstep:=fun (v:Value) (s8:List F) (w2:World)=>hJ.step (v:=v) (s':=s8) (w':=w2) (fdF_st (B:=B) (k:=k) (E:=E) _) HNE.out (fun i hi=>Nat.lt_of_lt_of_le (HL9.out i hi) (of_decide_eq_true rfl)) n9 hi hd
  have HST9:=Lib.hid hJ.st;have HROOM:=Lib.hid (hJ.room n9 hi hd (N:=900000) (show s.length+5<=900000 from by have:=HM.out;omega));have m2:T[2]?=some (.pointer (some ⟨ka,0,none⟩)):=(hJ.oth 2 (by decide)).trans (by rfl);have hBq:=(hJ.be.block ka (lt_of_block HBa.out) (NO.cells HBa.out (by decide))).trans HBa.out;have qa0:=cell_at (v:=.pointer (some ⟨k,0,none⟩)) hBq 0 rfl;clear hBq;have m0:T[0]?=some (.int .i64 ((i:Nat):Int)):=(hJ.oth 0 (by decide)).trans (by rfl);have m3:T[3]?=some (.pointer (some ⟨kb,0,none⟩)):=(hJ.oth 3 (by decide)).trans (by rfl);have hBq:=(hJ.be.block kb (lt_of_block HBb.out) (NO.cells HBb.out (by decide))).trans HBb.out;have qb0:=cell_at (v:=.int .i64 ((q:Nat):Int)) hBq 0 rfl;clear hBq;have m1:T[1]?=some (.int .i64 ((j:Nat):Int)):=(hJ.oth 1 (by decide)).trans (by rfl)
  obtain rfl | rfl | rfl | rfl | rfl | rfl | rfl | rfl | rfl | rfl | rfl | rfl | rfl | rfl:n9=0\/n9=1\/n9=2\/n9=3\/n9=4\/n9=5\/n9=6\/n9=7\/n9=8\/n9=9\/n9=10\/n9=11\/n9=12\/n9=13:=by omega
  all_goals (injection ho with ho)
  all_goals (subst ho)
  all_goals (try (clear hJ hdep hcl;refine⟨rfl,fun K9 hK=>?_⟩;have HST:=Lib.hid hstep;clear hstep;go_simp;exact hK.out _ _ (HST.out _ _ _ HST9.out ((Ext.refl _).up (Nat.zero_le _)) (Stp.refl _ _ _) rfl)))
  ·have e11:=hJ.vE 4 11 rfl (by decide) (hdep 4 (by rfl)) (fun _ h=>h);clear hJ hdep hcl;refine⟨rfl,fun K9 hK=>?_⟩;have HST:=Lib.hid hstep;clear hstep;go_simp;refine (numS_p wc HST9.out HROOM.out 1 (by decide) (by decide)).mono ?_;rintro e w8 ⟨i8,s8,rfl,p1,p2,p3,p4⟩;exact hK.out _ _ (HST.out _ _ _ p1 p2 p4 ⟨i8,rfl,p3⟩)
  ·have e9:=hJ.vE 2 9 rfl (by decide) (hdep 2 (by rfl)) (fun _ h=>h);have e10:=hJ.vE 3 10 rfl (by decide) (hdep 3 (by rfl)) (fun _ h=>h);obtain⟨i5,e12,H5⟩:=hJ.vI 5 12 rfl (by decide) (hdep 5 (by rfl)) (fun _ h=>h);have HEXT:=Lib.hid hJ.ext;clear hJ hdep hcl;refine⟨rfl,fun K9 hK=>?_⟩;have HST:=Lib.hid hstep;clear hstep;go_simp;refine (sameS_p wc HST9.out HROOM.out i i5 U (nF 1) (HEXT.out.get HIi.out) H5.out G3.out).mono ?_;rintro e w8 ⟨i8,s8,rfl,p1,p2,p3,p4⟩;exact hK.out _ _ (HST.out _ _ _ p1 p2 p4 ⟨i8,rfl,p3⟩)
  ·have e8:=hJ.vE 1 8 rfl (by decide) (hdep 1 (by rfl)) (fun _ h=>h);obtain⟨i6,e13,H6⟩:=hJ.vI 6 13 rfl (by decide) (hdep 6 (by rfl)) (fun _ h=>h);clear hJ hdep hcl;refine⟨rfl,fun K9 hK=>?_⟩;have HST:=Lib.hid hstep;clear hstep;go_simp;refine (notS_p wc HST9.out HROOM.out i6 _ H6.out G1.out).mono ?_;rintro e w8 ⟨i8,s8,rfl,p1,p2,p3,p4⟩;exact hK.out _ _ (HST.out _ _ _ p1 p2 p4 ⟨i8,rfl,p3⟩)
  ·have e15:=hJ.vE 8 15 rfl (by decide) (hdep 8 (by rfl)) (fun _ h=>h);have e16:=hJ.vE 9 16 rfl (by decide) (hdep 9 (by rfl)) (fun _ h=>h);have e17:=hJ.vE 10 17 rfl (by decide) (hdep 10 (by rfl)) (fun _ h=>h);have HEXT:=Lib.hid hJ.ext;clear hJ hdep hcl;refine⟨rfl,fun K9 hK=>?_⟩;have HST:=Lib.hid hstep;clear hstep;go_simp;refine (sameS_p wc HST9.out HROOM.out q j X V (HEXT.out.get HIq.out) (HEXT.out.get HIj.out) G2.out).mono ?_;rintro e w8 ⟨i8,s8,rfl,p1,p2,p3,p4⟩;exact hK.out _ _ (HST.out _ _ _ p1 p2 p4 ⟨i8,rfl,p3⟩)
  ·obtain⟨i7,e14,H7⟩:=hJ.vI 7 14 rfl (by decide) (hdep 7 (by rfl)) (fun _ h=>h);obtain⟨i11,e18,H11⟩:=hJ.vI 11 18 rfl (by decide) (hdep 11 (by rfl)) (fun _ h=>h);clear hJ hdep hcl;refine⟨rfl,fun K9 hK=>?_⟩;have HST:=Lib.hid hstep;clear hstep;go_simp;have hal:Below wc.heap.size wc (wc.alloc _):=(Below.refl _ _).alloc (Nat.le_refl _) (.cells #[.int .i64 ((i7:Nat):Int),.int .i64 ((i11:Nat):Int)] 116)
   exact hK.out _ _ (HST.out _ _ _ (HST9.out.below hal) ((Ext.refl _).up (Nat.zero_le _)) (.of_below hal) ⟨[i7,i11],IL.block (l:=[i7,i11]) (cs:=[.int .i64 ((i7:Nat):Int),.int .i64 ((i11:Nat):Int)]) (show (wc.alloc (.cells #[.int .i64 ((i7:Nat):Int),.int .i64 ((i11:Nat):Int)] 116)).heap[wc.heap.size]?=some (.cells [.int .i64 ((i7:Nat):Int),.int .i64 ((i11:Nat):Int)].toArray 116 (0,0)) from heap_alloc_new wc _) (by decide) (HST9.out.fresh (Nat.le_refl _)) (by show 2<=maxLen;decide) rfl,by simp only[List.map_cons,List.map_nil,H7.out,H11.out]⟩)
  have e7:=hJ.vE 0 7 rfl (by decide) (hdep 0 (by rfl)) (fun _ h=>h);obtain⟨v12,e19,f12⟩:=hJ.val 12 (by decide) (hdep 12 (by rfl));obtain⟨l12,f12a,h12⟩:=(show IdL B k E v12 [notF (eqfF U (nF 1)),eqfF X V] s9 wc from f12);obtain⟨q12o,q12c,g12,-⟩:=id f12a;rw[g12] at e19 f12a;replace e19:T[19]?=_:=e19;have A12:=Lib.hid f12a;have H12:=Lib.hid h12;clear f12 f12a h12 g12;clear hJ hdep hcl;refine⟨rfl,fun K9 hK=>?_⟩;have HST:=Lib.hid hstep;clear hstep;go_simp;refine (eitherS_p wc HST9.out HROOM.out _ l12 A12.out _ H12.out HG.out).mono ?_;rintro e w8 ⟨i8,s8,rfl,p1,p2,p3,p4⟩;exact hK.out _ _ (HST.out _ _ _ p1 p2 p4 ⟨i8,rfl,p3⟩)
 rintro T wt ⟨s9,hJ⟩;have a0:=hJ.vE 0 7 rfl (by decide) rfl (fun _ h=>h);have a1:=hJ.vE 1 8 rfl (by decide) rfl (fun _ h=>h);have a2:=hJ.vE 2 9 rfl (by decide) rfl (fun _ h=>h);have a3:=hJ.vE 3 10 rfl (by decide) rfl (fun _ h=>h);have a4:=hJ.vE 4 11 rfl (by decide) rfl (fun _ h=>h);obtain⟨i5,a5,H5⟩:=hJ.vI 5 12 rfl (by decide) rfl (fun _ h=>h);obtain⟨i6,a6,H6⟩:=hJ.vI 6 13 rfl (by decide) rfl (fun _ h=>h);obtain⟨i7,a7,H7⟩:=hJ.vI 7 14 rfl (by decide) rfl (fun _ h=>h);have a8:=hJ.vE 8 15 rfl (by decide) rfl (fun _ h=>h);have a9:=hJ.vE 9 16 rfl (by decide) rfl (fun _ h=>h);have a10:=hJ.vE 10 17 rfl (by decide) rfl (fun _ h=>h);obtain⟨i11,a11,H11⟩:=hJ.vI 11 18 rfl (by decide) rfl (fun _ h=>h);obtain⟨v12,a12,f12⟩:=hJ.val 12 (by decide) rfl
 obtain⟨l12,f12a,h12⟩:=(show IdL B k E v12 [notF (eqfF U (nF 1)),eqfF X V] s9 wt from f12);have A12:=Lib.hid f12a;clear f12 f12a h12;obtain⟨i13,a13,H13⟩:=hJ.vI 13 20 rfl (by decide) rfl (fun _ h=>h);have hfr:=hJ.fin (fun i hi=>Nat.lt_of_lt_of_le (HL9.out i hi) (of_decide_eq_true rfl)) rfl (.cons a0 (.cons a1 (.cons a2 (.cons a3 (.cons a4 (.cons a5 (.cons a6 (.cons a7 (.cons a8 (.cons a9 (.cons a10 (.cons a11 (.cons a12 (.cons a13 .nil))))))))))))));have HST9:=Lib.hid hJ.st;have HEX9:Hid (Ext s s9 5):=Lib.hid hJ.ext;have HBE9:=Lib.hid hJ.be;clear hJ HNE HL9 a0 a1 a2 a3 a4 a5 a6 a7 a8 a9 a10 a11 a12 a13;rw[hfr];clear hfr;simp only[fillW,Nat.reduceAdd,List.setIfInBounds_toArray,List.set_cons_zero,List.set_cons_succ];simp only[List.drop_succ_cons,List.drop_zero];go_wp2_with fail;go_ret
 exact⟨i13,s9,rfl,HST9.out,HEX9.out,H13.out,HBE9.out⟩
end Go.Proofs.YtoncclhbdkjhmaaGreatDoor
