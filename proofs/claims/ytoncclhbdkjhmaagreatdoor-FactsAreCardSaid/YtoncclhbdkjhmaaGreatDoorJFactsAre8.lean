/-
 Joined texts: FbW,FbP,FbG,FbR,FbH,FbJ,FbQ,FbK,FbZ,FbUa,FbQa,FbPa,FbWa.
-/
import Derived.Test.YtoncclhbdkjhmaaGreatDoorJFactsAre2
import Derived.Test.YtoncclhbdkjhmaaGreatDoorJFactsAre3
import Derived.Test.YtoncclhbdkjhmaaGreatDoorJFactsAre5
import Derived.Test.YtoncclhbdkjhmaaGreatDoorJFactsAre6
import Derived.Test.YtoncclhbdkjhmaaGreatDoorJFactsAre7
set_option maxHeartbeats 32000000
namespace Go.Proofs.YtoncclhbdkjhmaaGreatDoor
open Go.RowKit
set_option maxRecDepth 100000
set_option linter.unusedVariables false
set_option linter.unusedSimpArgs false
def Var (w:World) (S:Nat->Prop) (k:Nat) (t:F):Prop:=S k/\∃ cs:Array Value,w.heap[k]?=some (.cells cs 29 (0,0))/\cs.size=5/\∃ d,FC w S d (.agg cs) t
theorem Var.below {w w':World} {S:Nat->Prop} {k:Nat} {t:F} (h:Var w S k t) (hb:Below w.heap.size w w'):Var w' S k t:=by
 obtain⟨h0,cs,h1,h2,d,h3⟩:=h;exact⟨h0,cs,(hb.block k (lt_of_block h1)).trans h1,h2,d,h3.below hb⟩
theorem Var.turn {P:Nat->Prop} {w w':World} {v v':Value} {k:Nat} {t:F} (h:Var w (bs P v) k t) (ht:Turn w v w' v'):Var w' (bs P v') k t:=by
 obtain⟨h0,cs,h1,h2,d,h3⟩:=h;have hk:=lt_of_block h1;refine⟨⟨fun e=>?_,h0.2⟩,cs,(ht.1.block k hk (fun e=>h0.1 e.symm)).trans h1,h2,d,h3.turn ht⟩;rcases ht.2.2 k e with h4 | h4
 ·exact h0.1 h4
 omega
theorem Var.new {w:World} {S:Nat->Prop} {k:Nat} {v0 v1 v2 v3 v4:Value} {t:F} (hB:w.heap[k]?=some (.cells #[v0,v1,v2,v3,v4] 29 (0,0))) (hS:S k) (h:∃ d,FC w S d (.agg #[v0,v1,v2,v3,v4]) t):Var w S k t:=⟨hS,_,hB,rfl,h⟩
theorem Var.put {w:World} {S:Nat->Prop} {k d:Nat} {u:FU} {t:F} (hB:w.heap[k]?=some (.cells #[.int .i64 0,.bool false,.slice none 0 0,.string ⟨#[]⟩,.slice none 0 0] 29 (0,0))) (hS:S k) (h:FT w (fun b=>S b/\b≠k) d u t) {w0:World} (hb:Below w0.heap.size w0 w) (hk:w0.heap.size<=k) :
  Var (((((w.setCell ⟨k,0,none⟩ (.int .i64 u.k)).setCell ⟨k,1,none⟩ (.bool (decide (u.n.z<0)))).setCell ⟨k,2,none⟩ (.slice u.n.o u.n.l u.n.c)).setCell ⟨k,3,none⟩ (.string u.nm)).setCell ⟨k,4,none⟩ (.slice u.ko u.kl u.kc)) S k t /\
  Below w0.heap.size w0 (((((w.setCell ⟨k,0,none⟩ (.int .i64 u.k)).setCell ⟨k,1,none⟩ (.bool (decide (u.n.z<0)))).setCell ⟨k,2,none⟩ (.slice u.n.o u.n.l u.n.c)).setCell ⟨k,3,none⟩ (.string u.nm)).setCell ⟨k,4,none⟩ (.slice u.ko u.kl u.kc)) /\
  w.grownBy (((((w.setCell ⟨k,0,none⟩ (.int .i64 u.k)).setCell ⟨k,1,none⟩ (.bool (decide (u.n.z<0)))).setCell ⟨k,2,none⟩ (.slice u.n.o u.n.l u.n.c)).setCell ⟨k,3,none⟩ (.string u.nm)).setCell ⟨k,4,none⟩ (.slice u.ko u.kl u.kc)) (some k) /\
  KN w (((((w.setCell ⟨k,0,none⟩ (.int .i64 u.k)).setCell ⟨k,1,none⟩ (.bool (decide (u.n.z<0)))).setCell ⟨k,2,none⟩ (.slice u.n.o u.n.l u.n.c)).setCell ⟨k,3,none⟩ (.string u.nm)).setCell ⟨k,4,none⟩ (.slice u.ko u.kl u.kc)):=by
 have hg:=grown5V (w:=w) (k:=k) (.int .i64 u.k) (.bool (decide (u.n.z<0))) (.slice u.n.o u.n.l u.n.c) (.string u.nm) (.slice u.ko u.kl u.kc);have hr:Fr 29 w _:=.of_grown hg (fun j hj=>by injection hj with hj;subst hj;exact⟨_,hB,n32_F⟩);exact⟨⟨hS,_,set5_same hB _ _ _ _ _,rfl,d,u,rfl,(h.grown hg (KN.of_fr hr) (fun b hb e=>hb.2 (by injection e with e;exact e.symm))).mono fun b hb=>hb.1⟩,ext_below hb hg hk,hg,KN.of_fr hr⟩
theorem FL.moreF {w:World} {S S':Nat->Prop} {d n:Nat} {ko:Option Addr} {x:Value} {ts ns:List F} (h:FL w S d (.slice ko n n) ts) (hx:FGl w S' x ns) (h0:0<ns.length) (hlen:ts.length+ns.length<=1000000) (ty:TypeId) :
  ∃ v' w',(Builtin.append_ #[27,27] ty #[.slice ko n n,x]).run Tryz.prog w=.ok v' w'/\FGl w' (fun b=>S b\/S' b\/b=w.heap.size) v' (ts++ns)/\(∃ m c,v'=.slice (some ⟨w.heap.size,0,none⟩) m c)/\Below w.heap.size w w':=by
 obtain⟨i,hi,hz,hz1,hz2⟩:=info_parts fR.info;obtain⟨xs,hx,-,hxf⟩:=hx;have h0:0<xs.length:=by rw[hxf.1];exact h0
 obtain⟨xo,xc,rfl,hx1,hx2⟩:=id hx;obtain⟨a,rfl,-,-,-⟩:=hx2 0 h0;have hnews:=hx.news;obtain⟨el,⟨ko',kc',e,hk1,hk2,hk3⟩,rfl⟩:=h;injection e with e1 e2 e3;subst e1;rw[List.length_map] at hlen;have hlx:el.length+xs.length<=1000000:=by rw[hxf.1];exact hlen
 have hl:(xs.flatMap fC).length=xs.length*i.size:=by rw[hz1];exact flat_lenV fR.f fR.len xs
 have hfs:Fs w (fun b=>S b\/S' b\/b=w.heap.size) (el.map (·.1)++xs) (el.map (·.2)++ns):=Fs.append ⟨by rw[List.length_map,List.length_map],d,fun q hq1 hq2=>by
  rw[List.getElem_map,List.getElem_map];exact (hk3 q (by simpa using hq1)).2.mono fun b hb=>.inl hb⟩ (hxf.map fun _ _ _ h=>h.mono fun b hb=>.inr (.inl hb))
 have hlo:((el.map (·.1)).flatMap fC).length=n*i.size:=by rw[hz1,e2,show el.length=(el.map (·.1)).length by rw[List.length_map]];exact flat_lenV fR.f fR.len _
 have hbl:∀ o:Obj,Below w.heap.size w (w.drew.alloc o):=fun o=>((Below.refl _ _).drew).alloc (Nat.le_refl _) o
 have fin:∀ (cap:Nat) (z:Array Value),n+xs.length<=cap->cap<=maxLen->FGl (w.drew.alloc (.cells (((el.map (·.1)++xs).flatMap fC).toArray++z) 29)) (fun b=>S b\/S' b\/b=w.heap.size) (.slice (some ⟨w.heap.size,0,none⟩) (n+xs.length) cap) (el.map (·.2)++ns):=fun cap z h1 h2=>by
  have hn:n+xs.length=(el.map (·.1)++xs).length:=by rw[lsa,List.length_map,e2]
  rw[hn];exact⟨_,El.At.frontF (E:=fR) (el:=el.map (·.1)++xs) (heap_alloc_new w.drew _) (by rw[<-hn];exact h1) h2 (fun _ _=>trivial),fun a n c e _=>by injection e with e;injection e with e;rw[<-e];exact .inr (.inr rfl),hfs.map fun _ _ _ h=>h.below (hbl _)⟩
 cases ko with
 | none =>
  have h00:n=0:=by rw[e3];exact hk1.2.2 rfl
  have he:el=[]:=List.eq_nil_of_length_eq_zero (by omega);subst he;subst h00;have hr2:=run_append_nil (P:=Tryz.prog) w fR.t ty fR.e i fR.z fR.ht hi hz a xs.length xc (xs.flatMap fC) hl hnews h0 (by rw[lsn] at hlx;omega) (by rw[hz2];show xs.length*80<=_;rw[lsn] at hlx;omega);have hf:=fin (grownCap w xs.length 0 fR.e) (Builtin.zeroCells fR.z.cells (grownCap w xs.length 0 fR.e - xs.length)) (by rw[Nat.zero_add];exact grownCap_ge ..) (grownCap_le_maxLen _ _ _ _ (by unfold maxLen;rw[lsn] at hlx;omega));rw[Nat.zero_add] at hf;exact⟨_,_,hr2,hf,⟨_,_,rfl⟩,hbl _⟩
 | some b =>
  have holds:∀ j u,((el.map (·.1)).flatMap fC)[j]?=some u->w.cell? (b.add j)=some u:=fun j u hu=>by
   have hjl:j<(el.map (·.1)).length*5:=by have h7:=(List.getElem?_eq_some_iff.1 hu).1;exact Nat.lt_of_lt_of_eq h7 (flat_lenV fR.f fR.len _)
   have hq:j / 5<(el.map (·.1)).length:=(Nat.div_lt_iff_lt_mul (by decide)).2 hjl;have hm:j % 5<5:=Nat.mod_lt _ (by decide);have hd:j / 5*5+j % 5=j:=by omega
   obtain⟨⟨a2,ha2,hc2⟩,-⟩:=hk3 (j / 5) (by simpa using hq);injection ha2 with ha2;subst ha2;have h9:=hc2 (j % 5) u (by
    have h8:=flat_atV fR.f fR.len (el.map (·.1)) (j / 5) (j % 5) hq hm;rw[show j / 5*fR.n+j % 5=j from hd] at h8;rw[List.getElem_map] at h8;exact h8.symm.trans hu)
   rw[add_addV] at h9;rw[show (j / 5)*(fE d).n+j % 5=j from hd] at h9;exact h9
  have hr2:=run_append_grow (P:=Tryz.prog) w fR.t ty fR.e i fR.z fR.ht hi hz b n n _ hlo holds a xs.length xc _ hl hnews (by omega) (by omega) (growslice_fits (by omega) (by rw[hz2];show (n+xs.length)*80<=_;omega));have hf:=fin (grownCap w (n+xs.length) n fR.e) (Builtin.zeroCells fR.z.cells (grownCap w (n+xs.length) n fR.e - (n+xs.length))) (grownCap_ge ..) (grownCap_le_maxLen _ _ _ _ (by unfold maxLen;omega));have e:((el.map (·.1)).flatMap fC).toArray++(xs.flatMap fC).toArray=((el.map (·.1)++xs).flatMap fC).toArray:=by rw[List.flatMap_append];simp
  refine⟨_,_,hr2,?_,⟨_,_,rfl⟩,hbl _⟩;rw[e];exact hf
theorem Var.mono {w:World} {S S':Nat->Prop} {k:Nat} {t:F} (h:Var w S k t) (hs:∀ b,S b->S' b):Var w S' k t:=by
 obtain⟨h0,cs,h1,h2,d,h3⟩:=h;exact⟨hs k h0,cs,h1,h2,d,h3.mono hs⟩
theorem Var.grown {w w':World} {S:Nat->Prop} {k:Nat} {t:F} {r:Option Nat} (h:Var w S k t) (hg:w.grownBy w' r) (hn:KN w w') (hS:∀ b,S b->r≠some b):Var w' S k t:=by
 obtain⟨h0,cs,h1,h2,d,h3⟩:=h;exact⟨h0,cs,(hg.block k (lt_of_block h1) (fun e=>hS k h0 e.symm)).trans h1,h2,d,h3.grown hg hn hS⟩
theorem Var.lit {w:World} {S:Nat->Prop} {g:Nat} {t:F} {k:Int} {b:Bool} {o:Option Addr} {l c:Nat} {nm:ByteArray} {ko:Option Addr} {kl kc:Nat} (h:Var w S g t) (hB:w.heap[g]?=some (.cells #[.int .i64 k,.bool b,.slice o l c,.string nm,.slice ko kl kc] 29 (0,0))) :
  ∃ d,FC w S d (.agg #[.int .i64 k,.bool b,.slice o l c,.string nm,.slice ko kl kc]) t/\CI w (.agg #[.bool b,.slice o l c]) t.num 600/\kl=t.kids.length/\kl<=9223372036854775807/\FL w S (d - 1) (.slice ko kl kl) t.kids:=by
 obtain⟨-,cs,h1,-,d,h2⟩:=h;rw[hB] at h1;injection h1 with h1;injection h1 with h1;subst h1;obtain⟨b2,o2,l2,c2,ko2,kl2,kc2,e,⟨-,hz,hkl,hkc,hkm⟩,-,hk⟩:=h2.open;injection e with e;have e1:=congrArg (fun t:Array Value=>t[1]?) e;have e2:=congrArg (fun t:Array Value=>t[2]?) e;have e4:=congrArg (fun t:Array Value=>t[4]?) e;injection e1 with e1;injection e2 with e2;injection e4 with e4;replace e1:Value.bool b=.bool b2:=e1;replace e2:Value.slice o l c=.slice o2 l2 c2:=e2;replace e4:Value.slice ko kl kc=.slice ko2 kl2 kc2:=e4;injection e1 with e1;injection e2 with e2 e2a e2b;injection e4 with e4 e4a e4b;subst e1;subst e2;subst e2a;subst e2b;subst e4;subst e4a;subst e4b;have hm:kc<=9223372036854775807:=hkm;refine⟨d,h2,hz,hkl,by omega,?_⟩;obtain⟨el,⟨ko3,kc3,e,⟨g1,g2,g3⟩,g4,g5⟩,g6⟩:=hk
 injection e with e1 e2 e3;subst e1;subst e3;exact⟨el,⟨ko,kl,by rw[e2],⟨by omega,by rw[<-e2] at g1;exact Nat.le_trans g1 g2,fun h=>by have:=g3 h;omega⟩,g4,g5⟩,g6⟩
theorem kd_get0 (x:F) (h:0<(x.kids++[nF 0,nF 0]).length):(x.kids++[nF 0,nF 0])[0]=kd x 0:=by
 obtain⟨o,z,nm,ks⟩:=x
 cases ks<;>rfl
theorem kd_get1 (x:F) (h:1<(x.kids++[nF 0,nF 0]).length):(x.kids++[nF 0,nF 0])[1]=kd x 1:=by
 obtain⟨o,z,nm,ks⟩:=x;rcases ks with _ | ⟨a,_ | ⟨b,l⟩⟩<;>rfl
theorem FL.turn {P:Nat->Prop} {w w':World} {v v':Value} {d:Nat} {x:Value} {ts:List F} (h:FL w (bs P v) d x ts) (ht:Turn w v w' v'):FL w' (bs P v') d x ts:=
 (h.ltF.grown ht.1 ht.2.1 (fun b hb=>hb.1.1)).mono fun b hb=>⟨fun e=>by
  rcases ht.2.2 b e with h1 | h1
  ·exact hb.1.1 h1
  exact absurd hb.2 (by omega),hb.1.2⟩
theorem Turn.blk {w w':World} {v v':Value} (ht:Turn w v w' v') {k:Nat} {o:Obj} (hne:v.ownBlock≠some k) (h:w.heap[k]?=some o):w'.heap[k]?=some o:=
 (ht.1.block k (lt_of_block h) (fun e=>hne e.symm)).trans h
theorem zF_ft {S:Nat->Prop} (w:World):FT w S 1 zFU (nF 0):=
 ⟨⟨rfl,⟨by decide,by decide⟩,rfl,rfl⟩,nr0 w,[],rfl,⟨rfl,Nat.le_refl _,Nat.zero_le _,fun _=>rfl⟩,fun h=>absurd rfl h,fun i hi=>absurd hi (Nat.not_lt_zero i)⟩
theorem FL.appendMore {w:World} {S S':Nat->Prop} {d n:Nat} {ko:Option Addr} {x:Value} {ts ns:List F} (h:FL w S d (.slice ko n n) ts) {ops:Array Oper} {rest:List Oper} {o:Oper} {a:Act} {Q:Exit->Act->World->Prop} (hgd:o.guard=none) (s y:Operand)
  (ho:o.op=.call { callee:=.builtin .append,args:=#[s,y],argTypes:=#[27,27] }) (hs:a.eval s=.slice ko n n) (hx:a.eval y=x) (hxs:FGl w S' x ns) (h0:0<ns.length) (hlen:ts.length+ns.length<=1000000)
  (hK:∀ g m c w',FGl w' (fun b=>S b\/S' b\/b=w.heap.size) (.slice (some ⟨g,0,none⟩) m c) (ts++ns)->Hid (m=ts.length+ns.length)->Below w.heap.size w w'->wpList Tryz.prog ops Q rest (a.put o.dst (.slice (some ⟨g,0,none⟩) m c)) w'):wpList Tryz.prog ops Q (o::rest) a w:=by
 refine wpList_plain hgd fun K hk=>?_
 obtain⟨v',w',hr,h1,⟨m,c,rfl⟩,h3⟩:=h.moreF hxs h0 hlen o.type;have hm:m=ts.length+ns.length:=by obtain⟨_,hf⟩:=h1.fl;obtain⟨_,_,e,_⟩:=hf.form;injection e with e1 e2 e3;rw[e2,lsa]
 unfold Oper.wp execOp;simp only[ho,resolve,invoke,builtin,Sem.run_bind,Sem.run_pure,Result.andThen_ok,List.map_toArray,List.map_cons,List.map_nil,hs,hx];rw[show (Builtin.append_ #[27,27] o.type #[.slice ko n n,x]).run Tryz.prog w=_ from hr];exact hk _ _ (hK _ _ _ w' h1 (Lib.hid hm) h3)
section
variable {S:Nat->Prop} {W0:World} {t0:Array Value} {n:Nat} {sl:Nat->Nat} {fd:Nat->LD} {d:Nat->Bool} {T:Array Value} {w w':World} {ds:List Deferred} {Q:Exit->Act->World->Prop} {o:Oper}
theorem JL.opV (h:JL S W0 t0 n sl fd d T w) (hs:SlOk n sl t0.size) (i:Nat) (hi:i<n) (hd:d i=false) {r p g:Nat} {ty:TypeId} {ps:String} {ed:Array Edge} {t:F} (hV:Var W0 S g t) (hsl:sl i=r) (hp:∀ i,i<n->p≠sl i) (hv:t0[p]?=some (.pointer (some ⟨g,0,none⟩))) (hf:fd i=.fx t) :
  Opd S W0 t0 n sl fd d T w ds Q i ⟨some r,.load 29 (.tmp p),ty,ps,ed,none⟩:=by
 obtain⟨-,cs,h1,h2,h3⟩:=hV;exact h.opLd hs i hi hd (s:=0) h1 h3 h2 hsl hp hv hf
theorem JL.opOr (h:JL S W0 t0 n sl fd d T w) (hs:SlOk n sl t0.size) (hS:∀ b,W0.heap.size<=b->S b) (i:Nat) (hi:i<n) (hd:d i=false) (j:Nat) (hj:j<n) (hdj:d j=true) {r a:Nat} {k:Int} {ts:List F} {ty:TypeId} {at_:Array TypeId} {ps:String} {ed:Array Edge} (hsl:sl i=r) (hsj:sl j=a) (hfj:fd j=.fl ts) (hl:ts.length<=1000) (hf:fd i=.fx (orF (orK k 0 ts))) :
  Opd S W0 t0 n sl fd d T w ds Q i ⟨some r,.call { callee:=.value (.func 78),args:=#[.const (.int .i64 k),.tmp a],argTypes:=at_ },ty,ps,ed,none⟩:=by
 obtain⟨v,e,hv⟩:=h.getL j hj hdj hfj;rw[hsj] at e;refine h.call hs hi hd rfl (by rw[hsl]) 78 #[.int .i64 k,v] ?_ ((or_p k v ts _ w hv hl).mono ?_) (by rw[hf];intro h;cases h)
 ·unfold execOp;simp[Act.eval,Frame.eval,resolve,invoke,Deferred.ofValue,e,go_sem]
 rintro e w' ⟨v',rfl,⟨dd,h1⟩,hb⟩;exact⟨v',rfl,by rw[hf];exact⟨dd,h1.mono fun b hb=>hb.elim id fun hb=>h.out (hS b (Nat.le_trans h.be.size hb)) (.inl hb)⟩,hb⟩
end
theorem all_tm5 {m:Nat}:∀ (e:Nat),e<=m->∀ t:F,Tm e t->AllF (Tm m) t
 | 0,_,t,h=>absurd h id
 | e+1,he,.node o z nm ks,h=>by
  rw[AllF];exact⟨h.up he,AllFs.of fun k hk=>all_tm5 e (by omega) k (h.2.2.2.2 k hk)⟩
theorem vis_rt {t:F} (hr:rt t=true) (hm:Tm 5 t):∀ x ∈ vis [] t,rt x=true/\Tm 5 x:=
 (vis_all (P:=fun x=>rt x=true/\Tm 5 x) t [] (fun x hx=>by cases hx) ((all_rt 5 t hm hr).and (all_tm5 5 (Nat.le_refl _) t hm))).1
noncomputable def of1F (x:F):List F:=((vis [] x).filter nb).flatMap factsF
theorem of1_q {t:F} (hr:rt t=true) (hm:Tm 5 t):∀ y ∈ of1F t,rt y=true/\QA 5 9 y:=by
 intro y hy;unfold of1F at hy;obtain⟨x,hx,hy⟩:=List.mem_flatMap.1 hy;obtain⟨h1,h2⟩:=vis_rt hr hm x (List.mem_filter.1 hx).1;exact⟨(facts_ok (r:=fun _=>.I 0) h1 y hy).1,facts_q (d:=4) h1 h2 y hy⟩
theorem vis2_q {t:F} (hr:rt t=true) (hm:Tm 5 t):∀ x ∈ viss (vis [] t) (of1F t),rt x=true/\Qd 5 x:=by
 refine (viss_all (P:=fun x=>rt x=true/\Qd 5 x) (of1F t) (vis [] t) (fun x hx=>?_) (AllFs.of fun y hy=>?_)).1
 ·obtain⟨h1,h2⟩:=vis_rt hr hm x hx;exact⟨h1,h2.up (by decide),fun _=>h2.up (by decide),fun _=>h2.up (by decide)⟩
 obtain⟨h1,h2⟩:=of1_q hr hm y hy;exact (all_rt 9 y h2.2 h1).and h2.1
theorem of_eq (t:F):ofF t=of1F t++(((viss (vis [] t) (of1F t)).drop (vis [] t).length).filter (fun t=>decide (srt t.op=2))).flatMap lensF:=rfl
theorem of_all {t:F} (hr:rt t=true) (hm:Tm 5 t) (r:ByteArray->V):∀ y ∈ ofF t,FactOk r y/\QA 5 9 y:=by
 intro y hy;rw[of_eq] at hy;rcases List.mem_append.1 hy with hy | hy
 ·refine⟨?_,(of1_q hr hm y hy).2⟩;unfold of1F at hy;obtain⟨x,hx,hy⟩:=List.mem_flatMap.1 hy;exact facts_ok (vis_rt hr hm x (List.mem_filter.1 hx).1).1 y hy
 obtain⟨x,hx,hy⟩:=List.mem_flatMap.1 hy;obtain⟨h1,h2⟩:=List.mem_filter.1 hx;have h3:=vis2_q hr hm x (List.mem_of_mem_drop h1);have h4:srt x.op=2:=of_decide_eq_true h2;exact⟨lens_ok h3.1 h4 y hy,(lens_q (d:=5) h3.1 (h3.2.2.2 h4) (by omega) y hy).up (by omega)⟩
theorem of_gd {t:F} (hr:rt t=true) (hm:Tm 5 t):∀ y ∈ ofF t,Gd y:=fun y hy=>by
 obtain⟨h1,h2⟩:=of_all hr hm (fun _=>.I 0) y hy;exact⟨h1.1,h2.2.g⟩
def cntT:Nat->Nat
 | 0=>0
 | d+1=>1+3*cntT d
theorem sz_cnt:∀ (d:Nat) (t:F),Tm d t->szF t<=cntT d
 | 0,t,h=>absurd h id
 | d+1,.node o z nm ks,h=>by
  obtain⟨-,-,-,h4,h5⟩:=h
  have key:∀ l:List F,(∀ k ∈ l,Tm d k)->szsF l<=l.length*cntT d:=by
   intro l;induction l with
   | nil=>intro _;simp[szsF]
   | cons a l ih =>
    intro hl;have:=ih (fun k hk=>hl k (by simp[hk]));have ha:=sz_cnt d a (hl a (by simp));rw[szsF,lsc,Nat.add_mul,Nat.one_mul];omega
  have h6:=key ks h5;have h7:ks.length*cntT d<=3*cntT d:=Nat.mul_le_mul_right _ h4;rw[szF,cntT];omega
theorem cnt_5:cntT 5<=1000:=by decide
def lvF:F:=.node 8 0 ⟨#[108]⟩ []
theorem lv_gd:rt (lenF lvF)=true/\Tg 2 (lenF lvF):=⟨rfl,⟨rfl,z4,fun _ _ _=>rfl,by decide,fun k hk=>by
 have e:k=lvF:=by simpa [lenF,fo,F.kids] using hk
 subst e
 exact⟨⟨by decide,by decide,by unfold plainC;decide⟩,z4,fun _ _ _=>rfl,by decide,fun k hk=>by cases hk⟩⟩⟩
theorem vis_fit:vis [] (lenF lvF)=[lenF lvF,lvF]:=by
 simp[vis,viss,lenF,fo,lvF]
theorem of_fit:ofF (lenF lvF)=[leF (nF 0) (lenF lvF),emptF lvF,leF (nF 0) (lenF nilF),eqfF (lenF nilF) (nF 0)]:=by
 have h1:of1F (lenF lvF)=[leF (nF 0) (lenF lvF),emptF lvF]:=by
  unfold of1F;rw[vis_fit];simp[List.filter,nb,lenF,fo,lvF,F.op,srt,factsF,lensF]
 rw[of_eq,h1,vis_fit];simp[vis,viss,leF,emptF,orF,notF,eqfF,nilF,lenF,fo,nF,lvF,List.filter,F.op,srt,lensF]
attribute [local go_sem] fieldV0 fieldV1 fieldV2 fieldV3
theorem lensF_len (x:F):(lensF x).length<=2:=by
 unfold lensF;rw[lsc];split
 ·simp
 split<;>simp
theorem factsF_len (x:F):(factsF x).length<=6:=by
 have h:=lensF_len x;unfold factsF;split
 ·rw[lsa,List.length_singleton];omega
 split
 ·omega
 split
 ·rw[lsa];simp only[lsc,lsn];omega
 split
 ·rw[lsa,lsa];simp only[tailF,lsc,lsn];omega
 split
 ·simp
 split
 ·simp
 split
 ·simp[prodF]
 simp
theorem flatF_len {f:F->List F} {c:Nat} (h:∀ x,(f x).length<=c):∀ l:List F,(l.flatMap f).length<=c*l.length
 | []=>by simp
 | a::l=>by
  have h1:=flatF_len h l;have h2:=h a;rw[List.flatMap_cons,lsa,lsc,Nat.mul_add,Nat.mul_one];omega
theorem flatF_take {f:F->List F} {l:List F} {j:Nat} (h:j<l.length):(l.take (j+1)).flatMap f=(l.take j).flatMap f++f l[j]:=by
 rw[List.take_succ_eq_append_getElem h,List.flatMap_append,List.flatMap_cons,List.flatMap_nil,List.append_nil]
theorem newT_nil (L:List F):newT [] L=L.filter nb:=by unfold newT;simp
def isL (t:F):Bool:=decide (srt t.op=2)
theorem new_lists (L L1:List F):(newT L L1).filter isL=(L1.drop L.length).filter (fun t=>decide (srt t.op=2)):=by
 unfold newT isL;rw[List.filter_filter];apply List.filter_congr;intro x _;by_cases h:srt x.op=2
 ·rw[decide_eq_true h,Bool.true_and];exact decide_eq_true (by rw[h];decide)
 rw[decide_eq_false h,Bool.false_and]
theorem St.appd {B k B0:Nat} {E:Nat->Prop} {L s:List F} {w w':World} {v v':Value} {l l':List Nat} (h:St B k E L s w) (hE:∀ g,v.ownBlock=some g->E g) (hR:idR.Row w B0 v l) (hB:B<=B0) (hg:w.grownBy w' v.ownBlock) (hf:FreshF w v v') (hR':idR.Row w' B0 v' l'):St B k (fun g=>v'.ownBlock=some g) L s w':=by
 refine h.turnT hg (fun g hr=>?_) (fun g hg'=>?_) (fun g hg'=>(hR'.ge hg').2)
 ·obtain⟨c,hc,h32⟩:=hR.n32 g hr;exact⟨hE g hr,Nat.le_trans hB (hR.ge hr).1,c,_,hc,by decide,h32⟩
 rcases hf g hg' with e | e
 ·exact .inl (hE g e)
 exact .inr e
theorem idR_at_stp {B k:Nat} {w w':World} {ko:Option Addr} {n c:Nat} {l:List Nat} (h:idR.At w (.slice ko n c) l) (f:Stp B k w w'):idR.At w' (.slice ko n c) l:=by
 obtain⟨ko',kc',e,h1,h2⟩:=h;refine⟨ko',kc',e,h1,fun j hj=>?_⟩;obtain⟨a,ha,⟨c,hc⟩,h3,h4⟩:=h2 j hj;have hb:=f.block _ (lt_of_block hc) (NO.cells hc (by decide));exact⟨a,ha,⟨c,hb.trans hc⟩,fun q u hu=>by rw[cell_keepF (w:=w) (by rw[add_blockV];exact hb)];exact h3 q u hu,trivial⟩
theorem idR_at_grown {w w':World} {r:Option Nat} {ko:Option Addr} {n c:Nat} {l:List Nat} (h:idR.At w (.slice ko n c) l) (f:w.grownBy w' r) (hn:∀ a,ko=some a->some a.block≠r):idR.At w' (.slice ko n c) l:=by
 obtain⟨ko',kc',e,h1,h2⟩:=h;injection e with e1 e2 e3;refine⟨ko',kc',by rw[e1,e2,e3],h1,fun j hj=>?_⟩;obtain⟨a,ha,⟨c,hc⟩,h3,h4⟩:=h2 j hj;have hb:=f.block _ (lt_of_block hc) (hn a (by rw[e1];exact ha));exact⟨a,ha,⟨c,hb.trans hc⟩,fun q u hu=>by rw[cell_keepF (w:=w) (by rw[add_blockV];exact hb)];exact h3 q u hu,trivial⟩
theorem ofAll_p (d:Nat) (v:Value) (t:F) (w:World) (h:FC w tS d v t) (hd:d<=9) (hrt:rt t=true) (htg:Tg d t) (hsz:szF t<=1000) (hgd:∀ y ∈ ofF t,Gd y) (ht:TxT w) :
  Calls Tryz.prog 21 #[v] w fun e w'=>∃ v',e=.returned v'/\FL w' tS 9 v' (ofF t)/\Below w.heap.size w w':=by
 have HF:=Lib.hid h;have HD:=Lib.hid hd;have HRT:=Lib.hid hrt;have HTG:=Lib.hid htg;have HSZ:=Lib.hid hsz;have HGD:=Lib.hid hgd;have HT:=Lib.hid ht;obtain⟨b,ao,l,c,ko,kl,kc,rfl,-,-,-⟩:=h.open;obtain⟨o,ho⟩:∃ o,o=t.op:=⟨_,rfl⟩;obtain⟨nm,hnm⟩:∃ o,o=t.name:=⟨_,rfl⟩;rw[<-ho,<-hnm] at HF ⊢;clear h hd hrt htg hsz hgd ht ho hnm;go_enter Tryz.func21,Tryz.ntmps21;obtain⟨x1,kf,ef,ekf,hbf,hkf,HBf⟩:=newV w #[.int .i64 o,.bool b,.slice ao l c,.string nm,.slice ko kl kc] 29;have HW:=Lib.hid hbf.out;replace HF:=Lib.hid (HF.out.below hbf.out);replace HT:=Lib.hid (HT.out.below hbf.out);obtain⟨⟨c0,c1,c2,c3,c4⟩,-⟩:=cells5V HBf.out;go_wp2_with fail;refine (right_p d _ t tS x1 HF.out).mono ?_;rintro e x2 ⟨rfl,hb⟩;rw[HRT.out];clear c0 c1 c2 c3 c4;replace HBf:=kBV hb HBf
 replace HF:=Lib.hid (HF.out.below hb);replace HT:=Lib.hid (HT.out.below hb);replace HW:=Lib.hid (HW.out.trans (hb.mono HW.out.size));clear hb;go_wp2_with fail;refine (new_p x2 HT.out).mono ?_;rintro e x3 ⟨k,rfl,hst,hb⟩;replace HBf:=kBV hb HBf;have HF3:Hid (FC x3 (NS x2.heap.size k (fun _=>False) x3) d (.agg #[.int .i64 o,.bool b,.slice ao l c,.string nm,.slice ko kl kc]) t):=Lib.hid (by
  obtain⟨u,e,hft⟩:=HF.out;exact⟨u,e,hft.of_base hb (fun g h=>h.elim)⟩)
 have HW3:=Lib.hid (HW.out.trans (hb.mono HW.out.size));have HWB:=Lib.hid HW.out.size;have HS3:=Lib.hid hst;have HB2:=Lib.hid hb;obtain⟨B,hB⟩:∃ B,B=x2.heap.size:=⟨_,rfl⟩;rw[<-hB] at HS3 HF3 HWB HB2;clear hst hb HF HT HW hB;obtain⟨⟨c0,c1,c2,c3,c4⟩,-⟩:=cells5V HBf.out;go_wp2_with fail;refine (addS_p d _ _ _ _ _ x3 _ t HS3.out HF3.out HRT.out HTG.out HD.out (by have:=HSZ.out;simp only[lsn];omega)).mono ?_;rintro e x4 ⟨i,s1,rfl,q1,q2,q3,q4⟩;clear c0 c1 c2 c3 c4;have HL1:Hid (s1.length<=1000):=Lib.hid (by have h1:=q2.len;have h2:=HSZ.out;simp only[lsn] at h1;omega);have HI:=Lib.hid q3;have HP4:Hid (Below B x3 x4):=Lib.hid (q4.below HS3.out.bases.1);have HS4:=Lib.hid q1;clear q1 q2 q3 q4 HS3 HF3 HBf;obtain⟨x5,kq,eq,ekq,hbq,hkq,HBq⟩:=newV x4 #[.int .i64 ((i:Nat):Int)] 116
 have HS5:=Lib.hid (HS4.out.below hbq.out);have HB5:Hid (Below B x3 x5):=Lib.hid (HP4.out.trans (hbq.out.mono HS4.out.bases.1));have HAT:=Lib.hid (idR_at (l:=[i]) HBq.out (by show 1<=maxLen;decide));go_wp2_with fail;refine (listS_p x5 HS5.out List.nodup_nil (some ⟨kq,0,none⟩) 1 1 [i] HAT.out [t] (by simp only[List.map_cons,List.map_nil,HI.out]) (by decide)).mono ?_;rintro e x6 ⟨v1,l1,rfl,r1,r2,r3,r4⟩;have hv1:viss [] [t]=vis [] t:=by rw[viss,viss]
 rw[hv1] at r2 r3;rw[newT_nil] at r2;obtain⟨T1,hT1⟩:∃ x,x=(vis [] t).filter nb:=⟨_,rfl⟩;rw[<-hT1] at r2;have HT1:=Lib.hid hT1;have HT1L:Hid (T1.length<=1000):=Lib.hid (by
  obtain⟨km,v0,us,M,hU⟩:=r3;have h1:=len_of_nd (vis_nd t [] List.nodup_nil) hU.sub;have h2:=List.length_filter_le nb (vis [] t);have h3:=HL1.out;rw[hT1];omega)
 obtain⟨po,pc,rfl,hp1,hp2,-⟩:=r1.form;obtain⟨n1,hn1⟩:∃ n,n=l1.length:=⟨_,rfl⟩;have HN1:=Lib.hid hn1;have HN1T:Hid (T1.length=n1):=Lib.hid (by rw[hn1];exact map_some_len r2);rw[<-hn1] at r1 r3 hp1 ⊢;have hpm:pc<=9223372036854775807:=hp2;have HR1:=Lib.hid r1.at;have HM1:=Lib.hid r2;have HS6:Hid (St B k (fun g=>(Value.slice none 0 0).ownBlock=some g) (vis [] t) s1 x6):=Lib.hid (r3.less (fun g hg=>by cases hg));have HB6:Hid (Below B x3 x6):=Lib.hid (HB5.out.trans (r4.below HS5.out.bases.1));have HSX:Hid (B<=x6.heap.size/\k<x6.heap.size):=Lib.hid r3.bases;clear r1 r2 r3 r4 hT1 hv1 hn1 hp2 HS5 HS4 HAT HBq HP4 HB5;go_wp2_with fail
 go_loopw [4,20] (fun av iv wr=>∃ (j:Nat) (ia:List Nat) (sj:List F),iv=.int .i64 (j:Nat)/\j<=n1/\Hid (idR.Row wr x6.heap.size av ia)/\Hid (ia.map (fun i=>sj[i]?)=((T1.take j).flatMap factsF).map some)/\Hid (St B k (fun g=>av.ownBlock=some g) (vis [] t) sj wr)/\Hid (Ext s1 sj (46*j))/\Hid (Stp B k x6 wr)) (fun _ iv _=>n1 - (intOf iv).toNat)
 case atStart=>exact⟨0,[],s1,rfl,Nat.zero_le _,Lib.hid (El.Row.nil _ _),Lib.hid (by simp),HS6,Lib.hid (Ext.refl s1),Lib.hid (Stp.refl _ _ _)⟩
 case round =>
  clear HS6;obtain⟨j,ia,sj,rfl,hj,HR,HM,HS,HE,HP⟩:=hrel;obtain⟨oo,oc,rfl,hol,hoc,-⟩:=HR.out.form;have HIA:Hid (ia.length<=6*j):=Lib.hid (by
   have h1:=map_some_len HM.out;have h2:=flatF_len factsF_len (T1.take j);rw[List.length_take] at h2;have h3:6*min j T1.length<=6*j:=Nat.mul_le_mul_left _ (Nat.min_le_left _ _);omega)
  by_cases hlt:j<n1
  ·have hjl:j<l1.length:=by rw[<-HN1.out];exact hlt
   have hjt:j<T1.length:=by rw[HN1T.out];exact hlt
   obtain⟨a,rfl,ca⟩:=idR_cellv HR1.out HP.out j hjl;obtain⟨i2,hi2⟩:∃ x,x=l1[j]:=⟨_,rfl⟩;rw[<-hi2] at ca;have HI2:Hid (sj[i2]?=some T1[j]):=Lib.hid (HE.out.get (by rw[hi2];exact map_some_get HM1.out j hjl hjt));have HGX:Hid (∀ y ∈ factsF T1[j],Gd y):=Lib.hid (fun y hy=>HGD.out y (by
    rw[of_eq];refine List.mem_append_left _ ?_;unfold of1F;rw[<-HT1.out];exact List.mem_flatMap.2 ⟨_,List.getElem_mem hjt,hy⟩))
   have HRM:Hid (sj.length+46<=900000/\j<=1000):=Lib.hid (by
    have h1:=HE.out.len;have h2:=HL1.out;have h3:=HT1L.out;exact⟨by omega,by omega⟩)
   have HFT:=Lib.hid (flatF_take (f:=factsF) hjt);clear hi2;go_wp2_with fail;refine (factsS_p wr HS.out HRM.out.1 i2 T1[j] HI2.out HGX.out).mono ?_;rintro e w7 ⟨fv,fids,s2,rfl,p1,p2,p3,p4,p5⟩;obtain⟨fo_,fc,rfl,-,-⟩:=id p1;have HR7:=Lib.hid (idR_stp HR.out p5);have HAT:=Lib.hid p1;have HM7:=Lib.hid p2;have HS7:=Lib.hid p3;have HE7:=Lib.hid p4;have HP7:=Lib.hid (HP.out.trans p5);have HF6:Hid (fids.length<=6):=Lib.hid (by have h1:=map_some_len p2;have h2:=factsF_len T1[j];omega);clear p1 p2 p3 p4 p5 ca;go_wp2_with (at_builtin;refine El.Row.appendA (E:=idR) HR7.out rfl (.tmp 24) (.tmp 27) rfl rfl rfl HAT.out (by have h1:=HIA.out;have h2:=HF6.out;have h3:=HRM.out.2;omega) HP7.out.size ?_;intro v9 w9 a1 a2 a3);go_roundw
   case rel =>
    have hlow:∀ g,(Value.slice oo ia.length oc).ownBlock=some g->x6.heap.size<=g:=fun g hg=>(HR7.out.ge hg).1
    exact⟨j+1,ia++fids,s2,by go_num,hlt,Lib.hid a1,Lib.hid (by rw[List.map_append,HFT.out,List.map_append,ids_ext HE7.out HM.out,HM7.out]),Lib.hid (HS7.out.appd (fun g hg=>hg) HR7.out HSX.out.1 a3 a2 a1),Lib.hid (HE.out.trans HE7.out (by omega)),Lib.hid (HP7.out.app a3 hlow HSX.out.2)⟩
   case measure=>simp[intOf];omega
  have ej:j=n1:=by omega
  have HM2:Hid (ia.map (fun i=>sj[i]?)=(of1F t).map some):=Lib.hid (by
   have h1:=HM.out;rw[ej,<-HN1T.out,List.take_length,HT1.out] at h1;exact h1)
  have HLJ:Hid (sj.length<=47000/\ia.length<=6000):=Lib.hid (by
   have h1:=HE.out.len;have h2:=HL1.out;have h3:=HT1L.out;have h4:=HN1T.out;have h5:=HIA.out;exact⟨by omega,by omega⟩)
  obtain⟨x7,hx7⟩:∃ x,x=wr:=⟨_,rfl⟩;rw[<-hx7] at HR HS HP ⊢;clear hx7 HM HIA;go_wp2_with fail;refine (listS_p x7 HS.out (vis_nd t [] List.nodup_nil) oo ia.length oc ia HR.out.at (of1F t) HM2.out (by have:=HLJ.out.2;omega)).mono ?_;rintro e x8 ⟨v2,l2,rfl,r1,r2,r3,r4⟩;obtain⟨T2,hT2⟩:∃ x,x=newT (vis [] t) (viss (vis [] t) (of1F t)):=⟨_,rfl⟩;obtain⟨L2,hL2⟩:∃ x,x=viss (vis [] t) (of1F t):=⟨_,rfl⟩;rw[<-hT2] at r2;rw[<-hL2] at r3;have HT2:Hid (T2=newT (vis [] t) L2):=Lib.hid (by rw[hT2,hL2]);have HL2:=Lib.hid hL2;have HT2L:Hid (T2.length<=47000):=Lib.hid (by
   obtain⟨km,v0,us,M,hU⟩:=r3;have h1:=len_of_nd (by rw[hL2];exact viss_nd (of1F t) _ (vis_nd t [] List.nodup_nil)) hU.sub;have h2:=newT_len (L:=vis [] t) (L1:=L2) (by rw[hL2];exact viss_ext _ _);have h3:=HLJ.out.1;rw[HT2.out];omega)
  obtain⟨qo,qc,rfl,hq1,hq2,-⟩:=r1.form;obtain⟨n2,hn2⟩:∃ n,n=l2.length:=⟨_,rfl⟩;have HN2:=Lib.hid hn2;have HN2T:Hid (T2.length=n2):=Lib.hid (by rw[hn2];exact map_some_len r2);rw[<-hn2] at r1 r3 hq1 ⊢;have hqm:qc<=9223372036854775807:=hq2;have HQ1:=Lib.hid r1.at;have HNE:Hid (∀ a,qo=some a->(Value.slice oo ia.length oc).ownBlock≠some a.block/\a.block<x8.heap.size):=Lib.hid (fun a ha=>by
   have h1:(Value.slice qo n2 qc).ownBlock=some a.block:=by rw[ha];rfl
   have h2:=r1.ge h1;refine⟨fun e=>?_,h2.2⟩;have h3:=HR.out.ge e;omega)
  have HQM:=Lib.hid r2;have HS8:Hid (St B k (fun g=>(Value.slice oo ia.length oc).ownBlock=some g) L2 sj x8):=Lib.hid (r3.less (fun g hg=>.inl hg));have HR8:Hid (idR.Row x8 x6.heap.size (.slice oo ia.length oc) ia):=Lib.hid (idR_stp HR.out r4);have HP8:=Lib.hid (HP.out.trans r4);clear r1 r2 r3 r4 hT2 hL2 hn2 hq2 HS HR HP;obtain⟨av0,hav0⟩:∃ x:Value,x=.slice oo ia.length oc:=⟨_,rfl⟩;rw[<-hav0] at HS8 HR8 HNE;have HAV:=Lib.hid hav0;clear hav0;go_wp2_with fail
  go_loopw [4,34] (fun av iv wr=>∃ (j:Nat) (ib:List Nat) (sq:List F),iv=.int .i64 (j:Nat)/\j<=n2/\Hid (idR.Row wr x6.heap.size av ib)/\Hid (ib.map (fun i=>sq[i]?)=(of1F t++((T2.take j).filter isL).flatMap lensF).map some)/\Hid (St B k (fun g=>av.ownBlock=some g) L2 sq wr)/\Hid (Ext sj sq (9*j))/\Hid (Stp B k x6 wr)/\Hid (idR.At wr (.slice qo n2 qc) l2)/\Hid (∀ a,qo=some a->av.ownBlock≠some a.block/\a.block<wr.heap.size)) (fun _ iv _=>n2 - (intOf iv).toNat)
  case atStart=>exact⟨0,ia,sj,rfl,Nat.zero_le _,by rw[<-HAV.out];exact HR8,Lib.hid (by rw[HM2.out];simp),by rw[<-HAV.out];exact HS8,Lib.hid (Ext.refl sj),HP8,HQ1,by rw[<-HAV.out];exact HNE⟩
  case round =>
   clear HS8 HR8 HP8 HAV HQ1 HNE;obtain⟨jj,ib,sq,rfl,hjj,HR,HM,HS,HE2,HP,HQ1,HNE⟩:=hrel;obtain⟨uo,uc,rfl,hul,huc,-⟩:=HR.out.form;have HIB:Hid (ib.length<=6000+2*jj):=Lib.hid (by
    have h1:=map_some_len HM.out;have h2:=map_some_len HM2.out;have h3:=flatF_len lensF_len ((T2.take jj).filter isL);have h4:=List.length_filter_le isL (T2.take jj);rw[List.length_take] at h4;have h6:min jj T2.length<=jj:=Nat.min_le_left _ _;have h7:=HLJ.out.2;rw[lsa] at h1;omega)
   by_cases hlt:jj<n2
   ·have hjl:jj<l2.length:=by rw[<-HN2.out];exact hlt
    have hjt:jj<T2.length:=by rw[HN2T.out];exact hlt
    obtain⟨a,rfl,ca⟩:=idR_cellv HQ1.out (Stp.refl B k wr) jj hjl;obtain⟨i2,hi2⟩:∃ x,x=l2[jj]:=⟨_,rfl⟩;rw[<-hi2] at ca;have HI2:Hid (sq[i2]?=some T2[jj]):=Lib.hid (HE2.out.get (by rw[hi2];exact map_some_get HQM.out jj hjl hjt));have HRM:Hid (sq.length+9<=900000/\jj<=47000):=Lib.hid (by
     have h1:=HE2.out.len;have h2:=HLJ.out.1;have h3:=HT2L.out;exact⟨by omega,by omega⟩)
    have HTK:=Lib.hid (List.take_succ_eq_append_getElem hjt);clear hi2;go_wp2_with fail;refine (sortS_p wr HS.out i2 T2[jj] HI2.out).mono ?_;rintro e w7 ⟨rfl,hb⟩;replace HR:=Lib.hid (HR.out.below hb);replace HS:=Lib.hid (HS.out.below hb);replace HP:=Lib.hid (HP.out.trans (Stp.of_below hb));replace HQ1:=Lib.hid (idR_at_stp HQ1.out (Stp.of_below (B:=B) (k:=k) hb));replace HNE:=Lib.hid (fun q hq=>(⟨(HNE.out q hq).1,Nat.lt_of_lt_of_le (HNE.out q hq).2 hb.size⟩:(Value.slice uo ib.length uc).ownBlock≠some q.block/\q.block<w7.heap.size));clear hb ca;obtain⟨z,hz⟩:∃ z,z=srt T2[jj].op:=⟨_,rfl⟩;rw[<-hz];by_cases hz2:z=2
    ·have HIS:Hid (isL T2[jj]=true):=Lib.hid (decide_eq_true (by rw[<-hz];exact hz2));have HS2:Hid (srt T2[jj].op=2):=Lib.hid (by rw[<-hz];exact hz2);have e1:(z==2)=true:=by rw[hz2];rfl
     clear hz hz2;have HGX:Hid (∀ y ∈ lensF T2[jj],Gd y):=Lib.hid (fun y hy=>HGD.out y (by
      rw[of_eq];refine List.mem_append_right _ (List.mem_flatMap.2 ⟨T2[jj],?_,hy⟩);rw[<-new_lists,<-HL2.out,<-HT2.out];exact List.mem_filter.2 ⟨List.getElem_mem hjt,HIS.out⟩))
     go_wp2_with fail;refine (lensS_p w7 HS.out HRM.out.1 i2 T2[jj] HI2.out HGX.out).mono ?_;rintro e w8 ⟨fv,fids,s2,rfl,p1,p2,p3,p4,p5⟩;obtain⟨fo_,fc,rfl,-,-⟩:=id p1.form;have HR8:=Lib.hid (idR_stp HR.out p5);have HAT:=Lib.hid p1.at;have HM8:=Lib.hid p2;have HS8:=Lib.hid p3;have HE8:=Lib.hid p4;have HP8:=Lib.hid (HP.out.trans p5);have HQ8:=Lib.hid (idR_at_stp HQ1.out p5);have HNE8:=Lib.hid (fun q hq=>(⟨(HNE.out q hq).1,Nat.lt_of_lt_of_le (HNE.out q hq).2 p5.size⟩:(Value.slice uo ib.length uc).ownBlock≠some q.block/\q.block<w8.heap.size));have HF6:Hid (fids.length<=2):=Lib.hid (by have h1:=map_some_len p2;have h2:=lensF_len T2[jj];omega);clear p1 p2 p3 p4 p5 e1
     go_wp2_with (at_builtin;refine El.Row.appendA (E:=idR) HR8.out rfl (.tmp 42) (.tmp 45) rfl rfl rfl HAT.out (by have h1:=HIB.out;have h2:=HF6.out;have h3:=HRM.out.2;omega) HP8.out.size ?_;intro v9 w9 a1 a2 a3);go_roundw
     case rel =>
      have hlow:∀ g,(Value.slice uo ib.length uc).ownBlock=some g->x6.heap.size<=g:=fun g hg=>(HR8.out.ge hg).1
      refine⟨jj+1,ib++fids,s2,by go_num,hlt,Lib.hid a1,Lib.hid (by rw[List.map_append,HTK.out,List.filter_append,List.flatMap_append,<-List.append_assoc,List.map_append,ids_ext HE8.out HM.out,HM8.out];simp[HIS.out]),Lib.hid (HS8.out.appd (fun g hg=>.inl hg) HR8.out HSX.out.1 a3 a2 a1),Lib.hid (HE2.out.trans HE8.out (by omega)),Lib.hid (HP8.out.app a3 hlow HSX.out.2),Lib.hid (idR_at_grown HQ8.out a3 (fun q hq e=>(HNE8.out q hq).1 e.symm)),Lib.hid (fun q hq=>⟨fun e=>?_,Nat.lt_of_lt_of_le (HNE8.out q hq).2 a3.size⟩)⟩;rcases a2 _ e with h1 | h1
      ·exact (HNE8.out q hq).1 h1
      have:=(HNE8.out q hq).2;omega
     case measure=>simp[intOf];omega
    have HIS:Hid (isL T2[jj]=false):=Lib.hid (decide_eq_false (by rw[<-hz];exact hz2));have e1:(z==2)=false:=beq_eq_false_iff_ne.2 hz2;clear hz hz2;go_wp2_with fail;go_roundw
    case rel =>
     exact⟨jj+1,ib,sq,by go_num,hlt,HR,Lib.hid (by rw[HM.out,HTK.out,List.filter_append];simp[HIS.out]),HS,Lib.hid (HE2.out.up (by omega)),HP,HQ1,HNE⟩
    case measure=>simp[intOf];omega
   have ejj:jj=n2:=by omega
   have HFIN:Hid (ib.map (fun i=>sq[i]?)=(ofF t).map some):=Lib.hid (by
    have h1:=HM.out;rw[ejj,<-HN2T.out,List.take_length,HT2.out,new_lists,HL2.out] at h1;rw[of_eq];exact h1)
   have hS:=HS.out.less (E':=fun _=>False) (fun g hg=>hg.elim);have hil:=idR_il (B:=B) (k:=k) (E:=fun _=>False) HR.out (fun g hg he=>he);have HSF:=Lib.hid hS;have HIL:=Lib.hid hil;clear hS hil;go_wp2_with fail;refine (forms_pS wr HSF.out _ ib HIL.out (ofF t) HFIN.out (by have h1:=HIB.out;have h2:=HT2L.out;have h3:=HN2T.out;omega)).mono ?_;rintro e x9 ⟨v',rfl,hfl,hb⟩;have HFL:=Lib.hid hfl;have HB9:=Lib.hid hb;clear hfl hb;go_wp2_with fail;go_ret;refine⟨v',rfl,HFL.out.mono (fun _ _=>trivial),?_⟩;have hb1:=(HP.out.below HSX.out.1).trans (HB9.out.mono (Nat.le_trans HSX.out.1 HP.out.size));exact HW3.out.trans ((HB6.out.trans hb1).mono HWB.out)
attribute [local go_sem] fieldV0 fieldV1 fieldV2 fieldV3
def NumP (P:F->Prop) (d:Nat):Prop:=∀ (ve v:Value) (env:List (ByteArray × V)) (t:F) (S:Nat->Prop) (w:World),P t->FC w S d v t->EL w ve env->rt t=true->srt t.op=0->Sm (rho env) t ->
 Calls Tryz.prog 164 #[ve,v] w fun e w'=>∃ x,e=.returned x/\CI w' x (asI (ev (rho env) t)) 600/\Below w.heap.size w w'
def LstP (P:F->Prop) (d:Nat):Prop:=∀ (ve v:Value) (env:List (ByteArray × V)) (t:F) (S:Nat->Prop) (w:World),P t->FC w S d v t->EL w ve env->rt t=true->srt t.op=2->Sm (rho env) t ->
 Calls Tryz.prog 163 #[ve,v] w fun e w'=>∃ x,e=.returned x/\NL w' x (asL (ev (rho env) t))/\Below w.heap.size w w'
def TruP (P:F->Prop) (d:Nat):Prop:=∀ (ve v:Value) (env:List (ByteArray × V)) (t:F) (S:Nat->Prop) (w:World),P t->FC w S d v t->EL w ve env->rt t=true->srt t.op=1->Sm (rho env) t ->
 Calls Tryz.prog 162 #[ve,v] w fun e w'=>e=.returned (.bool (asB (ev (rho env) t)))/\Below w.heap.size w w'
def ValP (P:F->Prop) (d:Nat):Prop:=∀ (ve v:Value) (env:List (ByteArray × V)) (t:F) (S:Nat->Prop) (w:World),P t->FC w S d v t->EL w ve env->rt t=true->Sm (rho env) t ->
 Calls Tryz.prog 114 #[ve,v] w fun e w'=>∃ x,e=.returned x/\VC w' x (ev (rho env) t)/\Below w.heap.size w w'
def isV8 (t:F):Prop:=t.op=8
def isN6 (t:F):Prop:=t.op=0\/(t.op=6/\∀ k ∈ t.kids,isV8 k)
def isT15 (t:F):Prop:=t.op=15/\∀ k ∈ t.kids,isN6 k
theorem lst_a (d:Nat):LstP isV8 (d+1):=by
 intro ve v env t S w hP h he hr hs hsm;obtain⟨eo,en,ec,rfl⟩:=he.shape;obtain⟨b,ao,l,c,ko,kl,kc,rfl,⟨-,hz,hkl,hkc,hkm⟩,-,hk⟩:=h.open;obtain⟨o,z,nm,ks⟩:=t;simp only[F.op,F.num,F.name,F.kids] at hz hk hkl hs ⊢;rw[show d+1 - 1=d from rfl] at hk;obtain⟨hfit,hrs⟩:=rt_node hr;have hkm':kc<=9223372036854775807:=hkm;have ho2:o=8:=hP;have HE:=Lib.hid he;have HW:=Lib.hid (Below.refl w.heap.size w);clear h hkm hkl hkc hz hk he hr hs hP;subst ho2;clear hsm hrs hfit;go_enter Tryz.func163,Tryz.ntmps163;obtain⟨x1,kf,ef,ekf,hbf,hkf,HBf⟩:=newV w #[.int .i64 8,.bool b,.slice ao l c,.string nm,.slice ko kl kc] 29;replace HE:=Lib.hid (HE.out.below hbf.out);replace HW:=Lib.hid (HW.out.trans (hbf.out.mono HW.out.size));obtain⟨⟨c0,c1,c2,c3,c4⟩,fc0,fc1,fc2,fc3,fc4⟩:=cells5V HBf.out;go_wp2_with fail
 refine (lookup_p _ env nm 2 x1 HE.out).mono ?_;rintro e x2 ⟨v,rfl,hv,hb⟩;clear c0 fc0 c1 fc1 c2 fc2 c3 fc3 c4 fc4;replace HW:=Lib.hid (HW.out.trans (hb.mono HW.out.size));obtain⟨k1,b1,o1,l1,c1,d1,p1,m1,q1,rfl,hn⟩:=hv.lk2;have HV:=Lib.hid hn;clear hv hn;go_wp2_with fail;go_ret;exact⟨_,rfl,HV.out,HW.out⟩
theorem num_a (d:Nat) (IL:LstP isV8 d):NumP isN6 (d+1):=by
 intro ve v env t S w hP h he hr hs hsm;obtain⟨b,ao,l,c,ko,kl,kc,rfl,⟨-,hz,hkl,hkc,hkm⟩,-,hk⟩:=h.open;obtain⟨o,z,nm,ks⟩:=t;simp only[F.op,F.num,F.name,F.kids] at hz hk hkl hs ⊢;rw[show d+1 - 1=d from rfl] at hk;obtain⟨hfit,hrs⟩:=rt_node hr;have ho:o=0\/o=6:=hP.imp id (fun h=>h.1);have HPK:Hid (o=6->∀ k ∈ ks,isV8 k):=Lib.hid (fun e=>hP.elim (fun h=>absurd (show o=0 from h) (by omega)) (fun h=>h.2));obtain⟨eo,en,ec,rfl⟩:=he.shape;have hkm':kc<=9223372036854775807:=hkm;have hval:=hsm.val;clear h hr hs hkm hP;rcases ho with rfl | rfl
 ·have HZ:=Lib.hid hz;have HW:=Lib.hid (Below.refl w.heap.size w);clear hkl hkc;clear hz hk he hsm hrs hval hfit;go_enter Tryz.func164,Tryz.ntmps164;obtain⟨x1,kf,ef,ekf,hbf,hkf,HBf⟩:=newV w #[.int .i64 0,.bool b,.slice ao l c,.string nm,.slice ko kl kc] 29;replace HZ:=Lib.hid (HZ.out.below hbf.out);replace HW:=Lib.hid (HW.out.trans (hbf.out.mono HW.out.size));have HKf0:=hkf;obtain⟨x2,kr,er,ekr,hbr,hkr,HBr⟩:=newV x1 #[.bool false,.slice none 0 0] 26;replace HBf:=kBV hbr.out HBf;replace HZ:=Lib.hid (HZ.out.below hbr.out);replace HW:=Lib.hid (HW.out.trans (hbr.out.mono HW.out.size));have HKr:Hid (w.heap.size<=kr):=Lib.hid (Nat.le_trans hbf.out.size hkr.out);obtain⟨⟨c0,c1,c2,c3,c4⟩,fc0,fc1,fc2,fc3,fc4⟩:=cells5V HBf.out;obtain⟨r0,r1',fr0,fr1⟩:=cells2V HBr.out;go_wp2_with fail
  clear c0 fc0 c1 fc1 c2 fc2 c3 fc3 c4 fc4;obtain⟨r1,r2⟩:=res2V HW.out HBr.out n32_2 HKr.out (.bool b) (.slice ao l c);(try simp only[Exit.inBlock,Exit.then]);exact bodyPost_ret (v:=.agg #[.bool b,.slice ao l c]) (by simp[results,Tryz.results164,go_sem,r0,r1']) rfl ⟨_,rfl,(HZ.out).fr r1,r2⟩
 have HX:=Lib.hid hk;have HE:=Lib.hid he;have HW:=Lib.hid (Below.refl w.heap.size w);have HKL0:=Lib.hid hkl;clear hkl hkc;obtain⟨p,rfl,hp⟩:=srts_one (ks:=ks) (s:=2) (by simpa [fitF,kidsOk] using hfit);have HSP:=Lib.hid (hsm.kid p (by simp));have HRP:=Lib.hid (hrs p (by simp));have HP:=Lib.hid hp;have hx2:=ev_list (r:=rho env) hp;have HEV:Hid (asI (ev (rho env) (.node 6 z nm [p]))=asI (opV (rho env) 6 z nm [ev (rho env) p])):=Lib.hid (by rw[ev,evs,evs]);have HKL:Hid ((asL (ev (rho env) p)).length<=1000/\∀ z ∈ asL (ev (rho env) p),z.natAbs<L32 ^ 600):=Lib.hid (by have:=(hsm.kid p (by simp)).val;rw[hx2] at this;exact this);have hkl1:kl=1:=HKL0.out;subst hkl1;clear hz hk he hsm hrs hval hfit hp hx2 HKL0;go_enter Tryz.func164,Tryz.ntmps164
 obtain⟨x1,kf,ef,ekf,hbf,hkf,HBf⟩:=newV w #[.int .i64 6,.bool b,.slice ao l c,.string nm,.slice ko 1 kc] 29;replace HX:=Lib.hid (HX.out.below hbf.out);replace HE:=Lib.hid (HE.out.below hbf.out);replace HW:=Lib.hid (HW.out.trans (hbf.out.mono HW.out.size));have HKf0:=hkf;obtain⟨x2,kr,er,ekr,hbr,hkr,HBr⟩:=newV x1 #[.bool false,.slice none 0 0] 26;replace HBf:=kBV hbr.out HBf;replace HX:=Lib.hid (HX.out.below hbr.out);replace HE:=Lib.hid (HE.out.below hbr.out);replace HW:=Lib.hid (HW.out.trans (hbr.out.mono HW.out.size));have HKr:Hid (w.heap.size<=kr):=Lib.hid (Nat.le_trans hbf.out.size hkr.out);obtain⟨⟨c0,c1,c2,c3,c4⟩,fc0,fc1,fc2,fc3,fc4⟩:=cells5V HBf.out;obtain⟨a,bp,op,lp,cp,kop,klp,kcp,hkop,⟨p0,p1,p2,p3,p4⟩,hfp⟩:=HX.out.first;have HFP:=Lib.hid hfp;clear hfp
 obtain⟨opp,hopp⟩:∃ x,x=p.op:=⟨_,rfl⟩;obtain⟨nmp,hnmp⟩:∃ x,x=p.name:=⟨_,rfl⟩;rw[<-hopp] at p0 HFP;rw[<-hnmp] at p3 HFP;clear hopp hnmp;subst hkop;go_wp2_with fail;refine (IL _ _ env p S x2 (HPK.out (by first | rfl | trivial) p (by simp)) HFP.out HE.out HRP.out HP.out HSP.out).mono ?_;rintro e x3 ⟨x,rfl,hx,hb⟩;clear c0 fc0 c1 fc1 c2 fc2 c3 fc3 c4 fc4 p0 p1 p2 p3 p4;replace HBr:=kBV hb HBr;replace HW:=Lib.hid (HW.out.trans (hb.mono HW.out.size));obtain⟨L,hL⟩:∃ L,L=asL (ev (rho env) p):=⟨_,rfl⟩;rw[<-hL] at hx;have HL:=Lib.hid hL;have HKL2:=HKL.out;rw[<-hL] at HKL2;clear HFP hL;obtain⟨xo,xc,rfl,⟨hx1,hx2⟩,hxc⟩:=hx.form;have hxm:xc<=9223372036854775807:=hx2;clear hx;clear hxc;go_wp2_with fail;refine (wof_any (L.length:Nat) x3 (by omega) (by have:=HKL2.1;omega)).mono ?_
 rintro e x4 ⟨x,rfl,hx,hb⟩;replace HBr:=kBV hb HBr;replace HW:=Lib.hid (HW.out.trans (hb.mono HW.out.size));obtain⟨b1,o1,l1,c1,rfl⟩:=hx.shape;have HV:=Lib.hid (hx.mono (k':=600) (by decide));clear hx;obtain⟨r0,r1',fr0,fr1⟩:=cells2V HBr.out;go_wp2_with fail;obtain⟨r1,r2⟩:=res2V HW.out HBr.out n32_2 HKr.out (.bool b1) (.slice o1 l1 c1);(try simp only[Exit.inBlock,Exit.then]);exact bodyPost_ret (v:=.agg #[.bool b1,.slice o1 l1 c1]) (by simp[results,Tryz.results164,go_sem,r0,r1']) rfl ⟨_,rfl,((show CI _ _ (asI (ev (rho env) (.node 6 z nm [p]))) 600 from by rw[HEV.out];show CI _ _ ((asL (ev (rho env) p)).length:Int) 600;rw[<-HL.out];exact HV.out)).fr r1,r2⟩
theorem tru_a (d:Nat) (IN:NumP isN6 d):TruP isT15 (d+1):=by
 intro ve v env t S w hP h he hr hs hsm;obtain⟨b,ao,l,c,ko,kl,kc,rfl,⟨-,hz,hkl,hkc,hkm⟩,-,hk⟩:=h.open;obtain⟨o,z,nm,ks⟩:=t;simp only[F.op,F.num,F.name,F.kids] at hz hk hkl hs ⊢;rw[show d+1 - 1=d from rfl] at hk;obtain⟨hfit,hrs⟩:=rt_node hr;have ho:o=15:=hP.1;have HPK:Hid (∀ k ∈ ks,isN6 k):=Lib.hid hP.2;obtain⟨eo,en,ec,rfl⟩:=he.shape;have hkm':kc<=9223372036854775807:=hkm;clear h hr hs hkm hkc hz hP;subst ho;have HX:=Lib.hid hk;have HE:=Lib.hid he;have HKL0:=Lib.hid hkl;have HW:=Lib.hid (Below.refl w.heap.size w);obtain⟨p,q,rfl,hp,hq⟩:=srts_two (ks:=ks) (s:=0) (r:=0) (by simpa [fitF,kidsOk] using hfit);have HSP:=Lib.hid (hsm.kid p (by simp));have HRP:=Lib.hid (hrs p (by simp));have HP:=Lib.hid hp;have HSQ:=Lib.hid (hsm.kid q (by simp));have HRQ:=Lib.hid (hrs q (by simp))
 have HQ:=Lib.hid hq;have HEV:Hid (asB (ev (rho env) (.node 15 z nm [p,q]))=asB (opV (rho env) 15 z nm [ev (rho env) p,ev (rho env) q])):=Lib.hid (by rw[ev,evs,evs,evs]);have hkl1:kl=2:=HKL0.out;subst hkl1;clear hk he hsm hrs hfit hkl HKL0 hp hq;go_enter Tryz.func162,Tryz.ntmps162;obtain⟨x1,ke,ee,eke,hbe,hke,HBe⟩:=newV w #[.slice eo en ec] 154;replace HX:=Lib.hid (HX.out.below hbe.out);replace HE:=Lib.hid (HE.out.below hbe.out);replace HW:=Lib.hid (HW.out.trans (hbe.out.mono HW.out.size));obtain⟨x2,kf,ef,ekf,hbf,hkf,HBf⟩:=newV x1 #[.int .i64 15,.bool b,.slice ao l c,.string nm,.slice ko 2 kc] 29;replace HBe:=kBV hbf.out HBe;replace HX:=Lib.hid (HX.out.below hbf.out);replace HE:=Lib.hid (HE.out.below hbf.out);replace HW:=Lib.hid (HW.out.trans (hbf.out.mono HW.out.size))
 have e0:=cell_at (v:=.slice eo en ec) HBe.out 0 rfl;have fe0:=froz_at HBe.out 0;obtain⟨⟨c0,c1,c2,c3,c4⟩,fc0,fc1,fc2,fc3,fc4⟩:=cells5V HBf.out;obtain⟨a,bp,op,lp,cp,kop,klp,kcp,hkop,⟨p0,p1,p2,p3,p4⟩,hfp⟩:=HX.out.first;subst hkop;obtain⟨opp,hopp⟩:∃ x,x=p.op:=⟨_,rfl⟩;obtain⟨nmp,hnmp⟩:∃ x,x=p.name:=⟨_,rfl⟩;rw[<-hopp] at p0 hfp;rw[<-hnmp] at p3 hfp;have HFP:=Lib.hid hfp;have HPC:Hid (At5 x2 a opp bp op lp cp nmp kop klp kcp):=Lib.hid ⟨p0,p1,p2,p3,p4⟩;clear hopp hnmp hfp p0 p1 p2 p3 p4;obtain⟨a2,bq,oq,lq,cq,koq,klq,kcq,hkoq,⟨q0,q1,q2,q3,q4⟩,hfq⟩:=HX.out.second;injection hkoq with ha2;subst ha2;obtain⟨opq,hopq⟩:∃ x,x=q.op:=⟨_,rfl⟩;obtain⟨nmq,hnmq⟩:∃ x,x=q.name:=⟨_,rfl⟩;rw[<-hopq] at q0 hfq;rw[<-hnmq] at q3 hfq;have HFQ:=Lib.hid hfq
 have HQC:Hid (At5 x2 ⟨a.block,a.off+5,none⟩ opq bq oq lq cq nmq koq klq kcq):=Lib.hid ⟨q0,q1,q2,q3,q4⟩;clear hopq hnmq hfq q0 q1 q2 q3 q4;go_upto_region 7 with fail;clear e0 fe0 c0 fc0 c1 fc1 c2 fc2 c3 fc3 c4 fc4;have hlt_e:=lt_of_block HBe.out;have hlt_f:=lt_of_block HBf.out;have hog:Hid (∀ q,q<0->(fun q=>0) q<x2.heap.size):=Lib.hid (fun q h=>absurd h (Nat.not_lt_zero _));refine R7.region (by kernel_rfl) [[],[],[1],[1,2],[1,2,3],[0,1,2,3,4],[],[],[7],[7,8],[7,8,9],[0,1,2,3,4,5,6,7,8,9,10],[0,1,2,3,4,5,6,7,8,9,10,11],[0,1,2,3,4,5,6,7,8,9,10,11,12],[0,1,2,3,4,5,6,7,8,9,10,11,12,13]] [] [] (fun q=>0) 0 15 (by kernel_rfl) (by kernel_rfl) (by rfl) hog.out (fun q q' h h' hn=>absurd hn (by omega)) ?_;refine R7.Chain.det ?_ (by rfl) (fun T xs wr hA=>?_) ?_;rotate_left 1
 ·have e2:=hA.pre 2 (by kernel_rfl);simp only[gsa,gsc,gsz] at e2;have hBq:wr.heap[ke]?=_:=(hA.bl _ hlt_e (fun q h=>absurd h (Nat.not_lt_zero _))).trans HBe.out;have q0:=cell_at (v:=.slice eo en ec) hBq 0 rfl;clear hBq;clear hA;refine⟨(by rfl),?_⟩;go_simp<;>(try with_reducible rfl)
 refine R7.Chain.det ?_ (by rfl) (fun T xs wr hA=>?_) ?_;rotate_left 1
 ·have e3:=hA.pre 3 (by kernel_rfl);simp only[gsa,gsc,gsz] at e3;clear hA;refine⟨(by rfl),?_⟩;go_simp<;>(try with_reducible rfl)
 refine R7.Chain.det ?_ (by rfl) (fun T xs wr hA=>?_) ?_;rotate_left 1
 ·have e19:=hA.tm 1 19 (by rfl) (by rfl);have f19:xs 1=_:=hA.fa 1 (by rfl);(try simp (disch:=first | rfl | decide) only [R7.mask_in] at f19);rw[f19] at e19;clear f19;have hBq:wr.heap[kf]?=_:=(hA.bl _ hlt_f (fun q h=>absurd h (Nat.not_lt_zero _))).trans HBf.out;have q0:=cell_at (v:=.int .i64 15) hBq 0 rfl;have q1:=cell_at (v:=.bool b) hBq 1 rfl;have q2:=cell_at (v:=.slice ao l c) hBq 2 rfl;have q3:=cell_at (v:=.string nm) hBq 3 rfl;have q4:=cell_at (v:=.slice (some a) 2 kc) hBq 4 rfl;clear hBq;clear hA;refine⟨(by rfl),?_⟩;go_simp<;>(try with_reducible rfl)
 refine R7.Chain.det ?_ (by rfl) (fun T xs wr hA=>?_) ?_;rotate_left 1
 ·have e20:=hA.tm 2 20 (by rfl) (by rfl);have f20:xs 2=_:=hA.fa 2 (by rfl);(try simp (disch:=first | rfl | decide) only [R7.mask_in] at f20);rw[f20] at e20;clear f20;clear hA;refine⟨(by rfl),?_⟩;go_simp<;>(try with_reducible rfl)
 refine R7.Chain.det ?_ (by rfl) (fun T xs wr hA=>?_) ?_;rotate_left 1
 ·have e21:=hA.tm 3 21 (by rfl) (by rfl);have f21:xs 3=_:=hA.fa 3 (by rfl);(try simp (disch:=first | rfl | decide) only [R7.mask_in] at f21);rw[f21] at e21;clear f21;have hbw:=undrew (hA.be x2.heap.size (Nat.le_refl _) (fun q h=>absurd h (Nat.not_lt_zero q)));obtain⟨q0,q1,q2,q3,q4⟩:=HPC.out.below hbw;try simp only at q0 q1 q2 q3 q4
  clear hA;refine⟨(by rfl),?_⟩;go_simp<;>(try with_reducible rfl)
 refine R7.Chain.call (fun xs v w=>∃ y,v=y/\CI w y (asI (ev (rho env) p)) 600) (fun _ _ _ _ h hb=>by obtain⟨y,h1,h2⟩:=h;exact⟨y,h1,h2.below hb⟩) (fun _ _ _ _ _ _ h _=>by obtain⟨q,hq,_⟩:=h;exact absurd hq (Nat.not_lt_zero _)) (by rfl) (fun T xs wr hA=>?_) ?_
 ·have hsw:=(hA.be 0 (Nat.zero_le _) (fun _ _=>Nat.zero_le _)).size;have e18:=hA.tm 0 18 (by rfl) (by rfl);have f18:xs 0=_:=hA.fa 0 (by rfl);(try simp (disch:=first | rfl | decide) only [R7.mask_in] at f18);rw[f18] at e18;clear f18;have e22:=hA.tm 4 22 (by rfl) (by rfl);have f22:xs 4=_:=hA.fa 4 (by rfl);(try simp (disch:=first | rfl | decide) only [R7.mask_in] at f22);rw[f22] at e22;clear f22;have hbw:=undrew (hA.be x2.heap.size (Nat.le_refl _) (fun q h=>absurd h (Nat.not_lt_zero q)));have hfq:=HFP.out.below hbw;clear hA;refine⟨(by rfl),fun K hK=>?_⟩;go_simp;refine (IN _ _ env p S _ (HPK.out p (by simp)) hfq (HE.out.below hbw) HRP.out HP.out HSP.out).mono ?_;rintro e w' ⟨y,rfl,hy,hb'⟩;exact hK.out _ _ ⟨y,rfl,hy⟩ hb'
 refine R7.Chain.det ?_ (by rfl) (fun T xs wr hA=>?_) ?_;rotate_left 1
 ·have e2:=hA.pre 2 (by kernel_rfl);simp only[gsa,gsc,gsz] at e2;have hBq:wr.heap[ke]?=_:=(hA.bl _ hlt_e (fun q h=>absurd h (Nat.not_lt_zero _))).trans HBe.out;have q0:=cell_at (v:=.slice eo en ec) hBq 0 rfl;clear hBq;clear hA;refine⟨(by rfl),?_⟩;go_simp<;>(try with_reducible rfl)
 refine R7.Chain.det ?_ (by rfl) (fun T xs wr hA=>?_) ?_;rotate_left 1
 ·have e3:=hA.pre 3 (by kernel_rfl);simp only[gsa,gsc,gsz] at e3;clear hA;refine⟨(by rfl),?_⟩;go_simp<;>(try with_reducible rfl)
 refine R7.Chain.det ?_ (by rfl) (fun T xs wr hA=>?_) ?_;rotate_left 1
 ·have e25:=hA.tm 7 25 (by rfl) (by rfl);have f25:xs 7=_:=hA.fa 7 (by rfl);(try simp (disch:=first | rfl | decide) only [R7.mask_in] at f25);rw[f25] at e25;clear f25;have hBq:wr.heap[kf]?=_:=(hA.bl _ hlt_f (fun q h=>absurd h (Nat.not_lt_zero _))).trans HBf.out;have q0:=cell_at (v:=.int .i64 15) hBq 0 rfl;have q1:=cell_at (v:=.bool b) hBq 1 rfl;have q2:=cell_at (v:=.slice ao l c) hBq 2 rfl;have q3:=cell_at (v:=.string nm) hBq 3 rfl;have q4:=cell_at (v:=.slice (some a) 2 kc) hBq 4 rfl;clear hBq;clear hA;refine⟨(by rfl),?_⟩;go_simp<;>(try with_reducible rfl)
 refine R7.Chain.det ?_ (by rfl) (fun T xs wr hA=>?_) ?_;rotate_left 1
 ·have e26:=hA.tm 8 26 (by rfl) (by rfl);have f26:xs 8=_:=hA.fa 8 (by rfl);(try simp (disch:=first | rfl | decide) only [R7.mask_in] at f26);rw[f26] at e26;clear f26;clear hA;refine⟨(by rfl),?_⟩;go_simp<;>(try with_reducible rfl)
 refine R7.Chain.det ?_ (by rfl) (fun T xs wr hA=>?_) ?_;rotate_left 1
 ·have e27:=hA.tm 9 27 (by rfl) (by rfl);have f27:xs 9=_:=hA.fa 9 (by rfl);(try simp (disch:=first | rfl | decide) only [R7.mask_in] at f27);rw[f27] at e27;clear f27;have hbw:=undrew (hA.be x2.heap.size (Nat.le_refl _) (fun q h=>absurd h (Nat.not_lt_zero q)));obtain⟨q0,q1,q2,q3,q4⟩:=HQC.out.below hbw;try simp only at q0 q1 q2 q3 q4
  clear hA;refine⟨(by rfl),?_⟩;go_simp<;>(try with_reducible rfl)
 refine R7.Chain.call (fun xs v w=>∃ y,v=y/\CI w y (asI (ev (rho env) q)) 600) (fun _ _ _ _ h hb=>by obtain⟨y,h1,h2⟩:=h;exact⟨y,h1,h2.below hb⟩) (fun _ _ _ _ _ _ h _=>by obtain⟨q,hq,_⟩:=h;exact absurd hq (Nat.not_lt_zero _)) (by rfl) (fun T xs wr hA=>?_) ?_
 ·have hsw:=(hA.be 0 (Nat.zero_le _) (fun _ _=>Nat.zero_le _)).size;have e24:=hA.tm 6 24 (by rfl) (by rfl);have f24:xs 6=_:=hA.fa 6 (by rfl);(try simp (disch:=first | rfl | decide) only [R7.mask_in] at f24);rw[f24] at e24;clear f24;have e28:=hA.tm 10 28 (by rfl) (by rfl);have f28:xs 10=_:=hA.fa 10 (by rfl);(try simp (disch:=first | rfl | decide) only [R7.mask_in] at f28);rw[f28] at e28;clear f28;have hbw:=undrew (hA.be x2.heap.size (Nat.le_refl _) (fun q h=>absurd h (Nat.not_lt_zero q)));have hfq:=HFQ.out.below hbw;clear hA;refine⟨(by rfl),fun K hK=>?_⟩;go_simp;refine (IN _ _ env q S _ (HPK.out q (by simp)) hfq (HE.out.below hbw) HRQ.out HQ.out HSQ.out).mono ?_;rintro e w' ⟨y,rfl,hy,hb'⟩;exact hK.out _ _ ⟨y,rfl,hy⟩ hb'
 refine R7.Chain.call (fun xs v w=>v=.int .i64 (sgnZ (asI (ev (rho env) p) - asI (ev (rho env) q)))) (fun _ _ _ _ h _=>h) (fun _ _ _ _ _ h _ _=>h) (by rfl) (fun T xs wr hA=>?_) ?_
 ·have hsw:=(hA.be 0 (Nat.zero_le _) (fun _ _=>Nat.zero_le _)).size;have e23:=hA.tm 5 23 (by rfl) (by rfl);have e29:=hA.tm 11 29 (by rfl) (by rfl);have hF5:∃ y,(xs 5)=y/\CI wr y (asI (ev (rho env) p)) 600:=hA.fa 5 (by rfl);obtain⟨y5,e5,hy5⟩:=hF5;have hF11:∃ y,(xs 11)=y/\CI wr y (asI (ev (rho env) q)) 600:=hA.fa 11 (by rfl);obtain⟨y11,e11,hy11⟩:=hF11;clear hA;refine⟨(by rfl),fun K hK=>?_⟩;go_simp;refine (wcmp_any _ _ (asI (ev (rho env) p)) (asI (ev (rho env) q)) 600 600 _ (by first | exact hy5.gi | (rw[e5];exact hy5.gi)) (by first | exact hy11.gi | (rw[e11];exact hy11.gi)) (by decide) (by decide)).mono ?_;rintro e w' ⟨rfl,hb'⟩;exact hK.out _ _ rfl hb'
 refine R7.Chain.det ?_ (by rfl) (fun T xs wr hA=>?_) ?_;rotate_left 1
 ·have e30:=hA.tm 12 30 (by rfl) (by rfl);have f30:xs 12=(.int .i64 (sgnZ (asI (ev (rho env) p) - asI (ev (rho env) q)))):=hA.fa 12 (by rfl);rw[f30] at e30;clear f30;clear hA;refine⟨(by rfl),?_⟩;go_simp<;>(try with_reducible rfl)
 refine R7.Chain.det ?_ (by rfl) (fun T xs wr hA=>?_) ?_;rotate_left 1
 ·have e31:=hA.tm 13 31 (by rfl) (by rfl);have f31:xs 13=_:=hA.fa 13 (by rfl);(try simp (disch:=first | rfl | decide) only [R7.mask_in] at f31);rw[f31] at e31;clear f31;clear hA;refine⟨(by rfl),?_⟩;go_simp<;>(try with_reducible rfl)
 refine R7.Chain.done (fun xs x3 hL=>?_);obtain⟨⟨hbe,hbl⟩,hf,-,-⟩:=hL;have f0:xs 0=_:=hf 0 (by decide);(try simp (disch:=first | rfl | decide) only [R7.mask_in] at f0);have f1:xs 1=_:=hf 1 (by decide);(try simp (disch:=first | rfl | decide) only [R7.mask_in] at f1);have f2:xs 2=_:=hf 2 (by decide);(try simp (disch:=first | rfl | decide) only [R7.mask_in] at f2);have f3:xs 3=_:=hf 3 (by decide);(try simp (disch:=first | rfl | decide) only [R7.mask_in] at f3);have f4:xs 4=_:=hf 4 (by decide);(try simp (disch:=first | rfl | decide) only [R7.mask_in] at f4);have F5:∃ y,(xs 5)=y/\CI x3 y (asI (ev (rho env) p)) 600:=hf 5 (by decide);have f6:xs 6=_:=hf 6 (by decide);(try simp (disch:=first | rfl | decide) only [R7.mask_in] at f6);have f7:xs 7=_:=hf 7 (by decide)
 (try simp (disch:=first | rfl | decide) only [R7.mask_in] at f7);have f8:xs 8=_:=hf 8 (by decide);(try simp (disch:=first | rfl | decide) only [R7.mask_in] at f8);have f9:xs 9=_:=hf 9 (by decide);(try simp (disch:=first | rfl | decide) only [R7.mask_in] at f9);have f10:xs 10=_:=hf 10 (by decide);(try simp (disch:=first | rfl | decide) only [R7.mask_in] at f10);have F11:∃ y,(xs 11)=y/\CI x3 y (asI (ev (rho env) q)) 600:=hf 11 (by decide);have f12:xs 12=(.int .i64 (sgnZ (asI (ev (rho env) p) - asI (ev (rho env) q)))):=hf 12 (by decide);have f13:xs 13=_:=hf 13 (by decide);(try simp (disch:=first | rfl | decide) only [R7.mask_in] at f13);have f14:xs 14=_:=hf 14 (by decide);(try simp (disch:=first | rfl | decide) only [R7.mask_in] at f14)
 have hb0:Below 0 x2 x3:=undrew (hbe 0 (Nat.zero_le _) (fun _ _=>Nat.zero_le _));have hgr:∀ j,j<x2.heap.size->(∀ q,q<0->(fun q=>0) q≠j)->x3.heap[j]?=x2.heap[j]?:=hbl;clear hbe hbl hf;have hb:Below x2.heap.size x2 x3:=⟨hb0.os,hb0.tape,hb0.output,hb0.size,fun q hq=>hgr q hq (fun q h=>absurd h (Nat.not_lt_zero _))⟩;refine R7.rest_done ?_;simp only[R7.fill,t5_,t6_,t7_,f0,f1,f2,f3,f4,f6,f7,f8,f9,f10,f12,f13,f14];clear hb0 hgr hog hlt_e hlt_f f0 f1 f2 f3 f4 f6 f7 f8 f9 f10 f12 f13 f14;replace HW:=Lib.hid (HW.out.trans (hb.mono HW.out.size));replace hb:=Lib.hid hb;go_wp2_with fail;go_ret;refine⟨?_,HW.out⟩;have hle:decide (sgnZ (asI (ev (rho env) p) - asI (ev (rho env) q))<=0)=decide (asI (ev (rho env) p)<=asI (ev (rho env) q)):=by
  unfold sgnZ;congr 1;apply propext;(repeat' split)<;>constructor<;>intro h<;>first | omega | (exfalso;omega)
 rw[HEV.out];show Ending.returned _=Ending.returned (.bool (decide (asI (ev (rho env) p)<=asI (ev (rho env) q))))
 rw[<-hle];rfl
theorem val_a (d:Nat) (IT:TruP isT15 d):ValP isT15 d:=by
 intro ve v env t S w hP h he hr hsm;obtain⟨eo,en,ec,rfl⟩:=he.shape;have hs:srt t.op=1:=by rw[hP.1];rfl
 have HPK:=Lib.hid hP;clear hP;have HS:=Lib.hid hs;clear hs;have HT:=Lib.hid h;obtain⟨b,ao,l,c,ko,kl,kc,rfl,-,-,-⟩:=h.open;obtain⟨o,hoo⟩:∃ o,o=t.op:=⟨_,rfl⟩;obtain⟨nm,hnm⟩:∃ o,o=t.name:=⟨_,rfl⟩;rw[<-hoo] at HT ⊢;rw[<-hnm] at HT ⊢;have HOO:=Lib.hid hoo;have HE:=Lib.hid he;have HR:=Lib.hid hr;have HSM:=Lib.hid hsm;clear h he hr hsm hoo hnm;have HW:=Lib.hid (Below.refl w.heap.size w);go_enter Tryz.func114,Tryz.ntmps114;obtain⟨x1,kf,ef,ekf,hbf,hkf,HBf⟩:=newV w #[.int .i64 o,.bool b,.slice ao l c,.string nm,.slice ko kl kc] 29;replace HT:=Lib.hid (HT.out.below hbf.out);replace HE:=Lib.hid (HE.out.below hbf.out);replace HW:=Lib.hid (HW.out.trans (hbf.out.mono HW.out.size))
 obtain⟨x2,kr,er,ekr,hbr,hkr,HBr⟩:=newV x1 #[.int .i64 0,.bool false,.slice none 0 0,.bool false,.slice none 0 0] 41;replace HBf:=kBV hbr.out HBf;replace HT:=Lib.hid (HT.out.below hbr.out);replace HE:=Lib.hid (HE.out.below hbr.out);replace HW:=Lib.hid (HW.out.trans (hbr.out.mono HW.out.size));have HKr:Hid (w.heap.size<=kr):=Lib.hid (Nat.le_trans hbf.out.size hkr.out);obtain⟨⟨c0,c1,c2,c3,c4⟩,fc0,fc1,fc2,fc3,fc4⟩:=cells5V HBf.out;go_wp2_with fail;refine (sort_p o b ao l c nm ko kl kc x2).mono ?_;rintro e x3 ⟨rfl,hb⟩;clear c0 fc0 c1 fc1 c2 fc2 c3 fc3 c4 fc4;replace HBf:=kBV hb HBf;replace HBr:=kBV hb HBr;replace HT:=Lib.hid (HT.out.below hb);replace HE:=Lib.hid (HE.out.below hb);replace HW:=Lib.hid (HW.out.trans (hb.mono HW.out.size));rw[show srt o=1 from (by rw[HOO.out];exact HS.out)]
 obtain⟨⟨c0,c1,c2,c3,c4⟩,fc0,fc1,fc2,fc3,fc4⟩:=cells5V HBf.out;go_wp2_with fail;refine (IT _ _ env t S x3 HPK.out HT.out HE.out HR.out HS.out HSM.out).mono ?_;rintro e x4 ⟨rfl,hb⟩;clear c0 fc0 c1 fc1 c2 fc2 c3 fc3 c4 fc4;replace HBr:=kBV hb HBr;replace HW:=Lib.hid (HW.out.trans (hb.mono HW.out.size));go_wp2_with fail;refine (ofBool_p _ x4).mono ?_;rintro e x5 ⟨v,rfl,hv,hb⟩;replace HBr:=kBV hb HBr;replace HW:=Lib.hid (HW.out.trans (hb.mono HW.out.size));have hv1:=hv.bool;subst hv1;have HV:=Lib.hid hv;clear hv;obtain⟨⟨r0,r1,r2,r3,r4⟩,fr0,fr1,fr2,fr3,fr4⟩:=cells5V HBr.out;go_wp2_with fail;obtain⟨s1,s2⟩:=res5V HW.out HBr.out n32_5 HKr.out (.int .i64 1) (.bool false) (.slice none 0 0) (.bool (asB (ev (rho env) t))) (.slice none 0 0);(try simp only[Exit.inBlock,Exit.then])
 exact bodyPost_ret (v:=.agg #[.int .i64 1,.bool false,.slice none 0 0,.bool (asB (ev (rho env) t)),.slice none 0 0]) (by simp[results,Tryz.results114,go_sem,r0,r1,r2,r3,r4]) rfl ⟨_,rfl,(show VC _ _ (ev (rho env) t) from by rw[ev_bool HS.out];exact HV.out).fr (by decide) s1,s2⟩
theorem eval_a (d:Nat) (ve v:Value) (env:List (ByteArray × V)) (t:F) (S:Nat->Prop) (w:World) (hP:isT15 t) (IV:ValP isT15 d) (h:FC w S d v t) (he:EL w ve env) (hr:rt t=true) (hsm:Sm (rho env) t) :
  Calls Tryz.prog 66 #[v,ve] w fun e w'=>∃ x,e=.returned x/\VC w' x (ev (rho env) t)/\Below w.heap.size w w':=by
 obtain⟨eo,en,ec,rfl⟩:=he.shape;have HT:=Lib.hid h;obtain⟨b,ao,l,c,ko,kl,kc,rfl,-,-,-⟩:=h.open;obtain⟨o,hoo⟩:∃ o,o=t.op:=⟨_,rfl⟩;obtain⟨nm,hnm⟩:∃ o,o=t.name:=⟨_,rfl⟩;rw[<-hoo] at HT ⊢;rw[<-hnm] at HT ⊢;have HE:=Lib.hid he;have HR:=Lib.hid hr;have HSM:=Lib.hid hsm;clear h he hr hsm hoo hnm;have HW:=Lib.hid (Below.refl w.heap.size w);go_enter Tryz.func66,Tryz.ntmps66;obtain⟨x1,kf,ef,ekf,hbf,hkf,HBf⟩:=newV w #[.int .i64 o,.bool b,.slice ao l c,.string nm,.slice ko kl kc] 29;replace HT:=Lib.hid (HT.out.below hbf.out);replace HE:=Lib.hid (HE.out.below hbf.out);replace HW:=Lib.hid (HW.out.trans (hbf.out.mono HW.out.size));obtain⟨x2,kr,er,ekr,hbr,hkr,HBr⟩:=newV x1 #[.int .i64 0,.bool false,.slice none 0 0,.bool false,.slice none 0 0] 41;replace HBf:=kBV hbr.out HBf
 replace HT:=Lib.hid (HT.out.below hbr.out);replace HE:=Lib.hid (HE.out.below hbr.out);replace HW:=Lib.hid (HW.out.trans (hbr.out.mono HW.out.size));have HKr:Hid (w.heap.size<=kr):=Lib.hid (Nat.le_trans hbf.out.size hkr.out);obtain⟨⟨c0,c1,c2,c3,c4⟩,fc0,fc1,fc2,fc3,fc4⟩:=cells5V HBf.out;go_wp2_with fail;refine (right_p d _ t S x2 HT.out).mono ?_;rintro e x3 ⟨rfl,hb⟩;clear c0 fc0 c1 fc1 c2 fc2 c3 fc3 c4 fc4;replace HBf:=kBV hb HBf;replace HBr:=kBV hb HBr;replace HT:=Lib.hid (HT.out.below hb);replace HE:=Lib.hid (HE.out.below hb);replace HW:=Lib.hid (HW.out.trans (hb.mono HW.out.size));rw[HR.out];obtain⟨⟨c0,c1,c2,c3,c4⟩,fc0,fc1,fc2,fc3,fc4⟩:=cells5V HBf.out;go_wp2_with fail;refine (IV _ _ env t S x3 hP HT.out HE.out HR.out HSM.out).mono ?_;rintro e x4 ⟨x,rfl,hx,hb⟩
 clear c0 fc0 c1 fc1 c2 fc2 c3 fc3 c4 fc4;replace HBr:=kBV hb HBr;replace HW:=Lib.hid (HW.out.trans (hb.mono HW.out.size));obtain⟨k1,b1,o1,l1,c1,p1,m1,q1,rfl⟩:=hx.shape;have HV:=Lib.hid hx;clear hx;obtain⟨⟨r0,r1,r2,r3,r4⟩,fr0,fr1,fr2,fr3,fr4⟩:=cells5V HBr.out;go_wp2_with fail;obtain⟨s1,s2⟩:=res5V HW.out HBr.out n32_5 HKr.out (.int .i64 k1) (.bool b1) (.slice o1 l1 c1) (.bool (asB (ev (rho env) t))) (.slice p1 m1 q1);(try simp only[Exit.inBlock,Exit.then]);exact bodyPost_ret (v:=.agg #[.int .i64 k1,.bool b1,.slice o1 l1 c1,.bool (asB (ev (rho env) t)),.slice p1 m1 q1]) (by simp[results,Tryz.results66,go_sem,r0,r1,r2,r3,r4]) rfl ⟨_,rfl,(HV.out).fr (by decide) s1,s2⟩
theorem holds_a (d:Nat) (ve v:Value) (env:List (ByteArray × V)) (t:F) (S:Nat->Prop) (w:World) (hP:isT15 t) (IV:ValP isT15 d) (h:FC w S d v t) (he:EL w ve env) (hr:rt t=true) (hsm:Sm (rho env) t) :
  Calls Tryz.prog 18 #[v,ve] w fun e w'=>e=.returned (.bool (asB (ev (rho env) t)))/\Below w.heap.size w w':=by
 obtain⟨eo,en,ec,rfl⟩:=he.shape;have HT:=Lib.hid h;obtain⟨b,ao,l,c,ko,kl,kc,rfl,-,-,-⟩:=h.open;obtain⟨o,hoo⟩:∃ o,o=t.op:=⟨_,rfl⟩;obtain⟨nm,hnm⟩:∃ o,o=t.name:=⟨_,rfl⟩;rw[<-hoo] at HT ⊢;rw[<-hnm] at HT ⊢;have HE:=Lib.hid he;have HR:=Lib.hid hr;have HSM:=Lib.hid hsm;clear h he hr hsm hoo hnm;have HW:=Lib.hid (Below.refl w.heap.size w);go_enter Tryz.func18,Tryz.ntmps18;obtain⟨x1,kf,ef,ekf,hbf,hkf,HBf⟩:=newV w #[.int .i64 o,.bool b,.slice ao l c,.string nm,.slice ko kl kc] 29;replace HT:=Lib.hid (HT.out.below hbf.out);replace HE:=Lib.hid (HE.out.below hbf.out);replace HW:=Lib.hid (HW.out.trans (hbf.out.mono HW.out.size));obtain⟨⟨c0,c1,c2,c3,c4⟩,fc0,fc1,fc2,fc3,fc4⟩:=cells5V HBf.out;go_wp2_with fail
 refine (eval_a d _ _ env t S x1 hP IV HT.out HE.out HR.out HSM.out).mono ?_;rintro e x2 ⟨x,rfl,hx,hb⟩;clear c0 fc0 c1 fc1 c2 fc2 c3 fc3 c4 fc4;replace HW:=Lib.hid (HW.out.trans (hb.mono HW.out.size));obtain⟨k1,b1,o1,l1,c1,p1,m1,q1,rfl⟩:=hx.shape;clear hx;go_wp2_with fail;go_ret;exact⟨rfl,HW.out⟩
theorem holds_fit (v:Value) (S:Nat->Prop) (w:World) (h:FC w S 9 v (leF (nF 0) (lenF lvF))) (he:EL w (.slice none 0 0) []) (hsm:Sm (rho []) (leF (nF 0) (lenF lvF))) :
  Calls Tryz.prog 18 #[v,.slice none 0 0] w fun e w'=>e=.returned (.bool true)/\Below w.heap.size w w':=by
 have P:isT15 (leF (nF 0) (lenF lvF)):=⟨rfl,fun k hk=>by
  have hk2:k=nF 0\/k=lenF lvF:=by simpa [leF,fo,F.kids] using hk
  rcases hk2 with rfl | rfl
  ·exact .inl rfl
  exact .inr ⟨rfl,fun q hq=>by
   have hq2:q=lvF:=by simpa [lenF,fo,F.kids] using hq
   rw[hq2];rfl⟩⟩
 exact holds_a 9 _ _ [] _ S w P (val_a 9 (tru_a 8 (num_a 7 (lst_a 6)))) h he rfl hsm
attribute [local go_sem] fieldV0 fieldV1 fieldV2 fieldV3
theorem sm_fit:Sm (rho []) (leF (nF 0) (lenF lvF)):=by
 have z:SmV (.I 0):=BE.sm (BE.zero 4 6) (by decide) (by decide);have z0:SmV (.L []):=BE.sm (v:=.L []) (e:=4) (n:=6) ⟨Nat.zero_le _,fun z hz=>by cases hz⟩ (by decide) (by decide);exact⟨trivial,⟨z,trivial⟩,⟨z,⟨z0,trivial⟩,trivial⟩,trivial⟩
theorem add_zeroB (a:Addr):a.add 0=a:=by
 obtain⟨b,o,s⟩:=a
 cases s<;>rfl
theorem gd_fit:∀ y ∈ ofF (lenF lvF),Gd y:=by
 have L1:rt lvF=true/\Tg 1 lvF:=⟨rfl,lv_gd.2.2.2.2.2 lvF (by simp[lenF,fo,F.kids])⟩;have h2:∀ k ∈ [lenF lvF],Tg 2 k:=fun k hk=>by rw[List.mem_singleton] at hk;rw[hk];exact lv_gd.2
 have fo_g:∀ {e:Nat} {o:Int} {ks:List F},¬ (o=1\/o=8\/o=14)->ks.length<=8->(∀ k ∈ ks,Tg e k)->Tg (e+1) (fo o ks):=fun ho hl hk =>
  ⟨by unfold NmG;rw[if_neg (show ¬ ((fo _ _).op=1\/(fo _ _).op=8\/(fo _ _).op=14) from ho)];rfl,z4,fun _ _ _=>rfl,hl,hk⟩
 have Z:Tg 1 (nF 0):=(qn (d:=5) (e:=1) n04 (by omega)).2.g;have LE:Tg 3 (leF (nF 0) (lenF lvF)):=fo_g (by decide) (by simp) (m2 (Z.up (by decide)) lv_gd.2);have LE':Tg 3 (leF (lenF lvF) (nF 0)):=fo_g (by decide) (by simp) (m2 lv_gd.2 (Z.up (by decide)));have NT:Tg 4 (notF (leF (lenF lvF) (nF 0))):=fo_g (by decide) (by simp) (m1 LE');have NI:Tg 1 nilF:=fo_g (e:=0) (by decide) (by simp) (fun k hk=>by cases hk);have EQ:Tg 2 (eqfF lvF nilF):=fo_g (by decide) (by simp) (m2 L1.2 NI);have LN:Tg 2 (lenF nilF):=fo_g (by decide) (by simp) (m1 NI);intro y hy;rw[of_fit] at hy;simp only[List.mem_cons,List.not_mem_nil,or_false] at hy;rcases hy with rfl | rfl | rfl | rfl
 ·exact⟨rfl,LE.up (by decide)⟩
 ·exact⟨rfl,Tg.up (fo_g (by decide) (by simp) (m2 NT (EQ.up (by decide))):Tg 5 (emptF lvF)) (by decide)⟩
 ·exact⟨rfl,Tg.up (fo_g (by decide) (by simp) (m2 (Z.up (by decide)) LN):Tg 3 (leF (nF 0) (lenF nilF))) (by decide)⟩
 exact⟨rfl,Tg.up (fo_g (by decide) (by simp) (m2 LN (Z.up (by decide))):Tg 3 (eqfF (lenF nilF) (nF 0))) (by decide)⟩
theorem fit11_p (w:World) (ht:TxT w):Calls Tryz.prog 20 #[] w fun e w'=>e=.returned (.bool true)/\Below w.heap.size w w':=by
 have HT:=Lib.hid ht;clear ht;have HW:=Lib.hid (Below.refl w.heap.size w);go_enter Tryz.func20,Tryz.ntmps20;obtain⟨x1,kl,el,ekl,hbl,hkl,HBl⟩:=newV w #[.int .i64 8,.bool false,.slice none 0 0,.string ⟨#[108]⟩,.slice none 0 0] 29;replace HW:=Lib.hid (HW.out.trans (hbl.out.mono HW.out.size));replace HT:=Lib.hid (HT.out.below hbl.out);have HFC:Hid (FC x1 tS 2 (.agg #[.int .i64 6,.bool false,.slice none 0 0,.string ⟨#[]⟩,.slice (some ⟨kl,0,none⟩) 1 1]) (lenF lvF)):=Lib.hid (FC.mk (op:=6) (nm:=⟨#[]⟩) ⟨by decide,by decide⟩ (ci0 x1) (FL.one HBl.out trivial (FC.mk (op:=8) (nm:=⟨#[108]⟩) ⟨by decide,by decide⟩ (ci0 x1) (FL.nil x1 tS 0))));go_wp2_with fail;refine (ofAll_p 2 _ (lenF lvF) x1 HFC.out (by decide) lv_gd.1 lv_gd.2 (by decide) gd_fit HT.out).mono ?_;rintro e x2 ⟨v,rfl,hfl,hb⟩
 replace HW:=Lib.hid (HW.out.trans (hb.mono HW.out.size));rw[of_fit] at hfl;obtain⟨ko,kc,rfl,hc1,hc2,-⟩:=hfl.form;have hcm:kc<=9223372036854775807:=hc2;obtain⟨a,b,ao,l,c,po,pl,pc,rfl,⟨c0,c1,c2,c3,c4⟩,hf0⟩:=hfl.cells 0 (by decide);have HF0:Hid (FC x2 tS 9 (.agg #[.int .i64 15,.bool b,.slice ao l c,.string ⟨#[]⟩,.slice po pl pc]) (leF (nF 0) (lenF lvF))):=Lib.hid hf0;clear hf0 hc2;have ea:a.add (0*5)=a:=add_zeroB a;rw[ea] at c0 c1 c2 c3 c4;replace c0:x2.cell? a=some (.int .i64 15):=c0;replace c3:x2.cell? ⟨a.block,a.off+3,none⟩=some (.string ⟨#[]⟩):=c3;clear ea;have HEL:Hid (EL x2 (.slice none 0 0) []):=Lib.hid ⟨[],El.At.nil x2,rfl⟩;go_wp2_with fail;refine (holds_fit _ tS x2 HF0.out HEL.out sm_fit).mono ?_;rintro e x3 ⟨rfl,hb⟩;rw[<-hb.cell (cell_lt c0)] at c0
 replace HW:=Lib.hid (HW.out.trans (hb.mono HW.out.size));clear hb;go_wp2_with fail;go_ret;exact⟨rfl,HW.out⟩
attribute [local go_sem] fieldV0 fieldV1 fieldV2 fieldV3
mutual
def prtF:F->List F
 | .node o z nm ks=>.node o z nm ks::prtsF ks
def prtsF:List F->List F
 | []=>[]
 | k::l=>prtF k++prtsF l
end
theorem prt_self (t:F):t ∈ prtF t:=by obtain⟨o,z,nm,ks⟩:=t;rw[prtF];simp
theorem prts_mem {x:F}:∀ {l:List F},x ∈ prtsF l ↔ ∃ k ∈ l,x ∈ prtF k
 | []=>by rw[prtsF];simp
 | k::l=>by
  rw[prtsF,List.mem_append,prts_mem (l:=l)]
  simp
theorem prt_mem {t x:F}:x ∈ prtF t ↔ x=t\/∃ k ∈ t.kids,x ∈ prtF k:=by
 obtain⟨o,z,nm,ks⟩:=t;rw[prtF,List.mem_cons,prts_mem];rfl
mutual
theorem AllF.prt {P:F->Prop}:∀ {t:F},AllF P t->∀ x ∈ prtF t,P x
 | .node o z nm ks,h,x,hx=>by
  rw[AllF] at h;rw[prtF] at hx;rcases List.mem_cons.1 hx with rfl | hx
  ·exact h.1
  exact AllFs.prt h.2 x hx
theorem AllFs.prt {P:F->Prop}:∀ {l:List F},AllFs P l->∀ x ∈ prtsF l,P x
 | [],_,x,hx=>by rw[prtsF] at hx;cases hx
 | k::l,h,x,hx=>by
  rw[AllFs] at h;rw[prtsF] at hx;rcases List.mem_append.1 hx with hx | hx
  ·exact AllF.prt h.1 x hx
  exact AllFs.prt h.2 x hx
end
mutual
theorem allF_prt {P:F->Prop}:∀ {t:F},(∀ x ∈ prtF t,P x)->AllF P t
 | .node o z nm ks,h=>by
  rw[AllF];exact⟨h _ (by rw[prtF];simp),allFs_prt fun x hx=>h x (by rw[prtF];simp[hx])⟩
theorem allFs_prt {P:F->Prop}:∀ {l:List F},(∀ x ∈ prtsF l,P x)->AllFs P l
 | [],_=>by rw[AllFs];trivial
 | k::l,h=>by
  rw[AllFs];exact⟨allF_prt fun x hx=>h x (by rw[prtsF];simp[hx]),allFs_prt fun x hx=>h x (by rw[prtsF];simp[hx])⟩
end
theorem clo_prt {S:List F} (h:CloF S) {t:F} (ht:t ∈ S):∀ x ∈ prtF t,x ∈ S:=(allF_clo h t ht).prt
theorem vis_mono {s:List F} {t x:F} (h:x ∈ s):x ∈ vis s t:=by
 obtain⟨m,e⟩:=vis_ext s t;rw[e];exact List.mem_append_left _ h
theorem viss_mono {s l:List F} {x:F} (h:x ∈ s):x ∈ viss s l:=by
 obtain⟨m,e⟩:=viss_ext s l;rw[e];exact List.mem_append_left _ h
mutual
theorem vis_kids:∀ (t:F) (s:List F),(∀ u ∈ vis s t,u ∉ s->∀ c ∈ u.kids,c ∈ vis s t)/\t ∈ vis s t
 | .node o z nm ks,s=>by
  rw[vis]
  split
  ·rename_i h
   exact⟨fun u hu hn=>absurd hu hn,h⟩
  rename_i h
  obtain⟨h1,h2⟩:=viss_kids ks (s++[.node o z nm ks]);refine⟨fun u hu hn c hc=>?_,viss_mono (by simp)⟩
  by_cases e:u=.node o z nm ks
  ·subst e;exact h2 c hc
  exact h1 u hu (by simp[hn,e]) c hc
theorem viss_kids:∀ (l:List F) (s:List F),(∀ u ∈ viss s l,u ∉ s->∀ c ∈ u.kids,c ∈ viss s l)/\∀ k ∈ l,k ∈ viss s l
 | [],s=>by
  rw[viss];exact⟨fun u hu hn=>absurd hu hn,fun k hk=>by cases hk⟩
 | k::l,s=>by
  rw[viss];obtain⟨h1,h2⟩:=vis_kids k s;obtain⟨h3,h4⟩:=viss_kids l (vis s k);refine⟨fun u hu hn c hc=>?_,fun q hq=>?_⟩
  ·by_cases e:u ∈ vis s k
   ·exact viss_mono (h1 u e hn c hc)
   exact h3 u hu e c hc
  rcases List.mem_cons.1 hq with rfl | hq
  ·exact viss_mono h2
  exact h4 q hq
end
theorem vis_clo {s:List F} (h:CloF s) (t:F):CloF (vis s t):=fun u hu c hc=>by
 by_cases e:u ∈ s
 ·exact vis_mono (h u e c hc)
 exact (vis_kids t s).1 u hu e c hc
theorem vis_out (s:List F) (t:F):∀ x ∈ vis s t,x ∈ s\/x ∈ prtF t:=
 (vis_all (P:=fun x=>x ∈ s\/x ∈ prtF t) t s (fun x hx=>.inl hx) (allF_prt fun x hx=>.inr hx)).1
theorem viss_out (s l:List F):∀ x ∈ viss s l,x ∈ s\/x ∈ prtsF l:=
 (viss_all (P:=fun x=>x ∈ s\/x ∈ prtsF l) l s (fun x hx=>.inl hx) (allFs_prt fun x hx=>.inr hx)).1
theorem clo_nil:CloF []:=fun t h=>by cases h
theorem vis_mem {t x:F}:x ∈ vis [] t ↔ x ∈ prtF t:=by
 constructor
 ·intro h;rcases vis_out [] t x h with h | h
  ·cases h
  exact h
 intro h;exact clo_prt (vis_clo clo_nil t) (vis_kids t []).2 x h
theorem lenT_9:lenT 9<=900000:=by decide
theorem tx_len9 {t:F} (h:Tm 9 t):(txF t).length<=900000:=Nat.le_trans (tx_len 9 t h) lenT_9
open Classical in
theorem tx_dec {a b:F} (ha:rt a=true/\Tm 9 a) (hb:rt b=true/\Tm 9 b):(txF a==txF b)=decide (a=b):=by
 by_cases e:a=b
 ·subst e;simp
 rw[decide_eq_false e];exact beq_eq_false_iff_ne.2 fun h=>e (textG_inj ha.2.g hb.2.g ha.1 hb.1 h)
section
variable {S:Nat->Prop} {W0:World} {t0:Array Value} {n:Nat} {sl:Nat->Nat} {fd:Nat->LD} {d:Nat->Bool} {T:Array Value} {w w':World} {ds:List Deferred} {Q:Exit->Act->World->Prop} {o:Oper}
theorem JL.eqE (h:JL S W0 t0 n sl fd d T w) (j:Nat) (hj:j<n) (hd:d j=true) {v:Value} (hf:fd j=.eqv v):T[sl j]?=some v:=by
 obtain⟨x,e,hx⟩:=h.val j hj hd;rw[hf] at hx;have hx2:x=v:=hx;rw[e,hx2]
theorem JL.opIt (h:JL S W0 t0 n sl fd d T w) (hs:SlOk n sl t0.size) (i:Nat) (hi:i<n) (hd:d i=false) (j k:Nat) (hj:j<n) (hk:k<n) (hdj:d j=true) (hdk:d k=true) {r a b q L c:Nat} {p:Addr} {ty:TypeId} {ps:String} {ed:Array Edge} (hq:q<L) (hL:L<=9223372036854775807) (hsl:sl i=r) (hsj:sl j=a) (hsk:sl k=b) (hfj:fd j=.eqv (.slice (some p) L c)) (hfk:fd k=.eqv (.int .i64 (q:Nat))) (hf:fd i=.eqv (.pointer (some (p.add (q*5))))) :
  Opd S W0 t0 n sl fd d T w ds Q i ⟨some r,.indexAddr 27 (.tmp a) (.tmp b),ty,ps,ed,none⟩:=by
 have e:=h.eqE j hj hdj hfj;have e2:=h.eqE k hk hdk hfk;rw[hsj] at e;rw[hsk] at e2;refine⟨rfl,fun K hK=>?_⟩;have h9:=hK.out _ _ (h.step hs i hi hd (.pointer (some (p.add (q*5)))) (Below.refl _ _) (by rw[hf];rfl) (by rw[hf];intro h;cases h));clear hK;rw[hsl] at h9;go_simp
 exact h9
theorem JL.opLf (h:JL S W0 t0 n sl fd d T w) (hs:SlOk n sl t0.size) (i:Nat) (hi:i<n) (hd:d i=false) (j:Nat) (hj:j<n) (hdj:d j=true) {r a q L c d0:Nat} {p:Addr} {ts:List F} {t:F} {ty:TypeId} {ps:String} {ed:Array Edge} (hv:FL W0 S d0 (.slice (some p) L c) ts) (hq:q<ts.length) (ht:ts[q]=t) (hsl:sl i=r) (hsj:sl j=a) (hfj:fd j=.eqv (.pointer (some (p.add (q*5))))) (hf:fd i=.fx t) :
  Opd S W0 t0 n sl fd d T w ds Q i ⟨some r,.load 29 (.tmp a),ty,ps,ed,none⟩:=by
 have e:=h.eqE j hj hdj hfj;rw[hsj] at e;have hfl:FL w (Vx S n sl fd d T) d0 (.slice (some p) L c) ts:=((hv.ltF).mono fun b hb=>h.out hb.1 (.inr hb.2)).below h.be;have hLn:L=ts.length:=by obtain⟨_,_,e,_⟩:=hfl.form;injection e
 subst hLn;obtain⟨a2,b,o,l,c9,po,pl,pc,e2,⟨c0,c1,c2,c3,c4⟩,hc⟩:=hfl.cells q hq;injection e2 with e2;subst e2;rw[ht] at c0 c3 hc;refine⟨rfl,fun K hK=>?_⟩;have h9:=hK.out _ _ (h.step hs i hi hd (.agg #[.int .i64 t.op,.bool b,.slice o l c9,.string t.name,.slice po pl pc]) (Below.refl _ _) (by rw[hf];exact⟨d0,hc⟩) (by rw[hf];intro h;cases h));clear hK ht;rw[hsl] at h9;go_simp;exact h9
theorem JL.opTx (h:JL S W0 t0 n sl fd d T w) (hs:SlOk n sl t0.size) (i:Nat) (hi:i<n) (hd:d i=false) (j:Nat) (hj:j<n) (hdj:d j=true) {r a:Nat} {t:F} {ty:TypeId} {at_:Array TypeId} {ps:String} {ed:Array Edge} (hr:rt t=true) (hm:Tm 9 t) (hT:TxT W0) (hsl:sl i=r) (hsj:sl j=a) (hfj:fd j=.fx t) (hf:fd i=.eqv (.string ⟨(txF t).toArray⟩)) :
  Opd S W0 t0 n sl fd d T w ds Q i ⟨some r,.call { callee:=.value (.func 19),args:=#[.tmp a],argTypes:=at_ },ty,ps,ed,none⟩:=by
 obtain⟨u,e,d0,hu⟩:=h.get j hj hdj hfj;rw[hsj] at e;have hc:FC w (Vx S n sl fd d T) 9 (fV u) t:=FC.tight ⟨u,rfl,hu⟩ hm.g;refine h.call hs hi hd rfl (by rw[hsl]) 19 #[fV u] ?_ ((textG_p 9 _ t _ w hc hr hm.g (tx_len9 hm) (hT.below h.be)).mono ?_) (by rw[hf];intro h;cases h)
 ·unfold execOp;simp[Act.eval,Frame.eval,resolve,invoke,Deferred.ofValue,e,go_sem]
 rintro e w' ⟨rfl,hb⟩;exact⟨_,rfl,by rw[hf];rfl,hb⟩
end
open Classical in
theorem texts_p (va vb:Value) (ts ss:List F) (S:Nat->Prop) (da db:Nat) (w:World) (ha:FL w S da va ts) (hb:FL w S db vb ss) (hga:∀ y ∈ ts,rt y=true/\Tm 9 y) (hgb:∀ y ∈ ss,rt y=true/\Tm 9 y) (ht:TxT w) :
  Calls Tryz.prog 25 #[va,vb] w fun e w'=>e=.returned (.bool (decide (ts=ss)))/\Below w.heap.size w w':=by
 obtain⟨ao,ac,rfl,ha1,ha2,-⟩:=ha.form;obtain⟨bo,bc,rfl,hb1,hb2,-⟩:=hb.form;have ham:ac<=9223372036854775807:=ha2;have hbm:bc<=9223372036854775807:=hb2;obtain⟨n,hn⟩:∃ n,n=ts.length:=⟨_,rfl⟩;obtain⟨m,hm⟩:∃ n,n=ss.length:=⟨_,rfl⟩;rw[<-hn] at ha ha1 ⊢;rw[<-hm] at hb hb1 ⊢;have HN:=Lib.hid hn;have HM:=Lib.hid hm;have HA:=Lib.hid ha;have HB:=Lib.hid hb;have HGA:=Lib.hid hga;have HGB:=Lib.hid hgb;have HT:=Lib.hid ht;clear ha hb hga hgb ht hn hm ha2 hb2;by_cases hnm:n=m
 ·have e1:(((n:Nat):Int) != ((m:Nat):Int))=false:=by rw[hnm];simp
  have HNM:=Lib.hid hnm;clear hnm;go_enter Tryz.func25,Tryz.ntmps25;go_wp2_with fail;go_loopw [13] (fun iv wr=>∃ j:Nat,iv=.int .i64 (j:Nat)/\j<=n/\Hid (ts.take j=ss.take j)/\Hid (Below w.heap.size w wr)) (fun iv _=>n - (intOf iv).toNat)
  case atStart=>exact⟨0,rfl,Nat.zero_le _,Lib.hid rfl,Lib.hid (Below.refl _ _)⟩
  case round =>
   obtain⟨j,rfl,hj,HTK,HBE⟩:=hrel;by_cases hlt:j<n
   ·have hjt:j<ts.length:=by rw[<-HN.out];exact hlt
    have hjs:j<ss.length:=by rw[<-HM.out,<-HNM.out];exact hlt
    have HJM:Hid (j<m):=Lib.hid (by rw[<-HNM.out];exact hlt);have HAW:=Lib.hid (HA.out.below HBE.out);have HBW:=Lib.hid (HB.out.below HBE.out);have HTW:=Lib.hid (HT.out.below HBE.out);obtain⟨pa,-,-,-,-,-,-,-,hpa,-,-⟩:=HAW.out.cells j hjt;obtain⟨pb,-,-,-,-,-,-,-,hpb,-,-⟩:=HBW.out.cells j hjs;subst hpa;subst hpb;obtain⟨A,hA⟩:∃ x,x=ts[j]:=⟨_,rfl⟩;obtain⟨Z,hZ⟩:∃ x,x=ss[j]:=⟨_,rfl⟩;have HGJ:=Lib.hid (HGA.out A (by rw[hA];exact List.getElem_mem hjt));have HGZ:=Lib.hid (HGB.out Z (by rw[hZ];exact List.getElem_mem hjs));have HAJ:Hid (ts[j]=A):=Lib.hid hA.symm;have HZJ:Hid (ss[j]=Z):=Lib.hid hZ.symm;have HST:Hid (ts.take (j+1)=ts.take j++[A]/\ss.take (j+1)=ss.take j++[Z]):=Lib.hid ⟨by rw[hA];exact List.take_succ_eq_append_getElem hjt,by rw[hZ];exact List.take_succ_eq_append_getElem hjs⟩
    have HNE:Hid (A≠Z->ts≠ss):=Lib.hid (fun h e=>h (by rw[hA,hZ];simp only[e]));have HTX:Hid ((txF A==txF Z)=decide (A=Z)):=Lib.hid (tx_dec HGJ.out HGZ.out);clear hA hZ;go_upto_region 6 with fail;have HNE_:Hid (∀ i j,i<10->j<10->i≠j->(fun i=>i+16) i≠(fun i=>i+16) j):=Lib.hid (fun i j _ _ h e=>h (Nat.add_right_cancel e));have HL9:Hid (∀ i,i<10->(fun i=>i+16) i<26):=Lib.hid (fun i h=>by show i+16<26;omega)
    refine Rel9.region (by kernel_rfl) [[],[],[0,1],[0,1,2],[0,1,2,3],[],[],[5,6],[5,6,7],[0,1,2,3,4,5,6,7,8],[0,1,2,3,4,5,6,7,8,9]] 10 (by kernel_rfl) (by kernel_rfl) (JL S wr _ 10 (fun i=>i+16) (fun i=>[.eqv (.slice (some pa) n ac),.eqv (.int .i64 (j:Nat)),.eqv (.pointer (some (pa.add (j*5)))),.fx A,.eqv (.string ⟨(txF A).toArray⟩),.eqv (.slice (some pb) m bc),.eqv (.int .i64 (j:Nat)),.eqv (.pointer (some (pb.add (j*5)))),.fx Z,.eqv (.string ⟨(txF Z).toArray⟩)].getD i .any)) (JL.start _ _ _ _ _ _) ?_ ?_
    ·intro d T wc i o hJ ho hi hd hdep hcl;have hs:=hJ.slok HNE_.out HL9.out (of_decide_eq_true rfl);obtain rfl | rfl | rfl | rfl | rfl | rfl | rfl | rfl | rfl | rfl:i=0\/i=1\/i=2\/i=3\/i=4\/i=5\/i=6\/i=7\/i=8\/i=9:=by omega
     all_goals (injection ho with ho)
     all_goals (subst ho)
     ·exact hJ.opMv hs 0 (by decide) hd (s:=0) rfl (fun i hi=>by show _≠i+16;omega) _ (by rfl) rfl
     ·exact hJ.opMv hs 1 (by decide) hd (s:=0) rfl (fun i hi=>by show _≠i+16;omega) _ (by rfl) rfl
     ·exact hJ.opIt hs 2 (by decide) hd 0 1 (by decide) (by decide) (hdep 0 (by rfl)) (hdep 1 (by rfl)) hlt (by omega) rfl rfl rfl rfl rfl rfl
     ·exact hJ.opLf hs 3 (by decide) hd 2 (by decide) (hdep 2 (by rfl)) HAW.out hjt HAJ.out rfl rfl rfl rfl
     ·exact hJ.opTx hs 4 (by decide) hd 3 (by decide) (hdep 3 (by rfl)) HGJ.out.1 HGJ.out.2 HTW.out rfl rfl rfl rfl
     ·exact hJ.opMv hs 5 (by decide) hd (s:=0) rfl (fun i hi=>by show _≠i+16;omega) _ (by rfl) rfl
     ·exact hJ.opMv hs 6 (by decide) hd (s:=0) rfl (fun i hi=>by show _≠i+16;omega) _ (by rfl) rfl
     ·exact hJ.opIt hs 7 (by decide) hd 5 6 (by decide) (by decide) (hdep 5 (by rfl)) (hdep 6 (by rfl)) HJM.out (by omega) rfl rfl rfl rfl rfl rfl
     ·exact hJ.opLf hs 8 (by decide) hd 7 (by decide) (hdep 7 (by rfl)) HBW.out hjs HZJ.out rfl rfl rfl rfl
     exact hJ.opTx hs 9 (by decide) hd 8 (by decide) (hdep 8 (by rfl)) HGZ.out.1 HGZ.out.2 HTW.out rfl rfl rfl rfl
    intro T wt hJ;have a0:=hJ.eqE 0 (by decide) rfl rfl;have a1:=hJ.eqE 1 (by decide) rfl rfl;have a2:=hJ.eqE 2 (by decide) rfl rfl;obtain⟨v3,a3,-⟩:=hJ.val 3 (by decide) rfl;have a4:=hJ.eqE 4 (by decide) rfl rfl;have a5:=hJ.eqE 5 (by decide) rfl rfl;have a6:=hJ.eqE 6 (by decide) rfl rfl;have a7:=hJ.eqE 7 (by decide) rfl rfl;obtain⟨v8,a8,-⟩:=hJ.val 8 (by decide) rfl;have a9:=hJ.eqE 9 (by decide) rfl rfl;have hfr:=hJ.fin (hJ.slok HNE_.out HL9.out (of_decide_eq_true rfl)) rfl (.cons a0 (.cons a1 (.cons a2 (.cons a3 (.cons a4 (.cons a5 (.cons a6 (.cons a7 (.cons a8 (.cons a9 .nil))))))))));replace HBE:=Lib.hid (HBE.out.trans (hJ.be.mono HBE.out.size));clear hJ HNE_ HL9 a0 a1 a2 a3 a4 a5 a6 a7 a8 a9;rw[hfr];clear hfr
    simp only[fillW,Nat.reduceAdd,List.setIfInBounds_toArray,List.set_cons_zero,List.set_cons_succ];simp only[List.drop_succ_cons,List.drop_zero];obtain⟨LA,hLA⟩:∃ l,l=txF A:=⟨_,rfl⟩;obtain⟨LZ,hLZ⟩:∃ l,l=txF Z:=⟨_,rfl⟩;rw[<-hLA,<-hLZ] at HTX ⊢;clear hLA hLZ;by_cases hAZ:A=Z
    ·have e9:(LA==LZ)=true:=by rw[HTX.out];exact decide_eq_true hAZ
     have e8:(Value.string ⟨LA.toArray⟩==Value.string ⟨LZ.toArray⟩)=true:=by rw[eq_of_beq e9];simp
     have HAZ:=Lib.hid hAZ;clear hAZ;go_wp2_with fail;go_roundw
     case rel=>exact⟨j+1,by go_num,hlt,Lib.hid (by rw[HST.out.1,HST.out.2,HTK.out,HAZ.out]),HBE⟩
     case measure=>simp[intOf];omega
    have e9:(LA==LZ)=false:=by rw[HTX.out];exact decide_eq_false hAZ
    have hdf:decide (ts=ss)=false:=decide_eq_false (HNE.out hAZ);go_wp2_with fail;go_ret;exact⟨by rw[hdf];rfl,HBE.out⟩
   have ej:j=n:=by omega
   have hdt:decide (ts=ss)=true:=decide_eq_true (by
    have h1:=HTK.out;rw[List.take_of_length_le (by rw[ej,HN.out];exact Nat.le_refl _),List.take_of_length_le (by rw[ej,HNM.out,HM.out];exact Nat.le_refl _)] at h1;exact h1)
   go_wp2_with fail;go_ret;exact⟨by rw[hdt];rfl,HBE.out⟩
 have e1:(((n:Nat):Int) != ((m:Nat):Int))=true:=by simp;omega
 have HNM:Hid (ts≠ss):=Lib.hid (fun e=>hnm (by rw[HN.out,HM.out,e]));have hd:decide (ts=ss)=false:=decide_eq_false HNM.out;go_enter Tryz.func25,Tryz.ntmps25;go_wp2_with fail;go_ret;exact⟨by rw[hd];rfl,Below.refl _ _⟩
theorem row_older {w w':World} {B:Nat} {v v' ov x:Value} {us us0 xs:List FU} {ty:TypeId} (h:fR.Row w B v us) (ho:fR.Row w B ov us0) (hp:ov.ownBlock=v.ownBlock->us0 <+: us) (hx:fR.At w x xs) (h0:0<xs.length) (hlen:us.length+xs.length<=1000000)
  (hr:(Builtin.append_ #[27,27] ty #[v,x]).run Tryz.prog w=.ok v' w') (hg:w.grownBy w' v.ownBlock) (h':fR.Row w' B v' (us++xs)):fR.Row w' B ov us0:=by
 rcases ho.own.2 with ⟨rfl,h1⟩ | ⟨g0,cap0,cur0,rfl,hb0,hg0,hn0,hc0,hs0,ht0⟩
 ·rw[List.eq_nil_of_length_eq_zero h1];exact El.Row.nil _ _
 by_cases e:v.ownBlock=some g0
 ·rcases h.own.2 with ⟨rfl,-⟩ | ⟨g,cap,cur,rfl,hbg,hgg,hn,hc,hs,ht⟩
  ·cases e
  have e2:some g=some g0:=e;injection e2 with e2;subst e2;rw[hgg] at hg0;injection hg0 with hg0;injection hg0 with hg0;subst hg0;obtain⟨i,hi,hz,hz1,hz2⟩:=info_parts fR.info;obtain⟨xo,xc,rfl,-,hx2⟩:=id hx;obtain⟨a,rfl,-,-,-⟩:=hx2 0 h0;have hl:(xs.flatMap fC).length=xs.length*i.size:=by rw[hz1];exact flat_lenV fR.f fR.len xs
  have hl5:(xs.flatMap fC).length=xs.length*5:=flat_lenV fR.f fR.len xs;have hone:∀ u ∈ xs.flatMap fC,u.oneCell'=true:=fun u hu=>by
   obtain⟨b,_,hb⟩:=List.mem_flatMap.1 hu;exact fR.one b u hb
  have hle:us0.length<=us.length:=(hp rfl).length_le;have hs5:cur.size=cap*5:=hs;by_cases hroom:us.length+xs.length<=cap
  ·have hfit:us.length*i.size+(xs.flatMap fC).length<=cur.size:=by
    rw[hl,hz1];show us.length*5+xs.length*5<=cur.size
    rw[hs5];omega
   have hr2:=run_append_room (P:=Tryz.prog) w fR.t ty fR.e i fR.ht hi g us.length cap cur hgg a xs.length xc _ hl hx.news hone hroom hfit;rw[show (Builtin.append_ #[fR.t,fR.t] ty #[.slice (some ⟨g,0,none⟩) us.length cap,.slice (some a) xs.length xc]).run Tryz.prog w=_ from hr] at hr2;injection hr2 with e3 e4;subst e3;have hh:w'.heap[g]?=some (.cells (cur.toList.take (us.length*i.size)++xs.flatMap fC++cur.toList.drop (us.length*i.size+(xs.flatMap fC).length)).toArray fR.e (0,0)):=by
    rw[e4];exact setRow_heap w g cur _ fR.e _ hgg
   refine⟨⟨ho.own.1,.inr ⟨g,cap0,_,rfl,hb0,hh,hn0,hc0,?_,?_⟩⟩,fun q hq=>?_,fun _ _=>trivial⟩
   ·rw[<-hs0];have hcl:cur.toList.length=cur.size:=rfl;rw[List.size_toArray,lsa,lsa,List.length_take,List.length_drop,hcl];omega
   ·have hcl:cur.toList.length=cur.size:=rfl;have h5:us0.length*5<=us.length*5:=by omega
    rw[<-ht0,show (List.toArray (cur.toList.take (us.length*i.size)++xs.flatMap fC++cur.toList.drop (us.length*i.size+(xs.flatMap fC).length))).toList=_ from rfl,List.append_assoc,List.take_append_of_le_length (by rw[List.length_take,hcl,hz1];show us0.length*5<=min (us.length*5) cur.size;rw[hs5];omega),List.take_take,hz1];congr 1;show min (us0.length*5) (us.length*5)=us0.length*5
    omega
   have hq2:some g=some q:=hq;injection hq2 with hq2;subst hq2;exact h'.n32 g rfl
  have hr2:=run_append_grow (P:=Tryz.prog) w fR.t ty fR.e i fR.z fR.ht hi hz ⟨g,0,none⟩ us.length cap (us.flatMap fC) (by rw[hz1];exact flat_lenV fR.f fR.len us) h.at.news a xs.length xc _ hl hx.news (by omega) (by omega) (growslice_fits (by omega) (by rw[hz2];show (us.length+xs.length)*80<=_;omega));rw[show (Builtin.append_ #[fR.t,fR.t] ty #[.slice (some ⟨g,0,none⟩) us.length cap,.slice (some a) xs.length xc]).run Tryz.prog w=_ from hr] at hr2;injection hr2 with e3 e4;rw[e4];exact ho.below (((Below.refl _ _).drew).alloc (Nat.le_refl _) _)
 refine⟨World.ownsRow.kept ho.own hg (.inr (fun e3=>e e3.symm)),fun q hq=>?_,fun _ _=>trivial⟩;obtain⟨c,hc,h32⟩:=ho.n32 q hq;have hq2:some g0=some q:=hq;injection hq2 with hq2;subst hq2;exact⟨c,(hg.block g0 (lt_of_block hc) (fun e3=>e e3.symm)).trans hc,h32⟩
def Pre (w:World) (B:Nat) (P:Nat->Prop) (ov:Value) (os:List F) (v:Value):Prop:=∃ us0 us:List FU,fR.Row w B ov us0/\fR.Row w B v us/\(ov.ownBlock=v.ownBlock->us0 <+: us)/\Fs w (bs P v) us0 os
theorem Pre.refl {w:World} {B:Nat} {P:Nat->Prop} {v:Value} {ts:List F} (h:GR w B P v ts):Pre w B P v ts v:=by
 obtain⟨us,h1,h2⟩:=h;exact⟨us,us,h1,h1,fun _=>List.prefix_refl _,h2⟩
theorem Pre.below {w w':World} {B:Nat} {P:Nat->Prop} {ov v:Value} {os:List F} (h:Pre w B P ov os v) (hb:Below w.heap.size w w'):Pre w' B P ov os v:=by
 obtain⟨us0,us,h1,h2,h3,h4⟩:=h;exact⟨us0,us,h1.below hb,h2.below hb,h3,h4.map fun _ _ _ h=>h.below hb⟩
theorem GR.appendP {P:Nat->Prop} {w:World} {B:Nat} {v x:Value} {ts ns:List F} (h:GR w B P v ts) {ops:Array Oper} {rest:List Oper} {o:Oper} {a:Act} {Q:Exit->Act->World->Prop} (hgd:o.guard=none) (s y:Operand)
  (ho:o.op=.call { callee:=.builtin .append,args:=#[s,y],argTypes:=#[27,27] }) (hs:a.eval s=v) (hx:a.eval y=x) (hxs:FGl w (bs P v) x ns) (h0:0<ns.length) (hlen:∀ us,fR.Row w B v us->us.length=ts.length) (hl2:ts.length+ns.length<=1000000) (hB:B<=w.heap.size)
  (hK:∀ v' w',GR w' B P v' (ts++ns)->Turn w v w' v'->Below B w w'->(∀ ov os,Pre w B P ov os v->Pre w' B P ov os v')->wpList Tryz.prog ops Q rest (a.put o.dst v') w'):wpList Tryz.prog ops Q (o::rest) a w:=by
 obtain⟨us,h1,h2⟩:=h;obtain⟨xs,h3,-,h4⟩:=hxs;have hl:us.length+xs.length<=1000000:=by rw[h2.1,h4.1];exact hl2
 refine wpList_plain hgd fun K hk=>?_
 obtain⟨v',w',hr,r2,r3,r4,r5⟩:=h1.run h3 o.type hl hB;have hf:=row_freshA h1 h3 hl o.type hr;have ht:Turn w v w' v':=⟨r5,KN.of_fr r3,hf⟩;have hpre:∀ ov os,Pre w B P ov os v->Pre w' B P ov os v':=fun ov os hp=>by
  obtain⟨us0,us1,p1,p2,p3,p4⟩:=hp;have hl1:us1.length+xs.length<=1000000:=by rw[hlen us1 p2,h4.1];exact hl2
  obtain⟨v2,w2,hr2,q2,-⟩:=p2.run h3 o.type hl1 hB;rw[hr] at hr2;injection hr2 with e1 e2;subst e1;subst e2;refine⟨us0,us1++xs,row_older p2 p1 p3 h3 (by rw[h4.1];exact h0) hl1 hr r5 q2,q2,fun e=>?_,p4.map fun _ _ _ h=>h.turn ht⟩;refine (p3 ?_).trans (List.prefix_append _ _);cases ho2:v'.ownBlock with
  | none =>
   rcases q2.own.2 with ⟨-,hn⟩ | ⟨g,cap,cur,hv,_⟩
   ·rw[lsa,h4.1] at hn;omega
   rw[hv] at ho2;cases ho2
  | some g =>
   rw[ho2] at e;rcases hf g ho2 with h5 | h5
   ·rw[e,h5]
   have:=(p1.ge e).2;omega
 unfold Oper.wp execOp;simp only[ho,resolve,invoke,builtin,Sem.run_bind,Sem.run_pure,Result.andThen_ok,List.map_toArray,List.map_cons,List.map_nil,hs,hx];rw[show (Builtin.append_ #[27,27] o.type #[v,x]).run Tryz.prog w=_ from hr];exact hk _ _ (hK v' w' ⟨us++xs,r2,(h2.append h4).map fun _ _ _ h=>h.turn ht⟩ ht r4 hpre)
theorem Turn.of_below {w w':World} (v:Value) (hb:Below w.heap.size w w'):Turn w v w' v:=⟨below_grownV hb _,KN.of_below hb,fun g h=>.inl h⟩
theorem KN.trans' {w w1 w2:World} (h:KN w w1) (k:KN w1 w2):KN w w2:=fun a z hc=>k a z (h a z hc)
theorem Turn.trans {w w1 w2:World} {v v1 v2:Value} (h:Turn w v w1 v1) (k:Turn w1 v1 w2 v2):Turn w v w2 v2:=by
 obtain⟨h1,h2,h3⟩:=h;obtain⟨k1,k2,k3⟩:=k;refine⟨⟨k1.os.trans h1.os,k1.tape.trans h1.tape,k1.output.trans h1.output,Nat.le_trans h1.size k1.size,fun b hb hne=>?_⟩,KN.trans' h2 k2,fun g hg=>?_⟩
 ·rw[k1.block b (Nat.lt_of_lt_of_le hb h1.size) (fun e=>?_)]
  ·exact h1.block b hb hne
  rcases h3 b e.symm with h5 | h5
  ·exact hne h5.symm
  omega
 rcases k3 g hg with h5 | h5
 ·exact h3 g h5
 exact .inr (Nat.le_trans h1.size h5)
theorem Row.len5 {w:World} {B:Nat} {v:Value} {us us2:List FU} (h:fR.Row w B v us) (k:fR.Row w B v us2):us2.length=us.length:=by
 obtain⟨ko,kc,e,-⟩:=h.form;obtain⟨ko2,kc2,e2,-⟩:=k.form;rw[e] at e2;injection e2 with e3 e4 e5;exact e4.symm
theorem GR.own_lt {w:World} {B:Nat} {P:Nat->Prop} {v:Value} {ts:List F} (h:GR w B P v ts) {g:Nat} (hg:v.ownBlock=some g):g<w.heap.size:=by
 obtain⟨us,h1,h2⟩:=h;exact (h1.ge hg).2
theorem GR.fgS {w:World} {B:Nat} {P:Nat->Prop} {v:Value} {ts:List F} (h:GR w B P v ts):FGl w tS v ts:=by
 obtain⟨us,h1,h2⟩:=h;exact⟨us,h1.at,fun _ _ _ _ _=>trivial,h2.map fun _ _ _ h=>h.mono fun _ _=>trivial⟩
theorem GR.len5 {w:World} {B:Nat} {P:Nat->Prop} {v:Value} {ts:List F} (h:GR w B P v ts):∀ us,fR.Row w B v us->us.length=ts.length:=fun us hu=>by
 obtain⟨us2,h1,h2⟩:=h;rw[<-h2.1];exact Row.len5 h1 hu
open Classical in
mutual
noncomputable def prP (s:List F):F->List F
 | .node o z nm ks=>prPs (if nb (.node o z nm ks)=true/\F.node o z nm ks ∉ s then s++[.node o z nm ks] else s) ks
noncomputable def prPs (s:List F):List F->List F
 | []=>s
 | k::l=>prPs (prP s k) l
end
mutual
theorem prt_size:∀ (t:F),∀ x ∈ prtF t,szF x<=szF t
 | .node o z nm ks,x,hx=>by
  rw[prtF] at hx;rcases List.mem_cons.1 hx with rfl | hx
  ·exact Nat.le_refl _
  have:=prts_size ks x hx;rw[szF];omega
theorem prts_size:∀ (l:List F),∀ x ∈ prtsF l,szF x<=szsF l
 | [],x,hx=>by rw[prtsF] at hx;cases hx
 | k::l,x,hx=>by
  rw[prtsF] at hx;rw[szsF];rcases List.mem_append.1 hx with hx | hx
  ·have:=prt_size k x hx;omega
  have:=prts_size l x hx;omega
end
theorem kid_size {ks:List F} {k:F} (h:k ∈ ks):szF k<=szsF ks:=prts_size ks k (prts_mem.2 ⟨k,h,prt_self k⟩)
mutual
theorem prP_same:∀ (t:F) (s:List F),(∀ y ∈ prtF t,nb y=true->y ∈ s)->prP s t=s
 | .node o z nm ks,s,h=>by
  rw[prP,if_neg (fun e=>e.2 (h _ (prt_self _) e.1))];exact prPs_same ks s fun y hy hn=>h y (by rw[prtF];exact List.mem_cons_of_mem _ hy) hn
theorem prPs_same:∀ (l:List F) (s:List F),(∀ y ∈ prtsF l,nb y=true->y ∈ s)->prPs s l=s
 | [],s,h=>by rw[prPs]
 | k::l,s,h=>by
  rw[prPs,prP_same k s (fun y hy hn=>h y (by rw[prtsF];exact List.mem_append_left _ hy) hn)];exact prPs_same l s fun y hy hn=>h y (by rw[prtsF];exact List.mem_append_right _ hy) hn
end
def Cn (n:Nat) (S:List F):Prop:=∀ x ∈ S,szF x<=n->∀ y ∈ prtF x,y ∈ S
mutual
theorem prP_vis:∀ (t:F) (S:List F) (n:Nat),szF t<=n->Cn n S->prP (S.filter nb) t=(vis S t).filter nb/\Cn n (vis S t)/\∀ y ∈ prtF t,y ∈ vis S t
 | .node o z nm ks,S,n,hn,hc=>by
  by_cases h:F.node o z nm ks ∈ S
  ·rw[vis_old h];exact⟨prP_same _ _ fun y hy hb=>List.mem_filter.2 ⟨hc _ h hn y hy,hb⟩,hc,hc _ h hn⟩
  rw[vis_new h,show (F.node o z nm ks).kids=ks from rfl];have hsz:szF (.node o z nm ks)=1+szsF ks:=by rw[szF]
  obtain⟨h1,h2,h3⟩:=prPs_vis ks (S++[.node o z nm ks]) (szsF ks) (fun k hk=>kid_size hk) (fun x hx hs y hy=>by
   rcases List.mem_append.1 hx with hx | hx
   ·exact List.mem_append_left _ (hc x hx (by omega) y hy)
   rw[List.mem_singleton] at hx;subst hx;omega)
  refine⟨?_,fun x hx hs y hy=>?_,fun y hy=>?_⟩
  ·rw[prP,<-h1,List.filter_append]
   congr 1
   by_cases hb:nb (.node o z nm ks)=true
   ·rw[if_pos ⟨hb,fun e=>h (List.mem_filter.1 e).1⟩,List.filter_cons_of_pos hb,List.filter_nil]
   rw[if_neg (fun e=>hb e.1),List.filter_cons_of_neg hb,List.filter_nil,List.append_nil]
  ·rcases viss_out _ _ x hx with hx2 | hx2
   ·rcases List.mem_append.1 hx2 with hx3 | hx3
    ·exact viss_mono (List.mem_append_left _ (hc x hx3 hs y hy))
    rw[List.mem_singleton] at hx3;subst hx3;rw[prtF] at hy;rcases List.mem_cons.1 hy with rfl | hy
    ·exact viss_mono (by simp)
    exact h3 y hy
   exact h2 x hx (prts_size ks x hx2) y hy
  rw[prtF] at hy;rcases List.mem_cons.1 hy with rfl | hy
  ·exact viss_mono (by simp)
  exact h3 y hy
theorem prPs_vis:∀ (l:List F) (S:List F) (n:Nat),(∀ k ∈ l,szF k<=n)->Cn n S->prPs (S.filter nb) l=(viss S l).filter nb/\Cn n (viss S l)/\∀ y ∈ prtsF l,y ∈ viss S l
 | [],S,n,hn,hc=>by
  rw[prPs,viss];exact⟨rfl,hc,fun y hy=>by rw[prtsF] at hy;cases hy⟩
 | k::l,S,n,hn,hc=>by
  obtain⟨h1,h2,h3⟩:=prP_vis k S n (hn k (by simp)) hc;obtain⟨h4,h5,h6⟩:=prPs_vis l (vis S k) n (fun q hq=>hn q (by simp[hq])) h2;rw[prPs,viss,h1];refine⟨h4,h5,fun y hy=>?_⟩;rw[prtsF] at hy;rcases List.mem_append.1 hy with hy | hy
  ·exact viss_mono (h3 y hy)
  exact h6 y hy
end
theorem cn_nil (n:Nat):Cn n []:=fun x h=>by cases h
theorem prP_terms (t:F):prP [] t=termsF t:=(prP_vis t [] (szF t) (Nat.le_refl _) (cn_nil _)).1
theorem cn_clo {S:List F} (h:CloF S) (n:Nat):Cn n S:=fun x hx _=>clo_prt h hx
theorem exists_bound (l:List F):∃ n,∀ k ∈ l,szF k<=n:=⟨szsF l,fun k hk=>kid_size hk⟩
theorem prP_more (t:F):prPs (termsF t) (of1F t)=(viss (vis [] t) (of1F t)).filter nb:=by
 obtain⟨n,hn⟩:=exists_bound (of1F t);exact (prPs_vis (of1F t) (vis [] t) n hn (cn_clo (vis_clo clo_nil t) n)).1
theorem of_parts (t:F):ofF t=(termsF t).flatMap factsF++(((prPs (termsF t) (of1F t)).drop (termsF t).length).filter (fun t=>decide (srt t.op=2))).flatMap lensF:=by
 rw[of_eq,prP_more];obtain⟨m,hm⟩:=viss_ext (vis [] t) (of1F t);rw[hm,List.drop_left];unfold termsF;rw[List.filter_append,List.drop_left,List.filter_filter];have e:m.filter (fun t=>decide (srt t.op=2))=m.filter (fun a=>decide (srt a.op=2) && nb a):=List.filter_congr fun x _=>by
  unfold nb;by_cases h:srt x.op=2
  ·simp[h]
  simp[h]
 rw[<-e];rfl
attribute [local go_sem] fieldV0 fieldV1 fieldV2 fieldV3
def TxB (B:Nat) (w:World):Prop:=∃ w0:World,w0.heap.size=B/\TxT w0/\Below B w0 w
theorem TxB.txt {B:Nat} {w:World} (h:TxB B w):TxT w:=by
 obtain⟨w0,rfl,h1,h2⟩:=h;exact h1.below h2
theorem TxB.on {B:Nat} {w w':World} (h:TxB B w) (hb:Below B w w'):TxB B w':=by
 obtain⟨w0,h0,h1,h2⟩:=h;exact⟨w0,h0,h1,h2.trans hb⟩
theorem prPs_app:∀ (l:List F) (s m:List F),prPs s (l++m)=prPs (prPs s l) m
 | [],s,m=>by rw[List.nil_append,prPs]
 | k::l,s,m=>by rw[List.cons_append,prPs,prPs,prPs_app l]
theorem prPs_take {ks:List F} {s:List F} {j:Nat} (h:j<ks.length):prPs s (ks.take (j+1))=prP (prPs s (ks.take j)) ks[j]:=by
 rw[List.take_succ_eq_append_getElem h,prPs_app,prPs,prPs]
open Classical in
mutual
theorem prP_len:∀ (t:F) (s:List F),(prP s t).length<=s.length+szF t
 | .node o z nm ks,s=>by
  rw[prP,szF];have h:=prPs_len ks (if nb (.node o z nm ks)=true/\F.node o z nm ks ∉ s then s++[.node o z nm ks] else s)
  have h2:(if nb (.node o z nm ks)=true/\F.node o z nm ks ∉ s then s++[.node o z nm ks] else s).length<=s.length+1:=by
   split
   ·simp
   omega
  omega
theorem prPs_len:∀ (l:List F) (s:List F),(prPs s l).length<=s.length+szsF l
 | [],s=>by rw[prPs,szsF];omega
 | k::l,s=>by
  rw[prPs,szsF];have h1:=prPs_len l (prP s k);have h2:=prP_len k s
  omega
end
open Classical in
mutual
theorem prP_mem:∀ (t:F) (s:List F),∀ x ∈ prP s t,x ∈ s\/x ∈ prtF t
 | .node o z nm ks,s,x,hx=>by
  rw[prP] at hx;rw[prtF];rcases prPs_mem ks _ x hx with h | h
  ·split at h
   ·rcases List.mem_append.1 h with h | h
    ·exact .inl h
    rw[List.mem_singleton] at h;exact .inr (by rw[h];simp)
   exact .inl h
  exact .inr (List.mem_cons_of_mem _ h)
theorem prPs_mem:∀ (l:List F) (s:List F),∀ x ∈ prPs s l,x ∈ s\/x ∈ prtsF l
 | [],s,x,hx=>by rw[prPs] at hx;exact .inl hx
 | k::l,s,x,hx=>by
  rw[prPs] at hx;rw[prtsF,List.mem_append];rcases prPs_mem l _ x hx with h | h
  ·rcases prP_mem k s x h with h | h
   ·exact .inl h
   exact .inr (.inl h)
  exact .inr (.inr h)
end
theorem szs_take {ks:List F} {j:Nat} (h:j<ks.length):szsF (ks.take j)+szF ks[j]<=szsF ks:=by
 have h1:szsF (ks.take (j+1))=szsF (ks.take j)+szF ks[j]:=by
  rw[List.take_succ_eq_append_getElem h,szsF_app,szsF,szsF];omega
 have h2:szsF ks=szsF (ks.take (j+1))+szsF (ks.drop (j+1)):=by rw[<-szsF_app,List.take_append_drop]
 omega
open Classical in
theorem parts_p (d:Nat):∀ (t:F) (v lv:Value) (ts:List F) (P:Nat->Prop) (B:Nat) (w:World),FC w (bs P lv) d v t->(∀ y ∈ prtF t,rt y=true/\Tm 9 y)->GR w B P lv ts->(∀ y ∈ ts,rt y=true/\Tm 9 y)->ts.length+szF t<=900000->B<=w.heap.size->(∀ b,w.heap.size<=b->P b)->TxB B w ->
  Calls Tryz.prog 23 #[v,lv] w fun e w'=>∃ lv',e=.returned lv'/\GR w' B P lv' (prP ts t)/\Turn w lv w' lv'/\Below B w w'/\∀ ov os,Pre w B P ov os lv->Pre w' B P ov os lv':=by
 induction d with
 | zero=>intro t v lv ts P B w h;obtain⟨_,_,_,_,_,_,_,_,_,h0,_⟩:=h.open;omega
 | succ d ih =>
  intro t v lv ts P B w h hg hR hgt hsz hBw hP ht;have HIH:=Lib.hid ih;clear ih;obtain⟨b9,o9,l9,d9,r9,s9,t9,rfl,⟨-,-,hkl,hkc,hkm⟩,-,hk⟩:=h.open;rw[Nat.add_sub_cancel] at hk;have hkm2:t9<=9223372036854775807:=hkm;obtain⟨lo,lc,hlv,hl1,hl2,-,-⟩:=hR.form;subst hlv;obtain⟨n,hn⟩:∃ n,n=ts.length:=⟨_,rfl⟩;rw[<-hn] at h hR hl1 hsz hk ⊢;obtain⟨Z,hZ⟩:∃ x,x=t:=⟨_,rfl⟩;obtain⟨zop,hzop⟩:∃ y,y=t.op:=⟨_,rfl⟩;obtain⟨zn,hzn⟩:∃ y,y=t.name:=⟨_,rfl⟩;obtain⟨ks,hks⟩:∃ y,y=t.kids:=⟨_,rfl⟩;rw[<-hks] at hk hkl;rw[<-hzop,<-hzn] at h ⊢;have HN:=Lib.hid hn;have HZO:Hid (zop=Z.op):=Lib.hid (by rw[hzop,hZ]);have HKS:Hid (ks=Z.kids):=Lib.hid (by rw[hks,hZ]);have HKL:=Lib.hid hkl;have HG:Hid (∀ y ∈ prtF Z,rt y=true/\Tm 9 y):=Lib.hid (by rw[hZ];exact hg)
  have HGT:=Lib.hid hgt;have HSZ:Hid (n+szF Z<=900000):=Lib.hid (by rw[hZ];exact hsz);have HR0:=Lib.hid hR;have HK0:=Lib.hid hk;have HF0:Hid (FC w (bs P (.slice lo n lc)) 9 (.agg #[.int .i64 zop,.bool b9,.slice o9 l9 d9,.string zn,.slice r9 s9 t9]) Z):=Lib.hid (by rw[hZ];exact h.tight (hg t (prt_self t)).2.g);have HGQ:Hid (rt Z=true/\Tm 9 Z):=Lib.hid (HG.out Z (prt_self Z));have HBW:=Lib.hid hBw;have HPX:=Lib.hid hP;have HT0:=Lib.hid ht;rw[<-hZ];clear h hg hR hgt hsz hBw hP ht hn hZ hzop hzn hks hkl hkm hk;have HPS:Hid (∀ S,prP S Z=prPs (if nb Z=true/\Z ∉ S then S++[Z] else S) ks):=Lib.hid (fun S=>by rw[HKS.out];obtain⟨o,z,nm,q⟩:=Z;rw[prP];rfl);have HSK:Hid (szF Z=1+szsF ks):=Lib.hid (by rw[HKS.out];obtain⟨o,z,nm,q⟩:=Z;rw[szF];rfl)
  have HGK:Hid (∀ k ∈ ks,∀ y ∈ prtF k,rt y=true/\Tm 9 y):=Lib.hid (fun k hk y hy=>HG.out y (prt_mem.2 (.inr ⟨k,by rw[<-HKS.out];exact hk,hy⟩)));have HGS:Hid (∀ y ∈ prtsF ks,rt y=true/\Tm 9 y):=Lib.hid (fun y hy=>by obtain⟨k,hk,h2⟩:=prts_mem.1 hy;exact HGK.out k hk y h2);go_enter Tryz.func23,Tryz.ntmps23;obtain⟨x1,kz,ez,ekz,hbz,hkz,HBz⟩:=newV w #[.int .i64 zop,.bool b9,.slice o9 l9 d9,.string zn,.slice r9 s9 t9] 29;have HTN:Hid (Turn w (.slice lo n lc) x1 (.slice lo n lc)):=Lib.hid (Turn.of_below _ hbz.out);have HPR:Hid (∀ ov os,Pre w B P ov os (.slice lo n lc)->Pre x1 B P ov os (.slice lo n lc)):=Lib.hid (fun ov os h=>h.below hbz.out);have HW:=Lib.hid (hbz.out.mono HBW.out);have HR:=Lib.hid (HR0.out.below hbz.out);have HFZ:=Lib.hid (HF0.out.below hbz.out)
  have HTW:=Lib.hid (HT0.out.txt.below hbz.out);have HKZ:Hid (bs P (.slice lo n lc) kz):=Lib.hid ⟨fun e=>by have:=(HR0.out.own_lt e);have:=hkz.out;omega,HPX.out kz hkz.out⟩;have HT9:=HT0;clear HR0 HF0 HT0;obtain⟨⟨z0,z1,z2,z3,z4⟩,-⟩:=cells5V HBz.out;go_wp2_with fail;refine (sort_p _ _ _ _ _ _ _ _ _ x1).mono ?_;rintro e x2 ⟨rfl,hb⟩;clear z0 z1 z2 z3 z4;replace HBz:=kBV hb HBz;replace HTN:=Lib.hid (HTN.out.trans (Turn.of_below _ hb));have HPR2:Hid (∀ ov os,Pre w B P ov os (.slice lo n lc)->Pre x2 B P ov os (.slice lo n lc)):=Lib.hid (fun ov os h=>(HPR.out ov os h).below hb);replace HW:=Lib.hid (HW.out.trans (hb.mono (Nat.le_trans HBW.out HW.out.size)));replace HR:=Lib.hid (HR.out.below hb);replace HFZ:=Lib.hid (HFZ.out.below hb);replace HTW:=Lib.hid (HTW.out.below hb);clear HPR hb
  obtain⟨zs,hzs⟩:∃ y,y=srt zop:=⟨_,rfl⟩;rw[<-hzs];have HNB:Hid (nb Z=true ↔ zs≠1):=Lib.hid (by rw[hzs,HZO.out];unfold nb;simp);clear hzs;by_cases hz1:zs=1
  ·have e1:(zs != 1)=false:=by rw[hz1];rfl
   have HTS:Hid (prP ts Z=prPs ts ks):=Lib.hid (by rw[HPS.out,if_neg (fun e=>HNB.out.1 e.1 hz1)]);clear hz1;have HGTS:=HGT;have HLTS:Hid (ts.length<=n+1):=Lib.hid (by rw[HN.out];omega);obtain⟨⟨q0,q1,q2,q3,q4⟩,-⟩:=cells5V HBz.out;go_wp2_with fail;go_loopw [1,37] (fun av iv wr=>∃ j:Nat,iv=.int .i64 (j:Nat)/\j<=s9/\Hid (GR wr B P av (prPs (ts) (ks.take j)))/\Hid (Turn w (.slice lo n lc) wr av)/\Hid (Below B w wr)/\Hid (∀ ov os,Pre w B P ov os (.slice lo n lc)->Pre wr B P ov os av)) (fun _ iv _=>s9 - (intOf iv).toNat)
   case atStart=>exact⟨0,rfl,Nat.zero_le _,Lib.hid (by rw[List.take_zero,prPs];exact HR.out),HTN,HW,HPR2⟩
   case round =>
    clear q0 q1 q2 q3 q4;obtain⟨j,rfl,hj,GRJ,TNJ,WJ,PRJ⟩:=hrel;by_cases hlt:j<s9
    ·have hjl:j<ks.length:=by rw[<-HKL.out];exact hlt
     have HKJ:=Lib.hid (HK0.out.turn TNJ.out);obtain⟨a,kb,ka,k1,k2,k3,k4,k5,rfl,⟨c0,c1,c2,c3,c4⟩,hx⟩:=HKJ.out.cells j hjl;obtain⟨A,hA⟩:∃ x,x=ks[j]:=⟨_,rfl⟩;rw[<-hA] at c0 c3 hx;have HTK:Hid (prPs (ts) (ks.take (j+1))=prP (prPs (ts) (ks.take j)) A):=Lib.hid (by rw[hA];exact prPs_take hjl);have HGA:Hid (∀ y ∈ prtF A,rt y=true/\Tm 9 y):=Lib.hid (by rw[hA];exact HGK.out _ (List.getElem_mem hjl));have HGM:Hid (∀ y ∈ prPs (ts) (ks.take j),rt y=true/\Tm 9 y):=Lib.hid (fun y hy=>by
      rcases prPs_mem _ _ y hy with h | h
      ·exact HGTS.out y h
      obtain⟨k,hk,h2⟩:=prts_mem.1 h;exact HGK.out k (List.mem_of_mem_take hk) y h2)
     have HSJ:Hid ((prPs (ts) (ks.take j)).length+szF A<=900000):=Lib.hid (by
      have h1:=prPs_len (ks.take j) (ts);have h2:=szs_take hjl;have h3:=HLTS.out;have h4:=HSZ.out;have h5:=HSK.out;rw[hA];omega)
     clear hA;obtain⟨yop,hyop⟩:∃ x,x=A.op:=⟨_,rfl⟩;obtain⟨yn,hyn⟩:∃ x,x=A.name:=⟨_,rfl⟩;rw[<-hyop] at c0 hx;rw[<-hyn] at c3 hx;have HX:=Lib.hid hx;clear hx hyop hyn HKJ;obtain⟨x9,k9,e9,ek9,hb9,hk9,HB9⟩:=newV wr #[.int .i64 yop,.bool kb,.slice ka k1 k2,.string yn,.slice k3 k4 k5] 29;obtain⟨⟨u0,u1,u2,u3,u4⟩,fu0,fu1,fu2,fu3,fu4⟩:=cells5V HB9.out;go_wp2_with fail;refine (HIH.out A _ _ _ P B x9 (HX.out.below hb9.out) HGA.out (GRJ.out.below hb9.out) HGM.out HSJ.out (Nat.le_trans HBW.out (Nat.le_trans TNJ.out.1.size hb9.out.size)) (fun b hb=>HPX.out b (Nat.le_trans (Nat.le_trans TNJ.out.1.size hb9.out.size) hb)) ((HT9.out.on WJ.out).on (hb9.out.mono (Nat.le_trans HBW.out TNJ.out.1.size)))).mono ?_;rintro e w8 ⟨lv2,rfl,g1,g2,g3,g4⟩;go_wp2_with fail;go_roundw
     case rel=>exact⟨j+1,by go_num,hlt,Lib.hid (by rw[HTK.out];exact g1),Lib.hid ((TNJ.out.trans (Turn.of_below _ hb9.out)).trans g2),Lib.hid ((WJ.out.trans (hb9.out.mono (Nat.le_trans HBW.out TNJ.out.1.size))).trans g3),Lib.hid (fun ov os h=>g4 ov os ((PRJ.out ov os h).below hb9.out))⟩
     case measure=>simp[intOf];omega
    have ej:j=s9:=by omega
    have hta:ks.take j=ks:=List.take_of_length_le (by rw[ej,HKL.out];exact Nat.le_refl _);have HGF:Hid (GR wr B P _ (prP ts Z)):=Lib.hid (by have h1:=GRJ.out;rw[hta] at h1;rw[HTS.out];exact h1);clear hta;go_wp2_with fail;go_ret;exact⟨_,rfl,HGF.out,TNJ.out,WJ.out,PRJ.out⟩
  have HNZ:Hid (nb Z=true):=Lib.hid (HNB.out.2 hz1);have e1:(zs != 1)=true:=bne_iff_ne.2 hz1;clear hz1;go_wp2_with fail;go_loopw [5,15] (fun bv iv wr=>∃ (q:Nat) (b:Bool),iv=.int .i64 (q:Nat)/\bv=.bool b/\q<=n/\Hid (b=true ↔ Z ∈ ts.take q)/\Hid (Below x2.heap.size x2 wr)) (fun _ iv _=>n - (intOf iv).toNat)
  case atStart=>exact⟨0,false,rfl,rfl,Nat.zero_le _,Lib.hid (by simp),Lib.hid (Below.refl _ _)⟩
  case round =>
   obtain⟨q,b,rfl,rfl,hq,HBI,HBQ⟩:=hrel;replace HBz:=kBV HBQ.out HBz;replace HFZ:=Lib.hid (HFZ.out.below HBQ.out);replace HTW:=Lib.hid (HTW.out.below HBQ.out);have HRQ:=Lib.hid (HR.out.below HBQ.out);clear e1;by_cases hlq:q<n
   ·have hql:q<ts.length:=by rw[<-HN.out];exact hlq
    obtain⟨df,HFL⟩:=(HRQ.out.fgS).fl;obtain⟨a,bb,qo,ql,qc,ro,rl,rc,hlo,⟨c0,c1,c2,c3,c4⟩,hx⟩:=HFL.cells q hql;subst hlo;obtain⟨A,hA⟩:∃ x,x=ts[q]:=⟨_,rfl⟩;have HTK:Hid (ts.take (q+1)=ts.take q++[A]):=Lib.hid (by rw[hA];exact List.take_succ_eq_append_getElem hql);rw[<-hA] at c0 c3 hx;have HGJ:=Lib.hid (HGT.out A (by rw[hA];exact List.getElem_mem hql));clear hA;obtain⟨yop,hyop⟩:∃ x,x=A.op:=⟨_,rfl⟩;obtain⟨yn,hyn⟩:∃ x,x=A.name:=⟨_,rfl⟩;rw[<-hyop] at c0 hx;rw[<-hyn] at c3 hx;have HFA:=Lib.hid (hx.tight HGJ.out.2.g);clear hx hyop hyn HFL HRQ;obtain⟨x41,ky,ey,eky,hby,hky,HBy⟩:=newV wr #[.int .i64 yop,.bool bb,.slice qo ql qc,.string yn,.slice ro rl rc] 29;replace HBz:=kBV hby.out HBz;replace HBQ:=Lib.hid (HBQ.out.trans (hby.out.mono HBQ.out.size))
    replace HFA:=Lib.hid (HFA.out.below hby.out);replace HFZ:=Lib.hid (HFZ.out.below hby.out);replace HTW:=Lib.hid (HTW.out.below hby.out);cases b with
    | true =>
     go_upto_region 6 with fail;clear c0 c1 c2 c3 c4;have hlt_y:=lt_of_block HBy.out;have hlt_z:=lt_of_block HBz.out;have hog:Hid (∀ q,q<0->(fun q=>0) q<x41.heap.size):=Lib.hid (fun q h=>absurd h (Nat.not_lt_zero _));refine R7.region (by kernel_rfl) [[],[0],[0,1],[0,1,2],[0,1],[0,1,2,3,4],[0,1,2,3,4,5],[0,1,2,3,4,5,6],[0,1,2,3,4,5,6,7]] [] [] (fun q=>0) 0 9 (by kernel_rfl) (by kernel_rfl) (by rfl) hog.out (fun q q' h h' hn=>absurd hn (by omega)) ?_;refine R7.Chain.det ?_ (by rfl) (fun T xs wr hA=>?_) ?_;rotate_left 1
     ·have e5:=hA.pre 5 (by kernel_rfl);simp only[gsa,gsc,gsz] at e5;clear hA;refine⟨(by rfl),?_⟩;go_simp<;>(try with_reducible rfl)
     refine R7.Chain.det ?_ (by rfl) (fun T xs wr hA=>?_) ?_;rotate_left 1
     ·have e19:=hA.tm 0 19 (by rfl) (by rfl);have f19:xs 0=_:=hA.fa 0 (by rfl);(try simp (disch:=first | rfl | decide) only [R7.mask_in] at f19);rw[f19] at e19;clear f19;clear hA;refine⟨(by rfl),?_⟩;go_simp<;>(try with_reducible rfl)
     refine R7.Chain.skip (by rfl) (fun T xs wr hA=>?_) ?_
     ·have e20:=hA.tm 1 20 (by rfl) (by rfl);have f20:xs 1=_:=hA.fa 1 (by rfl);(try simp (disch:=first | rfl | decide) only [R7.mask_in] at f20);rw[f20] at e20;clear f20;exact ((Rely.wanted_at rfl (by rfl) e20).trans (by rfl))
     refine R7.Chain.skip (by rfl) (fun T xs wr hA=>?_) ?_
     ·have e20:=hA.tm 1 20 (by rfl) (by rfl);have f20:xs 1=_:=hA.fa 1 (by rfl);(try simp (disch:=first | rfl | decide) only [R7.mask_in] at f20);rw[f20] at e20;clear f20;exact ((Rely.wanted_at rfl (by rfl) e20).trans (by rfl))
     refine R7.Chain.skip (by rfl) (fun T xs wr hA=>?_) ?_
     ·have e20:=hA.tm 1 20 (by rfl) (by rfl);have f20:xs 1=_:=hA.fa 1 (by rfl);(try simp (disch:=first | rfl | decide) only [R7.mask_in] at f20);rw[f20] at e20;clear f20;exact ((Rely.wanted_at rfl (by rfl) e20).trans (by rfl))
     refine R7.Chain.skip (by rfl) (fun T xs wr hA=>?_) ?_
     ·have e20:=hA.tm 1 20 (by rfl) (by rfl);have f20:xs 1=_:=hA.fa 1 (by rfl);(try simp (disch:=first | rfl | decide) only [R7.mask_in] at f20);rw[f20] at e20;clear f20;exact ((Rely.wanted_at rfl (by rfl) e20).trans (by rfl))
     refine R7.Chain.skip (by rfl) (fun T xs wr hA=>?_) ?_
     ·have e20:=hA.tm 1 20 (by rfl) (by rfl);have f20:xs 1=_:=hA.fa 1 (by rfl);(try simp (disch:=first | rfl | decide) only [R7.mask_in] at f20);rw[f20] at e20;clear f20;exact ((Rely.wanted_at rfl (by rfl) e20).trans (by rfl))
     refine R7.Chain.det ?_ (by rfl) (fun T xs wr hA=>?_) ?_;rotate_left 1
     ·have e20:=hA.tm 1 20 (by rfl) (by rfl);have f20:xs 1=_:=hA.fa 1 (by rfl);(try simp (disch:=first | rfl | decide) only [R7.mask_in] at f20);rw[f20] at e20;clear f20;have e25:=hA.tm 6 25 (by rfl) (by rfl);have f25:xs 6=(undef):=hA.fa 6 (by rfl);rw[f25] at e25;clear f25;clear hA;refine⟨(by rfl),?_⟩;go_simp<;>(try with_reducible rfl)
     refine R7.Chain.det ?_ (by rfl) (fun T xs wr hA=>?_) ?_;rotate_left 1
     ·have e26:=hA.tm 7 26 (by rfl) (by rfl);have f26:xs 7=_:=hA.fa 7 (by rfl);(try simp (disch:=first | rfl | decide) only [R7.mask_in] at f26);rw[f26] at e26;clear f26;clear hA;refine⟨(by rfl),?_⟩;go_simp<;>(try with_reducible rfl)
     refine R7.Chain.done (fun xs x42 hL=>?_);obtain⟨⟨hbe,hbl⟩,hf,-,-⟩:=hL;have f0:xs 0=_:=hf 0 (by decide);(try simp (disch:=first | rfl | decide) only [R7.mask_in] at f0);have f1:xs 1=_:=hf 1 (by decide);(try simp (disch:=first | rfl | decide) only [R7.mask_in] at f1);have f2:xs 2=(undef):=hf 2 (by decide);have f3:xs 3=(undef):=hf 3 (by decide);have f4:xs 4=(undef):=hf 4 (by decide);have f5:xs 5=(undef):=hf 5 (by decide);have f6:xs 6=(undef):=hf 6 (by decide);have f7:xs 7=_:=hf 7 (by decide);(try simp (disch:=first | rfl | decide) only [R7.mask_in] at f7);have f8:xs 8=_:=hf 8 (by decide);(try simp (disch:=first | rfl | decide) only [R7.mask_in] at f8);have hb0:Below 0 x41 x42:=undrew (hbe 0 (Nat.zero_le _) (fun _ _=>Nat.zero_le _))
     have hgr:∀ j,j<x41.heap.size->(∀ q,q<0->(fun q=>0) q≠j)->x42.heap[j]?=x41.heap[j]?:=hbl;clear hbe hbl hf;have hb:Below x41.heap.size x41 x42:=⟨hb0.os,hb0.tape,hb0.output,hb0.size,fun q hq=>hgr q hq (fun q h=>absurd h (Nat.not_lt_zero _))⟩;refine R7.rest_done ?_;simp only[R7.fill,t5_,t6_,t7_,f0,f1,f2,f3,f4,f5,f6,f7,f8];clear hb0 hgr hog hlt_y hlt_z f0 f1 f2 f3 f4 f5 f6 f7 f8;replace HBQ:=Lib.hid (HBQ.out.trans (hb.mono HBQ.out.size));replace hb:=Lib.hid hb;go_wp2_with fail;go_roundw
     case rel =>
      refine⟨q+1,true,by go_num,rfl,hlq,Lib.hid ?_,HBQ⟩;rw[HTK.out,List.mem_append];exact⟨fun _=>.inl (HBI.out.1 rfl),fun _=>rfl⟩
     case measure=>simp[intOf];omega
    | false =>
     go_upto_region 6 with fail;clear c0 c1 c2 c3 c4;obtain⟨EQ,hEQ⟩:∃ b:Bool,b=decide (A=Z):=⟨_,rfl⟩;have HEQ:=Lib.hid hEQ;have HTX:Hid ((txF A==txF Z)=EQ):=Lib.hid (by rw[hEQ];exact tx_dec HGJ.out HGQ.out);obtain⟨LA,hLA⟩:∃ l,l=txF A:=⟨_,rfl⟩;obtain⟨LZ,hLZ⟩:∃ l,l=txF Z:=⟨_,rfl⟩;rw[<-hLA,<-hLZ] at HTX;have HLA:=Lib.hid hLA;have HLZ:=Lib.hid hLZ;clear hEQ hLA hLZ;have hlt_y:=lt_of_block HBy.out;have hlt_z:=lt_of_block HBz.out;have hog:Hid (∀ q,q<0->(fun q=>0) q<x41.heap.size):=Lib.hid (fun q h=>absurd h (Nat.not_lt_zero _));refine R7.region (by kernel_rfl) [[],[0],[0,1],[0,1,2],[0,1],[0,1,2,3,4],[0,1,2,3,4,5],[0,1,2,3,4,5,6],[0,1,2,3,4,5,6,7]] [] [] (fun q=>0) 0 9 (by kernel_rfl) (by kernel_rfl) (by rfl) hog.out (fun q q' h h' hn=>absurd hn (by omega)) ?_
     refine R7.Chain.det ?_ (by rfl) (fun T xs wr hA=>?_) ?_;rotate_left 1
     ·have e5:=hA.pre 5 (by kernel_rfl);simp only[gsa,gsc,gsz] at e5;clear hA;refine⟨(by rfl),?_⟩;go_simp<;>(try with_reducible rfl)
     refine R7.Chain.det ?_ (by rfl) (fun T xs wr hA=>?_) ?_;rotate_left 1
     ·have e19:=hA.tm 0 19 (by rfl) (by rfl);have f19:xs 0=_:=hA.fa 0 (by rfl);(try simp (disch:=first | rfl | decide) only [R7.mask_in] at f19);rw[f19] at e19;clear f19;clear hA;refine⟨(by rfl),?_⟩;go_simp<;>(try with_reducible rfl)
     refine R7.Chain.det ?_ (by rfl) (fun T xs wr hA=>?_) ?_;rotate_left 1
     ·have e20:=hA.tm 1 20 (by rfl) (by rfl);have f20:xs 1=_:=hA.fa 1 (by rfl);(try simp (disch:=first | rfl | decide) only [R7.mask_in] at f20);rw[f20] at e20;clear f20;have e7:=hA.pre 7 (by kernel_rfl);simp only[gsa,gsc,gsz] at e7;have hBq:wr.heap[ky]?=_:=(hA.bl _ hlt_y (fun q h=>absurd h (Nat.not_lt_zero _))).trans HBy.out;have q0:=cell_at (v:=.int .i64 yop) hBq 0 rfl;have q1:=cell_at (v:=.bool bb) hBq 1 rfl;have q2:=cell_at (v:=.slice qo ql qc) hBq 2 rfl;have q3:=cell_at (v:=.string yn) hBq 3 rfl;have q4:=cell_at (v:=.slice ro rl rc) hBq 4 rfl;clear hBq;clear hA;refine⟨((Rely.wanted_at rfl (by rfl) e20).trans (by rfl)),?_⟩;go_simp<;>(try with_reducible rfl)
     refine R7.Chain.call (fun xs v w=>v=.string ⟨LA.toArray⟩) (fun _ _ _ _ h _=>h) (fun _ _ _ _ _ h _ _=>h) (by rfl) (fun T xs wr hA=>?_) ?_
     ·have e20:=hA.tm 1 20 (by rfl) (by rfl);have f20:xs 1=_:=hA.fa 1 (by rfl);(try simp (disch:=first | rfl | decide) only [R7.mask_in] at f20);rw[f20] at e20;clear f20;have hsw:=(hA.be 0 (Nat.zero_le _) (fun _ _=>Nat.zero_le _)).size;have e21:=hA.tm 2 21 (by rfl) (by rfl);have f21:xs 2=_:=hA.fa 2 (by rfl);(try simp (disch:=first | rfl | decide) only [R7.mask_in] at f21);rw[f21] at e21;clear f21;have hbw:=undrew (hA.be x41.heap.size (Nat.le_refl _) (fun q h=>absurd h (Nat.not_lt_zero q)));have hfw:=HFA.out.below hbw;have htw:=HTW.out.below hbw;clear hA;refine⟨((Rely.wanted_at rfl (by rfl) e20).trans (by rfl)),fun K hK=>?_⟩;go_simp;refine (textG_p 9 _ A _ _ hfw HGJ.out.1 HGJ.out.2.g (tx_len9 HGJ.out.2) htw).mono ?_;rintro e w' ⟨rfl,hb'⟩;rw[<-HLA.out];exact hK.out _ _ rfl hb'
     refine R7.Chain.det ?_ (by rfl) (fun T xs wr hA=>?_) ?_;rotate_left 1
     ·have e20:=hA.tm 1 20 (by rfl) (by rfl);have f20:xs 1=_:=hA.fa 1 (by rfl);(try simp (disch:=first | rfl | decide) only [R7.mask_in] at f20);rw[f20] at e20;clear f20;have e2:=hA.pre 2 (by kernel_rfl);simp only[gsa,gsc,gsz] at e2;have hBq:wr.heap[kz]?=_:=(hA.bl _ hlt_z (fun q h=>absurd h (Nat.not_lt_zero _))).trans HBz.out;have q0:=cell_at (v:=.int .i64 zop) hBq 0 rfl;have q1:=cell_at (v:=.bool b9) hBq 1 rfl;have q2:=cell_at (v:=.slice o9 l9 d9) hBq 2 rfl;have q3:=cell_at (v:=.string zn) hBq 3 rfl;have q4:=cell_at (v:=.slice r9 s9 t9) hBq 4 rfl;clear hBq;clear hA;refine⟨((Rely.wanted_at rfl (by rfl) e20).trans (by rfl)),?_⟩;go_simp<;>(try with_reducible rfl)
     refine R7.Chain.call (fun xs v w=>v=.string ⟨LZ.toArray⟩) (fun _ _ _ _ h _=>h) (fun _ _ _ _ _ h _ _=>h) (by rfl) (fun T xs wr hA=>?_) ?_
     ·have e20:=hA.tm 1 20 (by rfl) (by rfl);have f20:xs 1=_:=hA.fa 1 (by rfl);(try simp (disch:=first | rfl | decide) only [R7.mask_in] at f20);rw[f20] at e20;clear f20;have hsw:=(hA.be 0 (Nat.zero_le _) (fun _ _=>Nat.zero_le _)).size;have e23:=hA.tm 4 23 (by rfl) (by rfl);have f23:xs 4=_:=hA.fa 4 (by rfl);(try simp (disch:=first | rfl | decide) only [R7.mask_in] at f23);rw[f23] at e23;clear f23;have hbw:=undrew (hA.be x41.heap.size (Nat.le_refl _) (fun q h=>absurd h (Nat.not_lt_zero q)));have hfw:=HFZ.out.below hbw;have htw:=HTW.out.below hbw;clear hA;refine⟨((Rely.wanted_at rfl (by rfl) e20).trans (by rfl)),fun K hK=>?_⟩;go_simp;refine (textG_p 9 _ Z _ _ hfw HGQ.out.1 HGQ.out.2.g (tx_len9 HGQ.out.2) htw).mono ?_;rintro e w' ⟨rfl,hb'⟩;rw[<-HLZ.out];exact hK.out _ _ rfl hb'
     refine R7.Chain.call (fun xs v w=>v=.bool EQ) (fun _ _ _ _ h _=>h) (fun _ _ _ _ _ h _ _=>h) (by rfl) (fun T xs wr hA=>?_) ?_
     ·have e20:=hA.tm 1 20 (by rfl) (by rfl);have f20:xs 1=_:=hA.fa 1 (by rfl);(try simp (disch:=first | rfl | decide) only [R7.mask_in] at f20);rw[f20] at e20;clear f20;have hsw:=(hA.be 0 (Nat.zero_le _) (fun _ _=>Nat.zero_le _)).size;have e22:=hA.tm 3 22 (by rfl) (by rfl);have f22:xs 3=(.string ⟨LA.toArray⟩):=hA.fa 3 (by rfl);rw[f22] at e22;clear f22;have e24:=hA.tm 5 24 (by rfl) (by rfl);have f24:xs 5=(.string ⟨LZ.toArray⟩):=hA.fa 5 (by rfl);rw[f24] at e24;clear f24;have hbw:=undrew (hA.be x41.heap.size (Nat.le_refl _) (fun q h=>absurd h (Nat.not_lt_zero q)));clear hA;refine⟨((Rely.wanted_at rfl (by rfl) e20).trans (by rfl)),fun K hK=>?_⟩;go_simp;exact hK.out _ _ (congrArg Value.bool (by first | exact HTX.out | (have h9:=HTX.out;simpa using h9))) (Below.refl _ _)
     refine R7.Chain.det ?_ (by rfl) (fun T xs wr hA=>?_) ?_;rotate_left 1
     ·have e20:=hA.tm 1 20 (by rfl) (by rfl);have f20:xs 1=_:=hA.fa 1 (by rfl);(try simp (disch:=first | rfl | decide) only [R7.mask_in] at f20);rw[f20] at e20;clear f20;have e25:=hA.tm 6 25 (by rfl) (by rfl);have f25:xs 6=(.bool EQ):=hA.fa 6 (by rfl);rw[f25] at e25;clear f25;clear hA;refine⟨(by rfl),?_⟩;go_simp<;>(try with_reducible rfl)
     refine R7.Chain.det ?_ (by rfl) (fun T xs wr hA=>?_) ?_;rotate_left 1
     ·have e26:=hA.tm 7 26 (by rfl) (by rfl);have f26:xs 7=_:=hA.fa 7 (by rfl);(try simp (disch:=first | rfl | decide) only [R7.mask_in] at f26);rw[f26] at e26;clear f26;clear hA;refine⟨(by rfl),?_⟩;go_simp<;>(try with_reducible rfl)
     refine R7.Chain.done (fun xs x42 hL=>?_);obtain⟨⟨hbe,hbl⟩,hf,-,-⟩:=hL;have f0:xs 0=_:=hf 0 (by decide);(try simp (disch:=first | rfl | decide) only [R7.mask_in] at f0);have f1:xs 1=_:=hf 1 (by decide);(try simp (disch:=first | rfl | decide) only [R7.mask_in] at f1);have f2:xs 2=_:=hf 2 (by decide);(try simp (disch:=first | rfl | decide) only [R7.mask_in] at f2);have f3:xs 3=(.string ⟨LA.toArray⟩):=hf 3 (by decide);have f4:xs 4=_:=hf 4 (by decide);(try simp (disch:=first | rfl | decide) only [R7.mask_in] at f4);have f5:xs 5=(.string ⟨LZ.toArray⟩):=hf 5 (by decide);have f6:xs 6=(.bool EQ):=hf 6 (by decide);have f7:xs 7=_:=hf 7 (by decide);(try simp (disch:=first | rfl | decide) only [R7.mask_in] at f7);have f8:xs 8=_:=hf 8 (by decide)
     (try simp (disch:=first | rfl | decide) only [R7.mask_in] at f8);have hb0:Below 0 x41 x42:=undrew (hbe 0 (Nat.zero_le _) (fun _ _=>Nat.zero_le _));have hgr:∀ j,j<x41.heap.size->(∀ q,q<0->(fun q=>0) q≠j)->x42.heap[j]?=x41.heap[j]?:=hbl;clear hbe hbl hf;have hb:Below x41.heap.size x41 x42:=⟨hb0.os,hb0.tape,hb0.output,hb0.size,fun q hq=>hgr q hq (fun q h=>absurd h (Nat.not_lt_zero _))⟩;refine R7.rest_done ?_;simp only[R7.fill,t5_,t6_,t7_,f0,f1,f2,f3,f4,f5,f6,f7,f8];clear hb0 hgr hog hlt_y hlt_z f0 f1 f2 f3 f4 f5 f6 f7 f8;replace HBQ:=Lib.hid (HBQ.out.trans (hb.mono HBQ.out.size));replace hb:=Lib.hid hb;go_wp2_with fail;go_roundw
     case rel =>
      refine⟨q+1,EQ,by go_num,rfl,hlq,Lib.hid ?_,HBQ⟩;rw[HTK.out,List.mem_append,HEQ.out];have hno:Z ∉ ts.take q:=fun h=>Bool.false_ne_true (HBI.out.2 h)
      constructor
      ·intro h;exact .inr (List.mem_singleton.2 (of_decide_eq_true h).symm)
      rintro (h | h)
      ·exact absurd h hno
      exact decide_eq_true (List.mem_singleton.1 h).symm
     case measure=>simp[intOf];omega
   have eq_:q=n:=by omega
   have HTQ:Hid (ts.take q=ts):=Lib.hid (List.take_of_length_le (by rw[eq_,HN.out];exact Nat.le_refl _));have HBM:Hid (b=true ↔ Z ∈ ts):=Lib.hid (by rw[<-HTQ.out];exact HBI.out);replace HTN:=Lib.hid (HTN.out.trans (Turn.of_below _ HBQ.out));have HPR3:Hid (∀ ov os,Pre w B P ov os (.slice lo n lc)->Pre wr B P ov os (.slice lo n lc)):=Lib.hid (fun ov os h=>(HPR2.out ov os h).below HBQ.out);replace HW:=Lib.hid (HW.out.trans (HBQ.out.mono (Nat.le_trans HBW.out HW.out.size)));clear eq_ HTQ HBI HR HPR2;cases b with
   | true =>
    have HTS:Hid (prP ts Z=prPs ts ks):=Lib.hid (by rw[HPS.out,if_neg (fun e=>e.2 (HBM.out.1 rfl))]);have HGTS:=HGT;have HLTS:Hid (ts.length<=n+1):=Lib.hid (by rw[HN.out];omega);obtain⟨⟨q0,q1,q2,q3,q4⟩,-⟩:=cells5V HBz.out;go_wp2_with fail;go_loopw [1,37] (fun av iv wr=>∃ j:Nat,iv=.int .i64 (j:Nat)/\j<=s9/\Hid (GR wr B P av (prPs (ts) (ks.take j)))/\Hid (Turn w (.slice lo n lc) wr av)/\Hid (Below B w wr)/\Hid (∀ ov os,Pre w B P ov os (.slice lo n lc)->Pre wr B P ov os av)) (fun _ iv _=>s9 - (intOf iv).toNat)
    case atStart=>exact⟨0,rfl,Nat.zero_le _,Lib.hid (by rw[List.take_zero,prPs];exact HRQ.out),HTN,HW,HPR3⟩
    case round =>
     clear q0 q1 q2 q3 q4;obtain⟨j,rfl,hj,GRJ,TNJ,WJ,PRJ⟩:=hrel;by_cases hlt:j<s9
     ·have hjl:j<ks.length:=by rw[<-HKL.out];exact hlt
      have HKJ:=Lib.hid (HK0.out.turn TNJ.out);obtain⟨a,kb,ka,k1,k2,k3,k4,k5,rfl,⟨c0,c1,c2,c3,c4⟩,hx⟩:=HKJ.out.cells j hjl;obtain⟨A,hA⟩:∃ x,x=ks[j]:=⟨_,rfl⟩;rw[<-hA] at c0 c3 hx;have HTK:Hid (prPs (ts) (ks.take (j+1))=prP (prPs (ts) (ks.take j)) A):=Lib.hid (by rw[hA];exact prPs_take hjl);have HGA:Hid (∀ y ∈ prtF A,rt y=true/\Tm 9 y):=Lib.hid (by rw[hA];exact HGK.out _ (List.getElem_mem hjl));have HGM:Hid (∀ y ∈ prPs (ts) (ks.take j),rt y=true/\Tm 9 y):=Lib.hid (fun y hy=>by
       rcases prPs_mem _ _ y hy with h | h
       ·exact HGTS.out y h
       obtain⟨k,hk,h2⟩:=prts_mem.1 h;exact HGK.out k (List.mem_of_mem_take hk) y h2)
      have HSJ:Hid ((prPs (ts) (ks.take j)).length+szF A<=900000):=Lib.hid (by
       have h1:=prPs_len (ks.take j) (ts);have h2:=szs_take hjl;have h3:=HLTS.out;have h4:=HSZ.out;have h5:=HSK.out;rw[hA];omega)
      clear hA;obtain⟨yop,hyop⟩:∃ x,x=A.op:=⟨_,rfl⟩;obtain⟨yn,hyn⟩:∃ x,x=A.name:=⟨_,rfl⟩;rw[<-hyop] at c0 hx;rw[<-hyn] at c3 hx;have HX:=Lib.hid hx;clear hx hyop hyn HKJ;obtain⟨x9,k9,e9,ek9,hb9,hk9,HB9⟩:=newV wr #[.int .i64 yop,.bool kb,.slice ka k1 k2,.string yn,.slice k3 k4 k5] 29;obtain⟨⟨u0,u1,u2,u3,u4⟩,fu0,fu1,fu2,fu3,fu4⟩:=cells5V HB9.out;go_wp2_with fail;refine (HIH.out A _ _ _ P B x9 (HX.out.below hb9.out) HGA.out (GRJ.out.below hb9.out) HGM.out HSJ.out (Nat.le_trans HBW.out (Nat.le_trans TNJ.out.1.size hb9.out.size)) (fun b hb=>HPX.out b (Nat.le_trans (Nat.le_trans TNJ.out.1.size hb9.out.size) hb)) ((HT9.out.on WJ.out).on (hb9.out.mono (Nat.le_trans HBW.out TNJ.out.1.size)))).mono ?_;rintro e w8 ⟨lv2,rfl,g1,g2,g3,g4⟩;go_wp2_with fail;go_roundw
      case rel=>exact⟨j+1,by go_num,hlt,Lib.hid (by rw[HTK.out];exact g1),Lib.hid ((TNJ.out.trans (Turn.of_below _ hb9.out)).trans g2),Lib.hid ((WJ.out.trans (hb9.out.mono (Nat.le_trans HBW.out TNJ.out.1.size))).trans g3),Lib.hid (fun ov os h=>g4 ov os ((PRJ.out ov os h).below hb9.out))⟩
      case measure=>simp[intOf];omega
     have ej:j=s9:=by omega
     have hta:ks.take j=ks:=List.take_of_length_le (by rw[ej,HKL.out];exact Nat.le_refl _);have HGF:Hid (GR wr B P _ (prP ts Z)):=Lib.hid (by have h1:=GRJ.out;rw[hta] at h1;rw[HTS.out];exact h1);clear hta;go_wp2_with fail;go_ret;exact⟨_,rfl,HGF.out,TNJ.out,WJ.out,PRJ.out⟩
   | false =>
    have HTS:Hid (prP ts Z=prPs (ts++[Z]) ks):=Lib.hid (by rw[HPS.out,if_pos ⟨HNZ.out,fun e=>Bool.false_ne_true (HBM.out.2 e)⟩]);have HGTS:Hid (∀ y ∈ ts++[Z],rt y=true/\Tm 9 y):=Lib.hid (fun y hy=>by
     rcases List.mem_append.1 hy with h | h
     ·exact HGT.out y h
     rw[List.mem_singleton] at h;rw[h];exact HGQ.out)
    have HLTS:Hid ((ts++[Z]).length<=n+1):=Lib.hid (by rw[lsa,<-HN.out];simp);obtain⟨⟨y0,y1,y2,y3,y4⟩,-⟩:=cells5V HBz.out;obtain⟨x51,kq,eq,ekq,hbq,hkq,HBq⟩:=newV wr #[.int .i64 zop,.bool b9,.slice o9 l9 d9,.string zn,.slice r9 s9 t9] 29;have HFG:Hid (FGl x51 (bs P (.slice lo n lc)) (.slice (some ⟨kq,0,none⟩) 1 1) [Z]):=Lib.hid (FGl.one (HFZ.out.below hbq.out) HBq.out ⟨fun e=>by have h1:=HRQ.out.own_lt e;have h2:=hkq.out;omega,HPX.out kq (Nat.le_trans HTN.out.1.size hkq.out)⟩);replace HRQ:=Lib.hid (HRQ.out.below hbq.out);replace HBz:=kBV hbq.out HBz;replace HTN:=Lib.hid (HTN.out.trans (Turn.of_below _ hbq.out));replace HW:=Lib.hid (HW.out.trans (hbq.out.mono (Nat.le_trans HBW.out HW.out.size)));clear HBq
    go_upto_region 10 with (at_builtin;refine GR.appendP HRQ.out rfl (.tmp 30) (.tmp 32) rfl rfl rfl HFG.out (by simp) HRQ.out.len5 (by have h1:=HSZ.out;rw[<-HN.out];simp only[lsc,lsn];omega) (Nat.le_trans HBW.out HTN.out.1.size) ?_;intro v9 w9 a1 a2 a3 a4);clear y0 y1 y2 y3 y4;replace HBz:Hid (w9.heap[kz]?=_):=Lib.hid (a2.blk HKZ.out.1 HBz.out);have HRN:=Lib.hid a1;have HTNN:=Lib.hid (HTN.out.trans a2);have HWN:=Lib.hid (HW.out.trans a3);have HPRN:Hid (∀ ov os,Pre w B P ov os (.slice lo n lc)->Pre w9 B P ov os v9):=Lib.hid (fun ov os h=>a4 ov os ((HPR3.out ov os h).below hbq.out));clear a1 a2 a3 a4;obtain⟨⟨q0,q1,q2,q3,q4⟩,-⟩:=cells5V HBz.out;go_wp2_with fail
    go_loopw [1,37] (fun av iv wr=>∃ j:Nat,iv=.int .i64 (j:Nat)/\j<=s9/\Hid (GR wr B P av (prPs (ts++[Z]) (ks.take j)))/\Hid (Turn w (.slice lo n lc) wr av)/\Hid (Below B w wr)/\Hid (∀ ov os,Pre w B P ov os (.slice lo n lc)->Pre wr B P ov os av)) (fun _ iv _=>s9 - (intOf iv).toNat)
    case atStart=>exact⟨0,rfl,Nat.zero_le _,Lib.hid (by rw[List.take_zero,prPs];exact HRN.out),HTNN,HWN,HPRN⟩
    case round =>
     clear q0 q1 q2 q3 q4;obtain⟨j,rfl,hj,GRJ,TNJ,WJ,PRJ⟩:=hrel;by_cases hlt:j<s9
     ·have hjl:j<ks.length:=by rw[<-HKL.out];exact hlt
      have HKJ:=Lib.hid (HK0.out.turn TNJ.out);obtain⟨a,kb,ka,k1,k2,k3,k4,k5,rfl,⟨c0,c1,c2,c3,c4⟩,hx⟩:=HKJ.out.cells j hjl;obtain⟨A,hA⟩:∃ x,x=ks[j]:=⟨_,rfl⟩;rw[<-hA] at c0 c3 hx;have HTK:Hid (prPs (ts++[Z]) (ks.take (j+1))=prP (prPs (ts++[Z]) (ks.take j)) A):=Lib.hid (by rw[hA];exact prPs_take hjl);have HGA:Hid (∀ y ∈ prtF A,rt y=true/\Tm 9 y):=Lib.hid (by rw[hA];exact HGK.out _ (List.getElem_mem hjl));have HGM:Hid (∀ y ∈ prPs (ts++[Z]) (ks.take j),rt y=true/\Tm 9 y):=Lib.hid (fun y hy=>by
       rcases prPs_mem _ _ y hy with h | h
       ·exact HGTS.out y h
       obtain⟨k,hk,h2⟩:=prts_mem.1 h;exact HGK.out k (List.mem_of_mem_take hk) y h2)
      have HSJ:Hid ((prPs (ts++[Z]) (ks.take j)).length+szF A<=900000):=Lib.hid (by
       have h1:=prPs_len (ks.take j) (ts++[Z]);have h2:=szs_take hjl;have h3:=HLTS.out;have h4:=HSZ.out;have h5:=HSK.out;rw[hA];omega)
      clear hA;obtain⟨yop,hyop⟩:∃ x,x=A.op:=⟨_,rfl⟩;obtain⟨yn,hyn⟩:∃ x,x=A.name:=⟨_,rfl⟩;rw[<-hyop] at c0 hx;rw[<-hyn] at c3 hx;have HX:=Lib.hid hx;clear hx hyop hyn HKJ;obtain⟨x9,k9,e9,ek9,hb9,hk9,HB9⟩:=newV wr #[.int .i64 yop,.bool kb,.slice ka k1 k2,.string yn,.slice k3 k4 k5] 29;obtain⟨⟨u0,u1,u2,u3,u4⟩,fu0,fu1,fu2,fu3,fu4⟩:=cells5V HB9.out;go_wp2_with fail;refine (HIH.out A _ _ _ P B x9 (HX.out.below hb9.out) HGA.out (GRJ.out.below hb9.out) HGM.out HSJ.out (Nat.le_trans HBW.out (Nat.le_trans TNJ.out.1.size hb9.out.size)) (fun b hb=>HPX.out b (Nat.le_trans (Nat.le_trans TNJ.out.1.size hb9.out.size) hb)) ((HT9.out.on WJ.out).on (hb9.out.mono (Nat.le_trans HBW.out TNJ.out.1.size)))).mono ?_;rintro e w8 ⟨lv2,rfl,g1,g2,g3,g4⟩;go_wp2_with fail;go_roundw
      case rel=>exact⟨j+1,by go_num,hlt,Lib.hid (by rw[HTK.out];exact g1),Lib.hid ((TNJ.out.trans (Turn.of_below _ hb9.out)).trans g2),Lib.hid ((WJ.out.trans (hb9.out.mono (Nat.le_trans HBW.out TNJ.out.1.size))).trans g3),Lib.hid (fun ov os h=>g4 ov os ((PRJ.out ov os h).below hb9.out))⟩
      case measure=>simp[intOf];omega
     have ej:j=s9:=by omega
     have hta:ks.take j=ks:=List.take_of_length_le (by rw[ej,HKL.out];exact Nat.le_refl _);have HGF:Hid (GR wr B P _ (prP ts Z)):=Lib.hid (by have h1:=GRJ.out;rw[hta] at h1;rw[HTS.out];exact h1);clear hta;go_wp2_with fail;go_ret;exact⟨_,rfl,HGF.out,TNJ.out,WJ.out,PRJ.out⟩
def uC (u:FU):Array Value:=#[.int .i64 u.k,.bool (decide (u.n.z<0)),.slice u.n.o u.n.l u.n.c,.string u.nm,.slice u.ko u.kl u.kc]
def zC:Array Value:=#[.int .i64 0,.bool false,.slice none 0 0,.string ⟨#[]⟩,.slice none 0 0]
structure JK (W0:World) (t0:Array Value) (sl:Nat->Nat) (kv:Nat->Value) (u:FU) (d:Nat->Bool) (T:Array Value) (w:World):Prop where
 be:Below W0.heap.size W0 w
 sz:T.size=t0.size
 oth:∀ j,(∀ i,i<8->j≠sl i)->T[j]?=t0[j]?
 val:∀ j,j<6->d j=true->T[sl j]?=some (kv j)
 pa:d 6=true->∃ g,T[sl 6]?=some (.pointer (some ⟨g,0,none⟩))/\W0.heap.size<=g/\w.heap[g]?=some (.cells (if d 8=true then uC u else zC) 29 (0,0))
 pb:d 7=true->∃ g,T[sl 7]?=some (.pointer (some ⟨g,0,none⟩))/\W0.heap.size<=g/\w.heap[g]?=some (.cells zC 29 (0,0))
 dis:d 6=true->d 7=true->T[sl 6]? ≠ T[sl 7]?
section
variable {W0:World} {t0:Array Value} {sl:Nat->Nat} {kv:Nat->Value} {u:FU} {d:Nat->Bool} {T:Array Value} {w w':World}
theorem JK.start (W0:World) (t0:Array Value) (sl:Nat->Nat) (kv:Nat->Value) (u:FU):JK W0 t0 sl kv u (fun _=>false) t0 W0.drew:=
 ⟨(Below.refl _ _).drew,rfl,fun _ _=>rfl,fun k _ h=>absurd h Bool.false_ne_true,fun h=>absurd h Bool.false_ne_true,fun h=>absurd h Bool.false_ne_true,fun h=>absurd h Bool.false_ne_true⟩
theorem JK.stepV (h:JK W0 t0 sl kv u d T w) (hs:SlOk 8 sl t0.size) (i:Nat) (hi:i<6):JK W0 t0 sl kv u (Rel9.upd d i) (T.setIfInBounds (sl i) (kv i)) w:=by
 have hsz:sl i<T.size:=by rw[h.sz];exact hs.lt i (by omega)
 have get:∀ k,k<8->k≠i->(T.setIfInBounds (sl i) (kv i))[sl k]?=T[sl k]?:=fun k hk hki=>set_ne (hs.ne k i hk (by omega) hki)
 refine⟨h.be,by rw[Array.size_setIfInBounds,h.sz],fun j hj=>?_,fun k hk hu=>?_,fun hu=>?_,fun hu=>?_,fun h6 h7=>?_⟩
 ·rw[set_ne (hj i (by omega))];exact h.oth j hj
 ·by_cases e:k=i
  ·subst e;exact set_eq hsz
  rw[upd_ne' e] at hu;rw[get k (by omega) e];exact h.val k hk hu
 ·rw[upd_ne' (by omega)] at hu;rw[upd_ne' (show 8≠i by omega),get 6 (by omega) (by omega)];exact h.pa hu
 ·rw[upd_ne' (by omega)] at hu;rw[get 7 (by omega) (by omega)];exact h.pb hu
 rw[upd_ne' (by omega)] at h6 h7;rw[get 6 (by omega) (by omega),get 7 (by omega) (by omega)];exact h.dis h6 h7
theorem JK.stepP (h:JK W0 t0 sl kv u d T w) (hs:SlOk 8 sl t0.size) (i:Nat) (hi:i=6/\d 8=false\/i=7) (hd:d i=false) :
  JK W0 t0 sl kv u (Rel9.upd d i) (T.setIfInBounds (sl i) (.pointer (some ⟨w.heap.size,0,none⟩))) (w.alloc (.cells zC 29)):=by
 have hi8:i<8:=by omega
 have hsz:sl i<T.size:=by rw[h.sz];exact hs.lt i hi8
 have hb:Below w.heap.size w (w.alloc (.cells zC 29)):=(Below.refl _ _).alloc (Nat.le_refl _) _;have get:∀ k,k<8->k≠i->(T.setIfInBounds (sl i) (.pointer (some ⟨w.heap.size,0,none⟩)))[sl k]?=T[sl k]?:=fun k hk hki=>set_ne (hs.ne k i hk hi8 hki)
 have geti:(T.setIfInBounds (sl i) (.pointer (some ⟨w.heap.size,0,none⟩)))[sl i]?=some (.pointer (some ⟨w.heap.size,0,none⟩)):=set_eq hsz;have hne:∀ g,g<w.heap.size->(some (Value.pointer (some ⟨w.heap.size,0,none⟩)):Option Value)≠some (.pointer (some ⟨g,0,none⟩)):=fun g hg e=>by
  injection e with e;injection e with e;injection e with e;injection e with e;omega
 refine⟨h.be.trans (hb.mono h.be.size),by rw[Array.size_setIfInBounds,h.sz],fun j hj=>?_,fun k hk hu=>?_,fun hu=>?_,fun hu=>?_,fun h6 h7=>?_⟩
 ·rw[set_ne (hj i hi8)];exact h.oth j hj
 ·have e:k≠i:=by omega
  rw[upd_ne' e] at hu;rw[get k (by omega) e];exact h.val k hk hu
 ·rw[upd_ne' (show 8≠i by omega)];by_cases e:i=6
  ·subst e;have h8:d 8=false:=by
    rcases hi with hi | hi
    ·exact hi.2
    omega
   rw[h8];exact⟨_,geti,h.be.size,heap_alloc_new w _⟩
  rw[upd_ne' (fun q=>e q.symm)] at hu;rw[get 6 (by omega) (fun q=>e q.symm)];obtain⟨g,h1,h2,h3⟩:=h.pa hu;exact⟨g,h1,h2,(hb.block g (lt_of_block h3)).trans h3⟩
 ·by_cases e:i=7
  ·subst e;exact⟨_,geti,h.be.size,heap_alloc_new w _⟩
  rw[upd_ne' (fun q=>e q.symm)] at hu;rw[get 7 (by omega) (fun q=>e q.symm)];obtain⟨g,h1,h2,h3⟩:=h.pb hu;exact⟨g,h1,h2,(hb.block g (lt_of_block h3)).trans h3⟩
 by_cases e:i=6
 ·subst e;rw[upd_ne' (by omega)] at h7;rw[geti,get 7 (by omega) (by omega)];obtain⟨g,h1,h2,h3⟩:=h.pb h7;rw[h1];exact hne g (lt_of_block h3)
 have e7:i=7:=by omega
 subst e7;rw[upd_ne' (by omega)] at h6;rw[geti,get 6 (by omega) (by omega)];obtain⟨g,h1,h2,h3⟩:=h.pa h6;rw[h1];exact fun q=>hne g (lt_of_block h3) q.symm
theorem JK.stepS (h:JK W0 t0 sl kv u d T w) {g:Nat} (h6:d 6=true) (hg:T[sl 6]?=some (.pointer (some ⟨g,0,none⟩))) (hw:w.grownBy w' (some g)) (hc:w'.heap[g]?=some (.cells (uC u) 29 (0,0))):JK W0 t0 sl kv u (Rel9.upd d 8) T w':=by
 obtain⟨g1,e1,e2,e3⟩:=h.pa h6;rw[hg] at e1;injection e1 with e1;injection e1 with e1;injection e1 with e1;injection e1 with e1;subst e1;refine⟨ext_below h.be hw e2,h.sz,h.oth,fun k hk hu=>?_,fun hu=>?_,fun hu=>?_,fun a6 a7=>?_⟩
 ·rw[upd_ne' (by omega)] at hu;exact h.val k hk hu
 ·have e8:Rel9.upd d 8 8=true:=by unfold Rel9.upd;simp
  rw[e8];exact⟨g,hg,e2,hc⟩
 ·rw[upd_ne' (by omega)] at hu;obtain⟨g2,q1,q2,q3⟩:=h.pb hu;refine⟨g2,q1,q2,(hw.block g2 (lt_of_block q3) (fun e=>?_)).trans q3⟩;injection e with e;exact h.dis h6 hu (by rw[hg,q1,e])
 rw[upd_ne' (by omega)] at a6 a7;exact h.dis a6 a7
theorem JK.slok (h:JK W0 t0 sl kv u d T w) (hne:∀ i j,i<8->j<8->i≠j->sl i≠sl j) {m:Nat} (hlt:∀ i,i<8->sl i<m) (hm:m<=t0.size):SlOk 8 sl t0.size:=⟨hne,fun i hi=>Nat.lt_of_lt_of_le (hlt i hi) hm⟩
theorem JK.fin (h:JK W0 t0 sl kv u d T w) (hs:SlOk 8 sl t0.size) {vs:List Value} (hl:vs.length=8) (hv:Vs T sl 0 vs):T=fillW sl vs 0 t0:=
 hv.fill h.sz (fun i _ h2=>hs.lt i (by omega)) (fun q hq=>h.oth q (fun i hi=>hq i (Nat.zero_le _) (by omega)))
variable {ds:List Deferred} {Q:Exit->Act->World->Prop}
def Opk (W0:World) (t0:Array Value) (sl:Nat->Nat) (kv:Nat->Value) (u:FU) (d:Nat->Bool) (T:Array Value) (w:World) (ds:List Deferred) (Q:Exit->Act->World->Prop) (i:Nat) (o:Oper):Prop:=
 o.guard=none/\∀ K:Act->World->Prop,Hid (∀ T' w',JK W0 t0 sl kv u (Rel9.upd d i) T' w'->K ⟨T',ds⟩ w')->o.wp Tryz.prog ⟨T,ds⟩ w K Q
theorem JK.opMv (h:JK W0 t0 sl kv u d T w) (hs:SlOk 8 sl t0.size) (i:Nat) (hi:i<6) {r p:Nat} {v:Value} {ty:TypeId} {ps:String} {ed:Array Edge} (hsl:sl i=r) (hp:∀ i,i<8->p≠sl i) (hv:t0[p]?=some v) (hk:kv i=v):Opk W0 t0 sl kv u d T w ds Q i ⟨some r,.move (.tmp p),ty,ps,ed,none⟩:=by
 have e:T[p]?=some v:=(h.oth p hp).trans hv;refine⟨rfl,fun K hK=>?_⟩;have h9:=hK.out _ _ (h.stepV hs i hi);clear hK;rw[hsl,hk] at h9;go_simp
 exact h9
theorem JK.opIx (h:JK W0 t0 sl kv u d T w) (hs:SlOk 8 sl t0.size) (i:Nat) (hi:i<6) (j:Nat) (hj:j<6) (hdj:d j=true) {r a q L c:Nat} {p:Addr} {ty:TypeId} {ps:String} {ed:Array Edge} (hq:q<L) (hL:L<=9223372036854775807) (hsl:sl i=r) (hsj:sl j=a) (hkj:kv j=.slice (some p) L c) (hk:kv i=.pointer (some (p.add (q*5)))) :
  Opk W0 t0 sl kv u d T w ds Q i ⟨some r,.indexAddr 27 (.tmp a) (.const (.int .i64 (q:Nat))),ty,ps,ed,none⟩:=by
 have e:=h.val j hj hdj;rw[hsj,hkj] at e;refine⟨rfl,fun K hK=>?_⟩;have h9:=hK.out _ _ (h.stepV hs i hi);clear hK;rw[hsl,hk] at h9;go_simp
 exact h9
def ElAt (w:World) (p:Addr) (q:Nat) (x:FU):Prop:=∃ a:Addr,a=p.add (q*5)/\a.block<w.heap.size/\w.cell? a=some (.int .i64 x.k)/\w.cell? ⟨a.block,a.off+1,none⟩=some (.bool (decide (x.n.z<0)))/\w.cell? ⟨a.block,a.off+2,none⟩=some (.slice x.n.o x.n.l x.n.c) /\
 w.cell? ⟨a.block,a.off+3,none⟩=some (.string x.nm)/\w.cell? ⟨a.block,a.off+4,none⟩=some (.slice x.ko x.kl x.kc)
theorem FGl.elem {w:World} {S:Nat->Prop} {p:Addr} {L c:Nat} {ts:List F} (h:FGl w S (.slice (some p) L c) ts) (q:Nat) (hq:q<ts.length):∃ (x:FU) (d:Nat),ElAt w p q x/\FT w S d x ts[q]:=by
 obtain⟨us,⟨ko,kc,e,-,h4⟩,-,h5,d,h6⟩:=h;injection e with e1 e2 e3;have hu:q<us.length:=by rw[h5];exact hq
 obtain⟨a,e6,⟨c2,hc⟩,hcell,-⟩:=h4 q hu;rw[<-e1] at e6;injection e6 with e6;subst e6;have hb:(p.add (q*5)).block=p.block:=by rw[add_blockV]
 refine⟨us[q],d,⟨_,rfl,by rw[hb];exact lt_of_block hc,?_,?_,?_,?_,?_⟩,h6 q hu hq⟩
 ·exact hcell 0 _ rfl
 ·have:=hcell 1 _ rfl;rw[<-add_addV] at this;exact this
 ·have:=hcell 2 _ rfl;rw[<-add_addV] at this;exact this
 ·have:=hcell 3 _ rfl;rw[<-add_addV] at this;exact this
 have:=hcell 4 _ rfl;rw[<-add_addV] at this;exact this
theorem JK.opLi (h:JK W0 t0 sl kv u d T w) (hs:SlOk 8 sl t0.size) (i:Nat) (hi:i<6) (j:Nat) (hj:j<6) (hdj:d j=true) {r a q:Nat} {p:Addr} {x:FU} {ty:TypeId} {ps:String} {ed:Array Edge} (hx:ElAt W0 p q x) (hsl:sl i=r) (hsj:sl j=a) (hkj:kv j=.pointer (some (p.add (q*5)))) (hk:kv i=fV x) :
  Opk W0 t0 sl kv u d T w ds Q i ⟨some r,.load 29 (.tmp a),ty,ps,ed,none⟩:=by
 have e:=h.val j hj hdj;rw[hsj,hkj] at e;obtain⟨b,hb,hl,c0,c1,c2,c3,c4⟩:=hx;rw[<-hb] at e;have hkeep:=h.be.block b.block hl;have k0:=(cell_keepF (p:=b) hkeep).trans c0;have k1:=(cell_keepF (p:=⟨b.block,b.off+1,none⟩) hkeep).trans c1;have k2:=(cell_keepF (p:=⟨b.block,b.off+2,none⟩) hkeep).trans c2;have k3:=(cell_keepF (p:=⟨b.block,b.off+3,none⟩) hkeep).trans c3;have k4:=(cell_keepF (p:=⟨b.block,b.off+4,none⟩) hkeep).trans c4;refine⟨rfl,fun K hK=>?_⟩;have h9:=hK.out _ _ (h.stepV hs i hi);clear hK c0 c1 c2 c3 c4 hkeep hb hkj;rw[hsl,hk] at h9;unfold fV at h9;go_simp
 exact h9
theorem JK.opPt (h:JK W0 t0 sl kv u d T w) (hs:SlOk 8 sl t0.size) (i:Nat) (hi:i=6/\d 8=false\/i=7) (hd:d i=false) {r:Nat} {ty:TypeId} {ps:String} {ed:Array Edge} (hsl:sl i=r) :
  Opk W0 t0 sl kv u d T w ds Q i ⟨some r,.alloc 29,ty,ps,ed,none⟩:=by
 refine⟨rfl,fun K hK=>?_⟩;have h9:=hK.out _ _ (h.stepP hs i hi hd);clear hK;rw[hsl] at h9;unfold zC at h9;go_simp
 exact h9
theorem JK.opSt (h:JK W0 t0 sl kv u d T w) (h2:d 2=true) (h6:d 6=true) (h8:d 8=false) {a b:Nat} {ty:TypeId} {ps:String} {ed:Array Edge} (hsa:sl 6=a) (hsb:sl 2=b) (hk:kv 2=fV u) :
  Opk W0 t0 sl kv u d T w ds Q 8 ⟨none,.store 29 (.tmp a) (.tmp b),ty,ps,ed,none⟩:=by
 obtain⟨g,e6,e7,hz⟩:=h.pa h6;rw[h8] at hz;replace hz:w.heap[g]?=some (.cells #[.int .i64 0,.bool false,.slice none 0 0,.string ⟨#[]⟩,.slice none 0 0] 29 (0,0)):=hz;have e:=h.val 2 (by decide) h2;refine⟨rfl,fun K hK=>?_⟩;have h9:=hK.out _ _ (h.stepS h6 e6 (grown5V (w:=w) (k:=g) (.int .i64 u.k) (.bool (decide (u.n.z<0))) (.slice u.n.o u.n.l u.n.c) (.string u.nm) (.slice u.ko u.kl u.kc)) (set5_same hz _ _ _ _ _));rw[hsb,hk] at e;rw[hsa] at e6;unfold fV at e;obtain⟨⟨u0,u1,u2,u3,u4⟩,fu0,fu1,fu2,fu3,fu4⟩:=cells5V hz;clear hK hz;go_simp
 exact h9
end
end Go.Proofs.YtoncclhbdkjhmaaGreatDoor
