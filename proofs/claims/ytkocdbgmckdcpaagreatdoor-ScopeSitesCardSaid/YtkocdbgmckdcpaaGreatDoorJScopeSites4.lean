/-
 Joined texts: PsI,PsJ,PsL,PsO,PsK,PsKi,SsF,SsB,SsC.
-/
import Derived.Deep.AppendLies
import Derived.Deep.MidRow
import Derived.Shelf.Abstract
import Derived.Shelf.RegionOpen
import Derived.WalkKit
import Derived.OwnWalkIn
import Derived.TacticsInMore
import Derived.LoopNIn
import Derived.LoopIn
import Derived.Test.YtkocdbgmckdcpaaGreatDoorJScopeSites1
import Derived.Test.YtkocdbgmckdcpaaGreatDoorJScopeSites3
set_option maxHeartbeats 32000000
namespace Go.Proofs.YtkocdbgmckdcpaaGreatDoor
open Go.RowKit
set_option maxRecDepth 100000
set_option linter.unusedVariables false
theorem setCell_comm (w:World) (p q:Addr) (u v:Value) (h:p.block≠q.block):(w.setCell p u).setCell q v=(w.setCell q v).setCell p u:=by
 unfold World.setCell;simp only
 congr 1
 refine Array.ext_getElem? fun i=>?_
 simp only[Array.getElem?_modify]
 by_cases h1:p.block=i
 ·have h2:¬ q.block=i:=fun e=>h (h1.trans e.symm)
  simp[h1,h2]
 by_cases h2:q.block=i<;>simp[h1,h2]
theorem setCells_comm (b:Nat) (q:Addr) (u:Value) (h:q.block≠b):∀ (cs:List Value) (o:Nat) (w:World),(w.setCell q u).setCells b o cs=(w.setCells b o cs).setCell q u
 | [],_,_=>rfl
 | c::cs,o,w=>by
  simp only[World.setCells];rw[setCell_comm w q ⟨b,o,none⟩ u c h];exact setCells_comm b q u h cs (o+1) _
theorem setCells_cells {b:Nat} {T:TypeId}:∀ (cs:List Value) (o:Nat) (w:World) (cur:Array Value),w.heap[b]?=some (.cells cur T (0,0))->∃ cur',(w.setCells b o cs).heap[b]?=some (.cells cur' T (0,0))/\cur'.size=cur.size/\∀ i,(i<o->cur'[i]?=cur[i]?)/\(∀ j,o+cs.length<=cur.size->i=o+j->j<cs.length->cur'[i]?=cs[j]?)
 | [],o,w,cur,h=>⟨cur,h,rfl,fun i=>⟨fun _=>rfl,fun j _ _ hj=>absurd hj (Nat.not_lt_zero j)⟩⟩
 | c::cs,o,w,cur,h=>by
  have h1:(w.setCell ⟨b,o,none⟩ c).heap[b]?=some (.cells (cur.setIfInBounds o c) T (0,0)):=heap_setCell_same w b o _ T c h;obtain⟨cur',a1,a2,a3⟩:=setCells_cells cs (o+1) _ _ h1;refine⟨cur',a1,by rw[a2];simp,fun i=>⟨fun hi=>?_,fun j hl hj hjl=>?_⟩⟩
  ·rw[(a3 i).1 (by omega),Array.getElem?_setIfInBounds_ne (by omega)]
  cases j with
  | zero =>
   have hi:i<o+1:=by omega
   rw[(a3 i).1 hi];have:i=o:=by omega
   subst this
   simp at hl
   simp[show i<cur.size by omega]
  | succ j =>
   simp only[lsc] at hl hjl;have:=(a3 i).2 j (by simp;omega) (by omega) (by omega);rw[this];simp
theorem setCells_grown (b:Nat):∀ (cs:List Value) (o:Nat) (w:World),w.grownBy (w.setCells b o cs) (some b)
 | [],_,w=>World.grownBy.refl _ _
 | c::cs,o,w=>grown_tr (grown_set w b o c) (setCells_grown b cs (o+1) _)
def AllAt (w:World) (B ka kb:Nat) (us:List U):Prop:=∃ (ko:Option Addr) (kc:Nat) (ys:List X),w.heap[ka]?=some (.cells #[.slice ko us.length kc] 36 (0,0))/\w.ownsRow (ka+1) 46 8 (.slice ko us.length kc) us.length (ys.flatMap xc)/\ys.length=us.length /\
 ∀ i (h1:i<ys.length) (h2:i<us.length),Um w (fun b=>B<=b/\b≠ka/\b≠kb/\(Value.slice ko us.length kc).ownBlock≠some b) ys[i] us[i]
theorem AllAt.keep {w w':World} {B ka kb g:Nat} {us:List U} (h:AllAt w B ka kb us) (hg:w.grownBy w' (some g)) (h1:g<B) (h2:g<ka):AllAt w' B ka kb us:=by
 obtain⟨ko,kc,ys,a1,a2,a3,a4⟩:=h;refine⟨ko,kc,ys,(hg.block _ (lt_of_block a1) (fun e=>by injection e with e;omega)).trans a1,World.ownsRow.kept a2 hg ?_,a3,fun i p q=>(a4 i p q).grown hg (fun h=>by have:=h.1;omega)⟩
 cases hv:(Value.slice ko us.length kc).ownBlock with
 | none=>exact .inl rfl
 | some j=>exact .inr (fun e=>by injection e with e;have:=(World.ownsRow.lt a2 j hv).1;omega)
theorem infoExpr1:(Tryz.prog.info? 46).map (·.size)=some 8:=by kernel_rfl
theorem all_tail {ops:Array Oper} {Q:Exit->Act->World->Prop} (a:Act) (w:World) (l:Array Bool) {o5 o6 o7 o8:Oper}
  (ho5:ops[5]?=some o5) (ho6:ops[6]?=some o6) (ho7:ops[7]?=some o7) (ho8:ops[8]?=some o8) (q5:o5.guard=none) (q6:o6.guard=none) (q7:o7.guard=none) (q8:o8.guard=none)
  (r0:Region.ready .any ops l=[5]) (r1:Region.ready .any ops (l.setIfInBounds 5 true)=[6,8]) (r2:Region.ready .any ops ((l.setIfInBounds 5 true).setIfInBounds 6 true)=[7,8])
  (r3:Region.ready .any ops (((l.setIfInBounds 5 true).setIfInBounds 6 true).setIfInBounds 7 true)=[8]) (r4:Region.ready .any ops ((((l.setIfInBounds 5 true).setIfInBounds 6 true).setIfInBounds 7 true).setIfInBounds 8 true)=[])
  (r5:Region.ready .any ops (((l.setIfInBounds 5 true).setIfInBounds 6 true).setIfInBounds 8 true)=[7]) (r6:Region.ready .any ops ((((l.setIfInBounds 5 true).setIfInBounds 6 true).setIfInBounds 8 true).setIfInBounds 7 true)=[])
  (r7:Region.ready .any ops ((l.setIfInBounds 5 true).setIfInBounds 8 true)=[6]) (r8:Region.ready .any ops (((l.setIfInBounds 5 true).setIfInBounds 8 true).setIfInBounds 6 true)=[7]) (r9:Region.ready .any ops ((((l.setIfInBounds 5 true).setIfInBounds 8 true).setIfInBounds 6 true).setIfInBounds 7 true)=[])
  (s x:Operand) (e5:o5.op=.call { callee:=.builtin .append,args:=#[s,x],argTypes:=#[36,36] }) (ka n kc:Nat) (ko:Option Addr) (hs:a.eval s=.slice ko n kc) (xs:List Value)
  (hown:w.ownsRow (ka+1) 46 8 (.slice ko n kc) n xs) (hka:w.heap[ka]?=some (.cells #[.slice ko n kc] 36 (0,0)))
  (h4:Nat) (hx:a.eval x=.slice (some ⟨h4,0,none⟩) 1 1) (hz:w.heap[h4]?=some (.cells #[.int .i64 0,.string ⟨#[]⟩,.string ⟨#[]⟩,.bool false,.slice none 0 0,.slice none 0 0,.int .i64 0,.int .i64 0] 46 (0,0))) (hn:n<=100000)
  (v6 ix:Operand) (e6:o6.op=.indexAddr 36 v6 ix) (he6:∀ v',(a.put o5.dst v').eval v6=v') (hi6:∀ v',(a.put o5.dst v').eval ix=.int .i64 (n:Nat))
  (p7 y7:Operand) (e7:o7.op=.store 46 p7 y7) (d7:o7.dst=none) (cs:List Value) (hc8:cs.length=8) (hc1:∀ v ∈ cs,v.oneCell'=true) (he7:∀ v' q,((a.put o5.dst v').put o6.dst q).eval p7=q) (hy7:∀ v' q,((a.put o5.dst v').put o6.dst q).eval y7=.agg cs.toArray)
  (p8 v8:Operand) (e8:o8.op=.store 36 p8 v8) (d8:o8.dst=none) (he8:∀ v',(a.put o5.dst v').eval p8=.pointer (some ⟨ka,0,none⟩)) (hv8:∀ v',(a.put o5.dst v').eval v8=v')
  (he8':∀ v' q,((a.put o5.dst v').put o6.dst q).eval p8=.pointer (some ⟨ka,0,none⟩)) (hv8':∀ v' q,((a.put o5.dst v').put o6.dst q).eval v8=v')
  (hQ:∀ gq cap w' q,w'.heap[ka]?=some (.cells #[.slice (some ⟨gq,0,none⟩) (n+1) cap] 36 (0,0))->w'.ownsRow (ka+1) 46 8 (.slice (some ⟨gq,0,none⟩) (n+1) cap) (n+1) (xs++cs) ->
   (∀ k,k<w.heap.size->k≠ka->(Value.slice ko n kc).ownBlock≠some k->w'.heap[k]?=w.heap[k]?)->w'.os=w.os->w'.tape=w.tape->w'.output=w.output->w.heap.size<=w'.heap.size ->
   ((Value.slice ko n kc).ownBlock=some gq\/gq=w.heap.size)->Q .normal ((a.put o5.dst (.slice (some ⟨gq,0,none⟩) (n+1) cap)).put o6.dst q) w'):wpAny Tryz.prog .any ops Q 4 l a w:=by
 obtain⟨i,hi,hz0,hz1,hz2⟩:=info_parts infoExpr;have hkl:=lt_of_block hka
 have one:∀ {fuel k:Nat} {o:Oper} {l:Array Bool} {a:Act} {w:World},Region.ready .any ops l=[k]->ops[k]?=some o->o.guard=none->o.wp Tryz.prog a w (wpAny Tryz.prog .any ops Q fuel (l.setIfInBounds k true)) Q->wpAny Tryz.prog .any ops Q (fuel+1) l a w:=by
  intro fuel k o l a w hr ho hg h;refine⟨fun h0=>(by rw[hr] at h0;cases h0),fun j hj=>?_⟩;rw[hr,List.mem_singleton] at hj;subst hj;unfold wpOp;rw[ho];have hw:∀ y,Region.wanted o y=true:=fun y=>by unfold Region.wanted;rw[hg]
  simp only[hw,if_true];exact Or.inl h
 have two:∀ {fuel k k':Nat} {o o':Oper} {l:Array Bool} {a:Act} {w:World},Region.ready .any ops l=[k,k']->ops[k]?=some o->ops[k']?=some o'->o.guard=none->o'.guard=none->o.wp Tryz.prog a w (wpAny Tryz.prog .any ops Q fuel (l.setIfInBounds k true)) Q->o'.wp Tryz.prog a w (wpAny Tryz.prog .any ops Q fuel (l.setIfInBounds k' true)) Q->wpAny Tryz.prog .any ops Q (fuel+1) l a w:=by
  intro fuel k k' o o' l a w hr ho ho' hg hg' h h';have hw:∀ y,Region.wanted o y=true:=fun y=>by unfold Region.wanted;rw[hg]
  have hw':∀ y,Region.wanted o' y=true:=fun y=>by unfold Region.wanted;rw[hg']
  refine⟨fun h0=>(by rw[hr] at h0;cases h0),fun j hj=>?_⟩;rw[hr] at hj;rcases List.mem_cons.1 hj with rfl | hj
  ·unfold wpOp;rw[ho];simp only[hw,if_true];exact Or.inl h
  rw[List.mem_singleton] at hj;subst hj;unfold wpOp;rw[ho'];simp only[hw',if_true];exact Or.inl h'
 refine one r0 ho5 q5 ?_
 refine wp_append_lies w s x 36 e5 (ka+1) 46 i _ 8 112 Tryz.underlying36 hi hz0 hz1 hz2 rfl (by decide) (.slice ko n kc) n xs hs hown ⟨h4,0,none⟩ 1 1 [.int .i64 0,.string ⟨#[]⟩,.string ⟨#[]⟩,.bool false,.slice none 0 0,.slice none 0 0,.int .i64 0,.int .i64 0] hx rfl (fun j u hj=>World.news_of_block hz j u (by simpa using hj)) (by
  intro u hu;simp only[List.mem_cons,List.not_mem_nil,or_false] at hu
  rcases hu with rfl | rfl | rfl | rfl | rfl | rfl | rfl | rfl<;>rfl) (by decide) (by unfold maxLen;omega) (by omega) (by omega) w.heap.size rfl ?_
 intro gq cap w1 hown1 hg1 hat hlt
 obtain⟨cur,hcur,hle,hcm,hcs,htk⟩:∃ cur,w1.heap[gq]?=some (.cells cur 46 (0,0))/\n+1<=cap/\cap<=maxLen/\cur.size=cap*8/\cur.toList.take ((n+1)*8)=xs++[.int .i64 0,.string ⟨#[]⟩,.string ⟨#[]⟩,.bool false,.slice none 0 0,.slice none 0 0,.int .i64 0,.int .i64 0]:=by
  rcases hown1.2 with ⟨h,-⟩ | ⟨g',cap',cur,hv,-,h1,h2,h3,h5,h6⟩
  ·cases h
  injection hv with hv1 hv2 hv3;injection hv1 with hv1;injection hv1 with hv1;subst hv1 hv3;exact⟨cur,h1,h2,h3,h5,h6⟩
 have hxl:xs.length=n*8:=hown.1
 have hge:ka<gq:=by
  rcases hat with h | h
  ·have:=(World.ownsRow.lt hown gq h).1;omega
  omega
 have hka1:w1.heap[ka]?=some (.cells #[.slice ko n kc] 36 (0,0)):=(hg1.block ka hkl (fun e=>by have:=(World.ownsRow.lt hown ka e.symm).1;omega)).trans hka
 have hi6':∀ v' w2 (K:Act->World->Prop),v'=Value.slice (some ⟨gq,0,none⟩) (n+1) cap->K ((a.put o5.dst v').put o6.dst (.pointer (some ⟨gq,n*8,none⟩))) w2->o6.wp Tryz.prog (a.put o5.dst v') w2 K Q:=by
  intro v' w2 K hv hK;subst hv
  have hrun:(Instr.indexAt 36 (.slice (some ⟨gq,0,none⟩) (n+1) cap) (.int .i64 (n:Nat))).run Tryz.prog w2=.ok (.pointer (some ⟨gq,n*8,none⟩)) w2:=by
   have h0:(0:Int)<=(n:Int):=by omega
   have h1:(n:Int)<((n+1:Nat):Int):=by omega
   rw[run_indexAt_slice w2 36 ⟨gq,0,none⟩ (n+1) cap .i64 (n:Nat) (by kernel_rfl)];go_simp
   exact fun h=>absurd h (by omega)
  unfold Oper.wp execOp;simp only[e6,he6,hi6,Sem.run_bind,hrun,Result.andThen_ok,Sem.run_pure];exact hK
 have there:∀ w2:World,w2.heap[gq]?=some (.cells cur 46 (0,0))->w2.there gq (n*8) cs.toArray.size:=by
  intro w2 h j hj;have hj8:j<8:=by rw[<-hc8];simpa using hj
  have hlt:n*8+j<cur.size:=by rw[hcs];omega
  exact⟨by rw[cell_at h (n*8+j) (Array.getElem?_eq_getElem hlt)];rfl,froz_at h _⟩
 have h7:∀ v' q w2 (K:Act->World->Prop),q=Value.pointer (some ⟨gq,n*8,none⟩)->w2.heap[gq]?=some (.cells cur 46 (0,0))->K ((a.put o5.dst v').put o6.dst q) (w2.setCells gq (n*8) cs)->o7.wp Tryz.prog ((a.put o5.dst v').put o6.dst q) w2 K Q:=by
  intro v' q w2 K hq h hK;refine wp_store_mid 46 p7 y7 e7 gq (n*8) cs.toArray (by rw[he7,hq]) (hy7 v' q) (there w2 h) (by rw[List.size_toArray,hc8];exact infoExpr1) (all_oneCell_toArray hc1) ?_;rw[d7];exact hK
 have h8:∀ act v' w2 (K:Act->World->Prop),act.eval p8=.pointer (some ⟨ka,0,none⟩)->act.eval v8=v'->v'=Value.slice (some ⟨gq,0,none⟩) (n+1) cap->w2.heap[ka]?=some (.cells #[.slice ko n kc] 36 (0,0))->K act (w2.setCell ⟨ka,0,none⟩ v')->o8.wp Tryz.prog act w2 K Q:=by
  intro act v' w2 K hp hv hv2 h hK;have c0:=cell_at (v:=.slice ko n kc) h 0 rfl;have f0:=froz_at h 0;subst hv2;unfold Oper.wp execOp;simp only[e8,hp,hv];go_simp
  exact hK
 have hfin:∀ q v',v'=Value.slice (some ⟨gq,0,none⟩) (n+1) cap->Q .normal ((a.put o5.dst v').put o6.dst q) ((w1.setCells gq (n*8) cs).setCell ⟨ka,0,none⟩ v'):=by
  intro q v' hv;subst hv;obtain⟨cur',c1,c2,c3⟩:=setCells_cells cs (n*8) w1 cur hcur;have hgr:=grown_tr (setCells_grown gq cs (n*8) w1) (World.grownBy.refl _ _);have hk:∀ k,k≠gq->k<w1.heap.size->(w1.setCells gq (n*8) cs).heap[k]?=w1.heap[k]?:=fun k h1 h2=>(setCells_grown gq cs (n*8) w1).block k h2 (fun e=>h1 (by injection e))
  have hka2:=(hk ka (by omega) (lt_of_block hka1)).trans hka1;have hset:∀ k,k≠ka->((w1.setCells gq (n*8) cs).setCell ⟨ka,0,none⟩ (.slice (some ⟨gq,0,none⟩) (n+1) cap)).heap[k]?=(w1.setCells gq (n*8) cs).heap[k]?:=fun k h=>set1_other _ _ _ _ h
  refine hQ gq cap _ q ?_ ⟨?_,.inr ⟨gq,cap,cur',rfl,hge,(hset gq (by omega)).trans c1,hle,hcm,by rw[c2,hcs],?_⟩⟩ (fun k h1 h2 h3=>?_) ?_ ?_ ?_ ?_ hat
  ·rw[heap_setCell_same _ ka 0 _ _ _ hka2];rfl
  ·rw[lsa,hxl,hc8];omega
  ·refine List.ext_getElem? fun j=>?_
   by_cases hj:j<n*8
   ·rw[List.getElem?_take_of_lt (by omega),List.getElem?_append_left (by omega),Array.getElem?_toList,(c3 j).1 hj];have:=congrArg (fun l=>l[j]?) htk;rw[List.getElem?_take_of_lt (by omega),List.getElem?_append_left (by omega),Array.getElem?_toList] at this;exact this
   by_cases hj2:j<(n+1)*8
   ·rw[List.getElem?_take_of_lt hj2,List.getElem?_append_right (by omega),Array.getElem?_toList,hxl];exact (c3 j).2 (j - n*8) (by rw[hcs,hc8];omega) (by omega) (by rw[hc8];omega)
   rw[List.getElem?_eq_none (by simp;omega),List.getElem?_eq_none (by rw[lsa,hxl,hc8];omega)]
  ·rw[hset k h2,hk k (fun e=>by rcases hat with h | h;exact h3 (e ▸ h);omega) (Nat.lt_of_lt_of_le h1 hg1.size)];exact hg1.block k h1 h3.symm
  ·exact (setCells_grown gq cs (n*8) w1).os.trans hg1.os
  ·exact (setCells_grown gq cs (n*8) w1).tape.trans hg1.tape
  ·exact (setCells_grown gq cs (n*8) w1).output.trans hg1.output
  simp only[setCell_size];exact Nat.le_trans hg1.size (setCells_grown gq cs (n*8) w1).size
 have hcomm:∀ v',(w1.setCell ⟨ka,0,none⟩ v').setCells gq (n*8) cs=(w1.setCells gq (n*8) cs).setCell ⟨ka,0,none⟩ v':=fun v'=>setCells_comm gq ⟨ka,0,none⟩ v' (by show ka≠gq;omega) cs (n*8) w1
 have hcur8:∀ v',(w1.setCell ⟨ka,0,none⟩ v').heap[gq]?=some (.cells cur 46 (0,0)):=fun v'=>(set1_other _ _ _ _ (by omega)).trans hcur
 have hka7:(w1.setCells gq (n*8) cs).heap[ka]?=some (.cells #[.slice ko n kc] 36 (0,0)):=((setCells_grown gq cs (n*8) w1).block ka (lt_of_block hka1) (fun e=>by injection e with e;omega)).trans hka1;refine two r1 ho6 ho8 q6 q8 ?_ ?_
 ·refine hi6' _ _ _ rfl ?_;refine two r2 ho7 ho8 q7 q8 ?_ ?_
  ·refine h7 _ _ _ _ rfl hcur ?_;refine one r3 ho8 q8 ?_;exact h8 _ _ _ _ (he8' _ _) (hv8' _ _) rfl hka7 ⟨r4,hfin _ _ rfl⟩
  refine h8 _ _ _ _ (he8' _ _) (hv8' _ _) rfl hka1 ?_;refine one r5 ho7 q7 ?_;refine h7 _ _ _ _ rfl (hcur8 _) ?_;rw[hcomm];exact⟨r6,hfin _ _ rfl⟩
 refine h8 _ _ _ _ (he8 _) (hv8 _) rfl hka1 ?_;refine one r7 ho6 q6 ?_;refine hi6' _ _ _ rfl ?_;refine one r8 ho7 q7 ?_;refine h7 _ _ _ _ rfl (hcur8 _) ?_;rw[hcomm];exact⟨r9,hfin _ _ rfl⟩
theorem PSA.keepAll {w w':World} {g:Nat} {s:St} (h:PSA w g s) (hk:∀ k,k<w.heap.size->(w'.heap[k]?=w.heap[k]?)\/(g<k/\∃ c T,w.heap[k]?=some (.cells c T (0,0))/\T≠116)) (hsz:w.heap.size<=w'.heap.size):PSA w' g s:=by
 obtain⟨b,o,cc,ev,h1,h2,h3,h4,h5,h6,h7,h8⟩:=h
 have e:∀ q,q<=g->q<w.heap.size->w'.heap[q]?=w.heap[q]?:=fun q hq hl=>by
  rcases hk q hl with h | ⟨h,-⟩
  ·exact h
  omega
 refine⟨b,o,cc,ev,by rw[e g (Nat.le_refl _) (lt_of_block h1)];exact h1,h2,h3,h4,h5,Nat.lt_of_lt_of_le h6 hsz,h7.keep (e b (by omega) h6),?_⟩;obtain⟨rest,err⟩:=s;simp only at h8 ⊢
 match err,h8 with
 | none,h8=>exact h8
 | some (c,l,k'),h8 =>
  obtain⟨q,q1,q2,q3⟩:=h8;refine⟨q,q1,?_,q3⟩;unfold AtB at q2 ⊢;rcases hk q (lt_of_block q2) with h | ⟨-,c',T,h,hT⟩
  ·rw[h];exact q2
  rw[q2] at h;injection h with h;injection h with _ h;exact absurd h.symm hT
theorem clos_p (n:Nat) (E:Hid (ExprAt7 n)) (g ka kb B:Nat) (s:St) (r:U × St) (us:List U) (we wc:World) (hop:GOps wc g) (hD:we.grownBy wc (some g)) (hgN:g<we.heap.size) (hgB:g<B) (hBN:B<=we.heap.size) (hN:we.heap.size<=kb) (hab:kb<ka) (hps:PS wc g s) (hall:AllAt wc B ka kb us)
  (hbx:wc.heap[kb]?=some (.cells #[.pointer (some ⟨g,0,none⟩)] 57 (0,0))) (hlen:us.length<=100000) (hc:cExpr n s=some r) :
  Calls Tryz.prog 167 #[.pointer (some ⟨ka,0,none⟩),.pointer (some ⟨kb,0,none⟩)] wc fun e w'=>(∃ v,e=.returned v)/\PS w' g r.2/\AllAt w' B ka kb (us++[r.1])/\w'.heap[kb]?=some (.cells #[.pointer (some ⟨g,0,none⟩)] 57 (0,0))/\we.grownBy w' (some g):=by
 obtain⟨ko,kc,ys,hka,hown,hyl,hys⟩:=hall;have HP:=h_ hps;have HOP:=h_ hop;have HC:=h_ hc;have HBa:=h_ hka;have HBb:=h_ hbx;have HOW:=h_ hown;have HYS:=h_ hys;have HD:=h_ hD;clear hps hop hc hka hbx hown hys hD;go_enter Tryz.func167,Tryz.ntmps167
 have hlt_a:=lt_of_block HBa.out;have hlt_b:=lt_of_block HBb.out;have hog:∀ q,q<1->(fun q=>g) q<wc.heap.size:=fun q _=>by show g<_;exact HP.out.lt
 refine R7.region (by kernel_rfl) [[],[],[1],[0],[],[0,1,2,3,4],[0,1,2,3,4,5],[0,1,2,3,4,5,6],[0,1,2,3,4,5]] [] [(2,1000)] (fun q=>g) 1 5 (by kernel_rfl) (by kernel_rfl) (by rfl) hog (fun q q' h h' hn=>absurd hn (by omega)) ?_;refine R7.cd ?_ (fun T xs wr hA=>?_) ?_
 rotate_left
 ·have e0:=hA.pq 0;simp only[gsa,gsz] at e0;have hBq:wr.heap[ka]?=_:=(hA.bl _ hlt_a (fun q _=>by show g≠ka;omega)).trans HBa.out;have q0:=cell_at (v:=.slice ko us.length kc) hBq 0 rfl;clear hBq;clear hA;go_simp<;>(try with_reducible rfl)
 refine R7.cd ?_ (fun T xs wr hA=>?_) ?_
 rotate_left
 ·have e1:=hA.pq 1;simp only[gsa,gsc,gsz] at e1;have hBq:wr.heap[kb]?=_:=(hA.bl _ hlt_b (fun q _=>by show g≠kb;omega)).trans HBb.out;have q0:=cell_at (v:=.pointer (some ⟨g,0,none⟩)) hBq 0 rfl;clear hBq;clear hA;go_simp<;>(try with_reducible rfl)
 refine R7.Chain.callOld 0 (fun xs v w=>∃ x,v=xv x/\Um w (fun b=>wc.heap.size<=b) x r.1/\PS w g r.2) (fun _ _ _ _ ⟨x,h1,h2,h3⟩ hb=>⟨x,h1,h2.below hb,h3.below hb⟩) (fun _ _ _ _ q' _ hq hne _=>absurd rfl hne) (by rfl) (by rfl) (by decide) (R7.own_one (by rfl)) (fun T xs wr hA hold=>?_) ?_
 ·have hsw:=(hA.be 0 (Nat.zero_le _) (fun _ _=>Nat.zero_le _)).size;have e3:=tr_ (hA.tq 1 3) (hA.fq 1)
  (try simp (disch:=decide) only [R7.mi] at e3)
  have h0:=undrew (hA.be 0 (Nat.zero_le _) (fun _ _=>Nat.zero_le _))
  have hbw:Below wc.heap.size wc wr:=⟨h0.os,h0.tape,h0.output,h0.size,fun k hk=>by
   by_cases e:k=g
   ·rw[e];exact hold
   exact hA.bl k hk (fun q _ h=>e h.symm)⟩
  clear hA;refine⟨(by rfl),fun K hK=>?_⟩;go_simp
  refine (E.out g s r wr (HP.out.below hbw) (HOP.out.below hbw) HC.out).mono ?_;rintro e w' ⟨x,rfl,hu,hp,hg⟩;exact hK.out _ _ ⟨x,rfl,hu.mono (fun b h=>Nat.le_trans hbw.size h),hp⟩ (R7.Priv.of hg)
 refine R7.cd ?_ (fun T xs wr hA=>?_) ?_
 rotate_left
 ·have e2:=tr_ (hA.tq 0 2) (hA.fq 0)
  (try simp (disch:=decide) only [R7.mi] at e2)
  clear hA;go_simp<;>(try with_reducible rfl)
 refine R7.Chain.call (fun xs v w=>∃ g,v=.slice (some ⟨g,0,none⟩) 1 1/\wc.heap.size<=g/\w.heap[g]?=some (.cells #[.int .i64 0,.string ⟨#[]⟩,.string ⟨#[]⟩,.bool false,.slice none 0 0,.slice none 0 0,.int .i64 0,.int .i64 0] 46 (0,0))) (fun _ _ _ _ ⟨g,hv,hl,hg⟩ hb=>⟨g,hv,hl,by rw[hb.block g (Array.getElem?_eq_some_iff.1 hg).1];exact hg⟩) (fun _ _ _ _ _ ⟨g,hv,hl,hg⟩ ⟨q,hq,e⟩ hp=>⟨g,hv,hl,by rw[hp.block g (Array.getElem?_eq_some_iff.1 hg).1 (fun h=>by have:=hog q hq;omega)];exact hg⟩) (by rfl) (fun T xs wr hA=>?_) ?_
 ·have hsw:=(hA.be 0 (Nat.zero_le _) (fun _ _=>Nat.zero_le _)).size;clear hA;refine⟨(by rfl),fun K hK=>?_⟩;go_simp
  exact hK.out _ _ ⟨_,rfl,hsw,by simpa using made_at wr _ _ rfl⟩ ((Below.refl _ _).alloc (Nat.le_refl _) _)
 refine R7.Chain.done (fun xs w1 hL=>?_);obtain⟨⟨hbe,hbl⟩,hf,-,-⟩:=hL;have f0:xs 0=_:=hf 0 (by decide);have f1:xs 1=_:=hf 1 (by decide);have F2:∃ x,(xs 2)=xv x/\Um w1 (fun b=>wc.heap.size<=b) x r.1/\PS w1 g r.2:=hf 2 (by decide);have f3:xs 3=_:=hf 3 (by decide);have F4:∃ g,(xs 4)=.slice (some ⟨g,0,none⟩) 1 1/\wc.heap.size<=g/\w1.heap[g]?=some (.cells #[.int .i64 0,.string ⟨#[]⟩,.string ⟨#[]⟩,.bool false,.slice none 0 0,.slice none 0 0,.int .i64 0,.int .i64 0] 46 (0,0)):=hf 4 (by decide)
 (try simp (disch:=decide) only [R7.mi] at f0 f1 f3)
 have hb0:Below 0 wc w1:=undrew (hbe 0 (Nat.zero_le _) (fun _ _=>Nat.zero_le _));have hgr:∀ j,j<wc.heap.size->(∀ q,q<1->(fun q=>g) q≠j)->w1.heap[j]?=wc.heap[j]?:=hbl;clear hbe hbl hf;obtain⟨x,hx,hu,hp⟩:=F2;obtain⟨g4,hv4,hl4,hg4⟩:=F4;unfold R7.Rest;simp only[R7.fill,List.take_succ_cons,List.take_zero,t5_,t6_,t7_,f0,f1,f3];simp only[hx,hv4];clear hog hlt_a hlt_b f0 f1 f3;have hg:wc.grownBy w1 (some g):=⟨hb0.os,hb0.tape,hb0.output,hb0.size,fun k hk hn=>hgr k hk (fun q _ e=>hn (by rw[<-e]))⟩
 obtain⟨z0,z1,z2,z3,z4,z5,z6,z7,z8,z9,z10,z11⟩:=x;simp only[xv];have ha1:w1.heap[ka]?=_:=(hg.block ka (lt_of_block HBa.out) (fun e=>by injection e with e;omega)).trans HBa.out
 have hown1:=World.ownsRow.kept HOW.out hg (by
  cases hv:(Value.slice ko us.length kc).ownBlock with
  | none=>exact .inl rfl
  | some j=>exact .inr (fun e=>by injection e with e;have:=(World.ownsRow.lt HOW.out j hv).1;omega))
 refine all_tail (ops:=_) _ _ _ rfl rfl rfl rfl rfl rfl rfl rfl (by kernel_rfl) (by kernel_rfl) (by kernel_rfl) (by kernel_rfl) (by kernel_rfl) (by kernel_rfl) (by kernel_rfl) (by kernel_rfl) (by kernel_rfl) (by kernel_rfl) _ _ rfl ka us.length kc ko rfl (ys.flatMap xc) hown1 ha1 g4 rfl hg4 hlen _ _ rfl (fun _=>rfl) (fun _=>rfl) _ _ rfl rfl [.int .i64 z0,.string z1,.string z2,.bool z3,.slice z4 z5 z6,.slice z7 z8 z9,.int .i64 z10,.int .i64 z11] rfl (by intro u hu;simp only[List.mem_cons,List.not_mem_nil,or_false] at hu;rcases hu with rfl | rfl | rfl | rfl | rfl | rfl | rfl | rfl<;>rfl) (fun _ _=>rfl) (fun _ _=>rfl) _ _ rfl rfl (fun _=>rfl) (fun _=>rfl) (fun _ _=>rfl) (fun _ _=>rfl) ?_;intro gq cap w' q ha' hown' hk' h1 h2 h3 h4 hat
 go_end0
 have hxl:∀ q,(Value.slice ko us.length kc).ownBlock=some q->ka<q/\q<wc.heap.size:=fun q hq=>by have:=World.ownsRow.lt HOW.out q hq;omega
 have hwN:=hg.size;have hsame:∀ k,k<w1.heap.size->k≠ka->(Value.slice ko us.length kc).ownBlock≠some k->w'.heap[k]?=w1.heap[k]?:=hk';refine⟨⟨_,rfl⟩,⟨hp.1.keepAll (fun k hk=>?_) h4,hp.2⟩,⟨some ⟨gq,0,none⟩,cap,ys++[⟨z0,z1,z2,z3,z4,z5,z6,z7,z8,z9,z10,z11⟩],?_,?_,?_,fun i p1 p2=>?_⟩,?_,?_⟩
 ·by_cases e1:k=ka
  ·exact .inr ⟨by omega,_,_,by rw[e1];exact ha1,by decide⟩
  by_cases e2:(Value.slice ko us.length kc).ownBlock=some k
  ·refine .inr ⟨by have:=hxl k e2;omega,?_⟩;rcases hown1.2 with ⟨h,-⟩ | ⟨q,c0,cur,hv,-,hq,-⟩
   ·rw[h] at e2;cases e2
   rw[hv] at e2;have:q=k:=by simpa [Value.ownBlock] using e2
   subst this;exact⟨_,_,hq,by decide⟩
  exact .inl (hsame k hk e1 e2)
 ·rw[ha',lsa];rfl
 ·rw[lsa,List.flatMap_append];exact hown'
 ·rw[lsa,lsa,hyl];rfl
 ·have hS:∀ b,(b<w1.heap.size)->b≠ka->(Value.slice ko us.length kc).ownBlock≠some b->w'.heap[b]?=w1.heap[b]?:=hsame
  have hgq:∀ b,b<w1.heap.size->(Value.slice ko us.length kc).ownBlock≠some b->(Value.slice (some ⟨gq,0,none⟩) (us++[r.1]).length cap).ownBlock≠some b:=fun b hb hn e=>by
   have e:gq=b:=by simpa [Value.ownBlock] using e
   subst e;rcases hat with h | h
   ·exact hn h
   omega
  by_cases hi:i<ys.length
  ·have hu1:=((HYS.out i hi (by omega)).grown hg (fun h=>by have:=h.1;omega)).lt;have hu2:=(hu1.keep (w':=w') (fun b h=>hS b h.2 h.1.2.1 h.1.2.2.2)).mono (S':=fun b=>B<=b/\b≠ka/\b≠kb/\(Value.slice (some ⟨gq,0,none⟩) (us++[r.1]).length cap).ownBlock≠some b) (fun b h=>⟨h.1.1,h.1.2.1,h.1.2.2.1,hgq b h.2 h.1.2.2.2⟩);rw[List.getElem_append_left hi,List.getElem_append_left (by omega)];exact hu2
  have hi2:i=ys.length:=by rw[lsa] at p1;simp at p1;omega
  have hne:∀ b,wc.heap.size<=b->(Value.slice ko us.length kc).ownBlock≠some b:=fun b hb e=>by have:=hxl b e;omega
  have hu2:=(hu.lt.keep (w':=w') (fun b h=>by have h1:wc.heap.size<=b:=h.1;exact hS b h.2 (by have:=lt_of_block HBa.out;omega) (hne b h1))).mono (S':=fun b=>B<=b/\b≠ka/\b≠kb/\(Value.slice (some ⟨gq,0,none⟩) (us++[r.1]).length cap).ownBlock≠some b) (fun b h=>by have h1:wc.heap.size<=b:=h.1;exact⟨by have:=HD.out.size;omega,by have:=lt_of_block HBa.out;omega,by have:=lt_of_block HBb.out;omega,hgq b h.2 (hne b h1)⟩);have e1:(ys++[(⟨z0,z1,z2,z3,z4,z5,z6,z7,z8,z9,z10,z11⟩:X)])[i]=⟨z0,z1,z2,z3,z4,z5,z6,z7,z8,z9,z10,z11⟩:=by subst hi2;simp
  have e2:(us++[r.1])[i]=r.1:=by
   have:i=us.length:=by omega
   subst this;simp
  rw[e1,e2];exact hu2
 ·have hlb:=lt_of_block HBb.out;rw[hsame kb (by omega) (by omega) (fun e=>by have:=hxl kb e;omega)];exact (hg.block kb hlb (fun e=>by injection e with e;omega)).trans HBb.out
 have hD:=HD.out;have:=hD.size;refine⟨h1.trans (hg.os.trans hD.os),h2.trans (hg.tape.trans hD.tape),h3.trans (hg.output.trans hD.output),by omega,fun k hk hn=>?_⟩;rw[hsame k (by omega) (by omega) (fun e=>by have:=hxl k e;omega),hg.block k (by omega) hn];exact hD.block k hk hn
def ListPost (we:World) (B ka kb g:Nat) (us:List U) (s:St) (w':World):Prop:=PS w' g s/\AllAt w' B ka kb us/\w'.heap[kb]?=some (.cells #[.pointer (some ⟨g,0,none⟩)] 57 (0,0))/\we.grownBy w' (some g)
theorem ListPost.did {we w w':World} {B ka kb g:Nat} {us:List U} {s s':St} (h:ListPost we B ka kb g us s w) (hd:Did w g s' w') (h1:g<B) (h2:g<ka) (h3:g<kb):ListPost we B ka kb g us s' w':=
 ⟨hd.1,h.2.1.keep hd.2 h1 h2,(hd.2.block _ (lt_of_block h.2.2.1) (fun e=>by injection e with e;omega)).trans h.2.2.1,grown_tr h.2.2.2 hd.2⟩
theorem tk_less {s:St} (h:GoodL s.rest) {w:Bs} (hw:w ≠ []) (hi:s.is w=true):s.tk.rest.length<s.rest.length:=by
 have hk:s.nx.kind≠4:=fun hk=>hw (by have:=h.head.ke hk;rw[show (s.rest.headD tk0).text=s.nx.text from rfl,St.is_true hi] at this;exact this)
 have h4:=List.length_pos_iff.2 h.ne;unfold St.tk;rw[if_neg hk];simp;omega
theorem list_p (n:Nat) (E:Hid (∀ m,m<=n->ExprAt7 m)) (g ka kb B:Nat) (s:St) (r:List U × St) (we w:World) (hop:GOps we g) (hgN:g<we.heap.size) (hgB:g<B) (hBN:B<=we.heap.size) (hN:we.heap.size<=kb) (hab:kb<ka) (h0:ListPost we B ka kb g [] s w) (hc:cArgs (n+1) s=some r) :
  Calls Tryz.prog 67 #[.pointer (some ⟨g,0,none⟩),.func (.func 167) #[] #[.pointer (some ⟨ka,0,none⟩),.pointer (some ⟨kb,0,none⟩)]] w fun e w'=>(∃ v,e=.returned v)/\ListPost we B ka kb g r.1 r.2 w':=by
 have HL:=h_ h0;have HOP:=h_ hop;have hlen:=h0.1.2;clear h0 hop;rw[cArgs] at hc
 by_cases hcl:s.is wClose=true
 ·rw[if_pos hcl] at hc;injection hc with hc;subst hc;have HI:Hid (s.acc [41]=s.tk):=h_ (by unfold St.acc;rw[show s.is [41]=true from hcl];rfl);go_enter Tryz.func67,Tryz.ntmps67
  go_wp2_with fail
  refine (accept_p g s [41] w HL.out.1).mono ?_;rintro e w1 ⟨rfl,hd⟩;have HL1:=h_ (HL.out.did hd hgB (by omega) (by omega));rw[HI.out] at HL1;rw[show s.is [41]=true from hcl];clear hd hcl;go_wp2_with fail
  exact bodyPost_ret (v:=.tuple #[]) (by simp[results,Tryz.results67,go_sem]) rfl ⟨⟨_,rfl⟩,HL1.out⟩
 rw[if_neg hcl,Option.bind_eq_some_iff] at hc;obtain⟨r1,hc1,hc2⟩:=hc;have HC1:=h_ hc1;have HC2:=h_ hc2;have hcf:s.is [41]=false:=by simpa using hcl
 have HI:Hid (s.acc [41]=s):=h_ (by unfold St.acc;rw[hcf];rfl);have hl1:=(c_len n).1 _ _ hc1;clear hc1 hc2 hcl;go_enter Tryz.func67,Tryz.ntmps67
 go_wp2_with fail
 refine (accept_p g s [41] w HL.out.1).mono ?_;rintro e w1 ⟨rfl,hd⟩;have HL1:=h_ (HL.out.did hd hgB (by omega) (by omega));rw[HI.out] at HL1;rw[hcf];clear hd;go_wp2_with fail
 refine (clos_p n (h_ (E.out n (Nat.le_refl _))) g ka kb B s r1 [] we w1 (HOP.out.grown HL1.out.2.2.2 (Nat.le_refl _)) HL1.out.2.2.2 hgN hgB hBN hN hab HL1.out.1 HL1.out.2.1 HL1.out.2.2.1 (by simp) HC1.out).mono ?_;rintro e w2 ⟨⟨v,rfl⟩,p1,p2,p3,p4⟩;have HL2:Hid (ListPost we B ka kb g [r1.1] r1.2 w2):=h_ ⟨p1,p2,p3,p4⟩;clear p1 p2 p3 p4;go_wp2_with fail
 go_loopw [8] (fun _ wr=>∃ (m:Nat) (us:List U) (sj:St),m<=n/\us.length+sj.rest.length<=30001/\Hid (cMore m us sj=some r)/\Hid (ListPost we B ka kb g us sj wr)) (fun _ wr=>pLen wr g)
 case atStart=>exact⟨n,[r1.1],r1.2,Nat.le_refl _,by simp;omega,HC2,HL2⟩
 case round =>
  obtain⟨m,us,sj,hm,hlj,HC,HLj⟩:=hrel
  cases m with
  | zero=>exact absurd HC.out (by simp[cMore])
  | succ m =>
   have hcm:=HC.out;rw[cMore] at hcm;have HLN:=h_ HLj.out.1.len;have HGD:=h_ HLj.out.1.good;go_wp2_with fail
   refine (accept_p g sj [44] wr HLj.out.1).mono ?_;rintro e w3 ⟨rfl,hd⟩;have HL3:=h_ (HLj.out.did hd hgB (by omega) (by omega));clear hd
   by_cases hi:sj.is [44]=true
   ·have hi2:sj.is wComma=true:=hi;rw[if_pos hi2,Option.bind_eq_some_iff] at hcm;obtain⟨r2,hd1,hd2⟩:=hcm;have HD1:=h_ hd1;have HD2:=h_ hd2;have hlt:=tk_less HGD.out (w:=wComma) (by decide) hi2;have hl2:=(c_len m).1 _ _ hd1;have HX:Hid (sj.acc [44]=sj.tk):=h_ (by unfold St.acc;rw[hi];rfl);rw[HX.out] at HL3;rw[hi];clear hi hi2 hd1 hd2;go_wp2_with fail
    refine (clos_p m (h_ (E.out m (by omega))) g ka kb B sj.tk r2 us we w3 (HOP.out.grown HL3.out.2.2.2 (Nat.le_refl _)) HL3.out.2.2.2 hgN hgB hBN hN hab HL3.out.1 HL3.out.2.1 HL3.out.2.2.1 (by omega) HD1.out).mono ?_;rintro e w4 ⟨⟨v,rfl⟩,p1,p2,p3,p4⟩;have HL4:Hid (ListPost we B ka kb g (us++[r2.1]) r2.2 w4):=h_ ⟨p1,p2,p3,p4⟩;clear p1 p2 p3 p4;go_wp2_with fail
    go_roundw
    case rel=>exact⟨m,us++[r2.1],r2.2,by omega,by rw[lsa];simp;omega,HD2,HL4⟩
    case measure=>rw[HL4.out.1.len,HLN.out];omega
   have hif:sj.is [44]=false:=by simpa using hi
   rw[if_neg (show ¬ sj.is wComma=true from hi)] at hcm;injection hcm with hcm;subst hcm;have HX:Hid (sj.acc [44]=sj):=h_ (by unfold St.acc;rw[hif];rfl);rw[HX.out] at HL3;rw[hif];clear hi;go_wp2_with fail
   obtain⟨w4,hw⟩:∃ x,x=w3.alloc (.cells #[.string ⟨#[41]⟩] 9):=⟨_,rfl⟩
   have hb:Below w3.heap.size w3 w4:=by rw[hw];exact (Below.refl _ _).alloc (Nat.le_refl _) _
   have hk:w4.heap[w3.heap.size]?=some (.cells #[.string ⟨#[41]⟩] 9 (0,0)):=by rw[hw];exact made_at w3 _ _ rfl
   rw[<-hw];have HL4:=h_ (HL3.out.did (Did.of_below HL3.out.1 hb) hgB (by omega) (by omega));obtain⟨kq,hkk⟩:∃ k,k=w3.heap.size:=⟨_,rfl⟩
   have hgk:g<kq:=by rw[hkk];exact HL3.out.1.lt
   rw[<-hkk] at hk ⊢;have HK:=h_ hk;clear hw hb hk hkk;refine (expect_p g sj [[41]] kq w4 HL4.out.1 HK.out (by omega) (by decide)).mono ?_;rintro e w5 ⟨⟨v,rfl⟩,hd⟩;have HL5:=h_ (HL4.out.did hd hgB (by omega) (by omega));clear hd;go_wp2_with fail
   go_end0
   exact⟨⟨_,rfl⟩,HL5.out⟩
theorem args_p (n:Nat) (E:Hid (∀ m,m<=n->ExprAt7 m)):ArgsAt (n+1):=by
 intro g s r w hps hop hc;have hgN:=hps.lt;have HP:=h_ hps;have HOP:=h_ hop;have HC:=h_ hc;clear hps hop hc;have hmf:∀ (fn:Fn) (first cap:Array Value) (w:World),(Instr.makeFunc fn first cap).run Tryz.prog w=.ok (.func fn first cap) w:=fun _ _ _ _=>rfl
 obtain⟨w1,hw1⟩:∃ x,x=w.alloc (.cells #[.pointer (some ⟨g,0,none⟩)] 57):=⟨_,rfl⟩
 obtain⟨w2,hw2⟩:∃ x,x=w1.alloc (.cells #[.slice none 0 0] 36):=⟨_,rfl⟩
 obtain⟨kb,hkb⟩:∃ k,k=w.heap.size:=⟨_,rfl⟩
 obtain⟨ka,hka⟩:∃ k,k=w.heap.size+1:=⟨_,rfl⟩
 have hb1:Below w.heap.size w w1:=by rw[hw1];exact (Below.refl _ _).alloc (Nat.le_refl _) _
 have hs1:w1.heap.size=w.heap.size+1:=by rw[hw1];simp
 have hb2:Below w1.heap.size w1 w2:=by rw[hw2];exact (Below.refl _ _).alloc (Nat.le_refl _) _
 have h1:w1.heap[kb]?=some (.cells #[.pointer (some ⟨g,0,none⟩)] 57 (0,0)):=by rw[hw1,hkb];exact made_at w _ _ rfl
 have h2:w2.heap[ka]?=some (.cells #[.slice none 0 0] 36 (0,0)):=by rw[hw2,hka,<-hs1];exact made_at w1 _ _ rfl
 have h12:=(hb2.block _ (lt_of_block h1)).trans h1;have hBB:Below w.heap.size w w2:=hb1.trans (hb2.mono hb1.size);have HL:Hid (ListPost w w.heap.size ka kb g [] s w2):=h_ ⟨HP.out.below hBB,⟨none,0,[],h2,World.ownsRow_nil _ _ _ _,rfl,fun i h=>by simp at h⟩,h12,below_grown hBB _⟩;have HW1:=h_ hw1;have HW2:=h_ hw2;have HKB:=h_ hkb;have HKA:=h_ hka;have hN:w.heap.size<=kb:=by omega
 have hab:kb<ka:=by omega
 have HX1:=h_ h12;clear hb1 hb2 h1 h2 h12 hBB hw1 hw2 hkb hka hs1;go_enter Tryz.func158,Tryz.ntmps158
 go_upto_region 2 with fail
 rw[<-HW1.out,<-HW2.out,<-HKA.out,<-HKB.out];have b0:=cell_at (v:=.pointer (some ⟨g,0,none⟩)) HX1.out 0 rfl;go_wp2_with fail
 refine (list_p n E g ka kb w.heap.size s r w w2 HOP.out hgN hgN (Nat.le_refl _) hN hab HL.out HC.out).mono ?_;rintro e w3 ⟨⟨v,rfl⟩,hl⟩;obtain⟨hp,⟨ko,kc,ys,ha,hown,hyl,hys⟩,-,hg⟩:=hl;have a0:=cell_at (v:=.slice ko r.1.length kc) ha 0 rfl;have HPP:=h_ hp;have HOW:=h_ hown;have HYS:=h_ hys;have HG:=h_ hg;clear ha hp hown hys hg b0;go_wp2_with fail
 go_ret
 refine⟨ko,kc,rfl,?_,fun h a e=>?_,ums_of 0 fun j hj=>?_,HPP.out,HG.out⟩
 ·rcases HOW.out.2 with ⟨h,h0⟩ | ⟨q,cap,cur,h,-,-,h1,h2,-⟩
  ·injection h with _ _ h;subst h;rw[h0];exact⟨Nat.le_refl _,Nat.zero_le _⟩
  injection h with _ _ h;subst h;exact⟨h1,h2⟩
 ·subst e;have:=World.ownsRow.lt HOW.out a.block rfl
  omega
 rw[Nat.zero_add];exact⟨ys[j],own_at HOW.out j (by omega),(HYS.out j (by omega) hj).mono fun b h=>h.1⟩
theorem atom_p (n:Nat) (E:Hid (ExprAt7 n)) (R:Hid (ArgsAt n)):AtomAt (n+1):=by
 intro g s r w hps hop hc;have HP:=h_ hps;have HOP:=h_ hop;clear hps hop;rw[cAtom] at hc
 by_cases h1k:s.nx.kind=1
 ·rw[if_pos h1k] at hc;injection hc with hc;subst hc;have H1:Hid (((s.nx.kind:Int)==1)=true):=h_ (by rw[h1k];rfl);have HNUM0:=h_ ((HP.out.good.head).k1 h1k).2;clear h1k;go_enter Tryz.func140,Tryz.ntmps140
  go_upto_region 1 with fail
  obtain⟨w1,kr,hw,hkk,hb,-,HBr⟩:=newb w #[.int .i64 0,.string ⟨#[]⟩,.string ⟨#[]⟩,.bool false,.slice none 0 0,.slice none 0 0,.int .i64 0,.int .i64 0] 46;have hgr:g<kr:=by rw[hkk];exact HP.out.lt
  have her:w.heap.size<=kr:=by omega
  rw[hw,<-hkk];replace HP:=h_ (HP.out.below hb);replace HOP:=h_ (HOP.out.below hb);have HD:=h_ (below_grown hb (some g));clear hw hb hkk;go_wp2_with fail
  refine (take_p g s w1 HP.out).mono ?_;rintro e w2 ⟨rfl,hp,hg⟩;replace HBr:=kG hg HBr;replace HOP:=h_ (HOP.out.grown hg (by omega));replace HP:=h_ hp;replace HD:=dG HD hg;have hsz2:=HD.out.size;clear hp hg;simp only[tokV];obtain⟨t,hnx⟩:∃ t,t=St.nx s:=⟨_,rfl⟩
  rw[<-hnx];have HNt:=h_ hnx;clear hnx;go_upto_region 2 with fail
  obtain⟨w3,kt,hw,hkk,hb,-,HBt⟩:=newb w2 #[.int .i64 (t.kind:Nat),.string ⟨t.text.toArray⟩,.int .i64 (t.line:Nat),.int .i64 (t.col:Nat)] 97;have hgt:g<kt:=by rw[hkk];exact HP.out.lt
  have het:w.heap.size<=kt:=by omega
  have hr_t:=lk_ hkk HBr;rw[hw,<-hkk];replace HBr:=kB hb HBr;replace HP:=h_ (HP.out.below hb);replace HOP:=h_ (HOP.out.below hb);replace HD:=dB HD hb;clear hw hb hkk;have q1:=H1.out;rw[<-HNt.out] at q1;obtain⟨ct0,ct1,ct2,ct3⟩:=cl4 HBt.out;go_wp2_with fail
  refine (part_p 0 t none 0 0 w3).mono ?_;rintro e w4 ⟨rfl,hb⟩;clear ct0 ct1 ct2 ct3;replace HBr:=kB hb HBr;replace HBt:=kB hb HBt;replace HP:=h_ (HP.out.below hb);replace HOP:=h_ (HOP.out.below hb);replace HD:=dB HD hb;have hsz4:=HD.out.size;clear hb;simp only[xv];go_upto_region 5 with fail
  obtain⟨w5,kv,hw,hkk,hb,-,HBv⟩:=newb w4 #[.int .i64 0,.string ⟨#[]⟩,.string ⟨#[]⟩,.bool false,.slice none 0 0,.slice none 0 0,.int .i64 (t.line:Nat),.int .i64 (t.col:Nat)] 46;have hgv:g<kv:=by rw[hkk];exact HP.out.lt
  have hev:w.heap.size<=kv:=by omega
  have hr_v:=lk_ hkk HBr;have ht_v:=lk_ hkk HBt;rw[hw,<-hkk];replace HBr:=kB hb HBr;replace HBt:=kB hb HBt;replace HP:=h_ (HP.out.below hb);replace HOP:=h_ (HOP.out.below hb);replace HD:=dB HD hb;have hsz5:=HD.out.size;clear hw hb hkk;obtain⟨ct0,ct1,ct2,ct3⟩:=cl4 HBt.out;obtain⟨cv0,cv1,cv2,cv3,cv4,cv5,cv6,cv7⟩:=cl8 HBv.out;obtain⟨fcv0,fcv1,fcv2,fcv3,fcv4,fcv5,fcv6,fcv7⟩:=fr8 HBv.out;go_wp2_with fail
  obtain⟨Nn,hN⟩:∃ k,k=w5.heap.size:=⟨_,rfl⟩
  have hr_Nn:kr<Nn:=by rw[hN];exact lt_of_block HBr.out
  have ht_Nn:kt<Nn:=by rw[hN];exact lt_of_block HBt.out
  have hv_Nn:kv<Nn:=by rw[hN];exact lt_of_block HBv.out
  have hg_Nn:g<Nn:=by rw[hN];exact HP.out.lt
  have he_Nn:w.heap.size<=Nn:=by omega
  refine (wparse_new t.text w5 (by rw[HNt.out];exact HNUM0.out)).mono ?_;rintro e w6 ⟨ao,nn,cc,rfl,hs,hnew,hb⟩;clear ct0 ct1 ct2 ct3 cv0 fcv0 cv1 fcv1 cv2 fcv2 cv3 fcv3 cv4 fcv4 cv5 fcv5 cv6 fcv6 cv7 fcv7;replace HBr:=kB hb HBr;replace HBt:=kB hb HBt;replace HBv:=kB hb HBv;replace HP:=h_ (HP.out.below hb);replace HOP:=h_ (HOP.out.below hb);replace HD:=dB HD hb;clear hb;rw[<-hN] at hnew
  have hun:Um w6 (fun b=>Nn<=b/\True) ⟨0,⟨#[]⟩,⟨#[]⟩,false,ao,nn,cc,none,0,0,(t.line:Nat),(t.col:Nat)⟩ (.node 0 [] [] (dn t.text) t.line t.col []):=by
   rw[Um];exact⟨⟨rfl,rfl,rfl,rfl,rfl,rfl⟩,⟨hs,fun h a e=>⟨hnew h a e,trivial⟩⟩,⟨rfl,⟨Nat.le_refl _,Nat.zero_le _⟩,fun h=>absurd rfl h⟩,by rw[Ums];trivial⟩
  have HUn:=h_ hun;clear hs hnew hun hN;obtain⟨cv0,cv1,cv2,cv3,cv4,cv5,cv6,cv7⟩:=cl8 HBv.out;obtain⟨fcv0,fcv1,fcv2,fcv3,fcv4,fcv5,fcv6,fcv7⟩:=fr8 HBv.out;go_upto_region 6 with fail
  obtain⟨w7,hw⟩:∃ x,x=(w6.setCell ⟨kv,3,none⟩ (.bool false)).setCell ⟨kv,4,none⟩ (.slice ao nn cc):=⟨_,rfl⟩
  have hg:w6.grownBy w7 (some kv):=by rw[hw];exact grown_tr (grown_set _ kv 3 _) (grown_set _ kv 4 _)
  have hv:w7.heap[kv]?=some (.cells #[.int .i64 0,.string ⟨#[]⟩,.string ⟨#[]⟩,.bool false,.slice ao nn cc,.slice none 0 0,.int .i64 (t.line:Nat),.int .i64 (t.col:Nat)] 46 (0,0)):=by rw[hw,heap_setCell_same _ kv 4 _ _ _ (heap_setCell_same _ kv 3 _ _ _ HBv.out)];rfl
  rw[<-hw];clear cv0 fcv0 cv1 fcv1 cv2 fcv2 cv3 fcv3 cv4 fcv4 cv5 fcv5 cv6 fcv6 cv7 fcv7;replace HP:=h_ (HP.out.store HBv.out (by decide) (by omega) hg);replace HBr:=kG hg HBr;replace HBt:=kG hg HBt;replace HUn:=h_ (HUn.out.grown hg (fun h=>by omega));replace HOP:=h_ (HOP.out.grown hg (by omega));replace HD:=dN HD hg (by omega);replace HBv:=h_ hv;clear hw hg hv;obtain⟨cv0,cv1,cv2,cv3,cv4,cv5,cv6,cv7⟩:=cl8 HBv.out;obtain⟨z0,z1,z2,z3,z4,z5,z6,z7⟩:=cl8 HBr.out;obtain⟨fz0,fz1,fz2,fz3,fz4,fz5,fz6,fz7⟩:=fr8 HBr.out;go_wp2_with fail
  refine bodyPost_ret (v:=.agg #[.int .i64 0,.string ⟨#[]⟩,.string ⟨#[]⟩,.bool false,.slice ao nn cc,.slice none 0 0,.int .i64 (t.line:Nat),.int .i64 (t.col:Nat)]) (by simp[results,Tryz.results140,go_sem,z0,z1,z2,z3,z4,z5,z6,z7]) rfl ?_;obtain⟨wz,hw⟩:∃ x,x=st8 w7 kr (.int .i64 0) (.string ⟨#[]⟩) (.string ⟨#[]⟩) (.bool false) (.slice ao nn cc) (.slice none 0 0) (.int .i64 (t.line:Nat)) (.int .i64 (t.col:Nat)):=⟨_,rfl⟩
  have hg:w7.grownBy wz (some kr):=by rw[hw];exact st8_grown _ _ _ _ _ _ _ _ _ _
  change TreePost w g _ _ _ (st8 w7 kr (.int .i64 0) (.string ⟨#[]⟩) (.string ⟨#[]⟩) (.bool false) (.slice ao nn cc) (.slice none 0 0) (.int .i64 (t.line:Nat)) (.int .i64 (t.col:Nat)));rw[<-hw];clear cv0 cv1 cv2 cv3 cv4 cv5 cv6 cv7 z0 fz0 z1 fz1 z2 fz2 z3 fz3 z4 fz4 z5 fz5 z6 fz6 z7 fz7;replace HP:=h_ (HP.out.store HBr.out (by decide) (by omega) hg);replace HBt:=kG hg HBt;replace HBv:=kG hg HBv;replace HUn:=h_ (HUn.out.grown hg (fun h=>by omega));replace HOP:=h_ (HOP.out.grown hg (by omega));replace HD:=dN HD hg (by omega);have hsz7:=HD.out.size;clear hw hg;have hu:U.node 0 [] [] (dn s.nx.text) s.nx.line s.nx.col []=U.node 0 [] [] (dn t.text) t.line t.col []:=by rw[HNt.out]
  rw[hu];exact⟨⟨0,⟨#[]⟩,⟨#[]⟩,false,ao,nn,cc,none,0,0,(t.line:Nat),(t.col:Nat)⟩,rfl,(HUn.out.mono (fun b h=>by have h:Nn<=b/\True:=h;show _<=b;omega)),HP.out,HD.out⟩
 rw[if_neg h1k] at hc;have H1:Hid (((s.nx.kind:Int)==1)=false):=h_ (by rw[beq_eq_false_iff_ne];omega)
 by_cases h0k:s.nx.kind=0
 ·rw[if_pos h0k] at hc;have H0:Hid (((s.nx.kind:Int)==0)=true):=h_ (by rw[h0k];rfl);clear h1k h0k
  by_cases ho:s.tk.is wOpen=true
  ·rw[if_pos ho,Option.bind_eq_some_iff] at hc;obtain⟨r1,h1,hr⟩:=hc;injection hr with hr;subst hr;have h1:=h_ h1;have HOPN:Hid (s.tk.is [40]=true):=h_ ho;have HI:Hid (s.tk.acc [40]=s.tk.tk):=h_ (by unfold St.acc;rw[show s.tk.is [40]=true from ho];rfl);clear ho;go_enter Tryz.func140,Tryz.ntmps140
   go_upto_region 1 with fail
   obtain⟨w1,kr,hw,hkk,hb,-,HBr⟩:=newb w #[.int .i64 0,.string ⟨#[]⟩,.string ⟨#[]⟩,.bool false,.slice none 0 0,.slice none 0 0,.int .i64 0,.int .i64 0] 46;have hgr:g<kr:=by rw[hkk];exact HP.out.lt
   have her:w.heap.size<=kr:=by omega
   rw[hw,<-hkk];replace HP:=h_ (HP.out.below hb);replace HOP:=h_ (HOP.out.below hb);have HD:=h_ (below_grown hb (some g));clear hw hb hkk;go_wp2_with fail
   refine (take_p g s w1 HP.out).mono ?_;rintro e w2 ⟨rfl,hp,hg⟩;replace HBr:=kG hg HBr;replace HOP:=h_ (HOP.out.grown hg (by omega));replace HP:=h_ hp;replace HD:=dG HD hg;have hsz2:=HD.out.size;clear hp hg;simp only[tokV];obtain⟨t,hnx⟩:∃ t,t=St.nx s:=⟨_,rfl⟩
   rw[<-hnx];have HNt:=h_ hnx;clear hnx;go_upto_region 2 with fail
   obtain⟨w3,kt,hw,hkk,hb,-,HBt⟩:=newb w2 #[.int .i64 (t.kind:Nat),.string ⟨t.text.toArray⟩,.int .i64 (t.line:Nat),.int .i64 (t.col:Nat)] 97;have hgt:g<kt:=by rw[hkk];exact HP.out.lt
   have het:w.heap.size<=kt:=by omega
   have hr_t:=lk_ hkk HBr;rw[hw,<-hkk];replace HBr:=kB hb HBr;replace HP:=h_ (HP.out.below hb);replace HOP:=h_ (HOP.out.below hb);replace HD:=dB HD hb;clear hw hb hkk;have q1:=H1.out;rw[<-HNt.out] at q1;have q0:=H0.out;rw[<-HNt.out] at q0;obtain⟨ct0,ct1,ct2,ct3⟩:=cl4 HBt.out;go_wp2_with fail
   refine (accept_p g s.tk [40] w3 HP.out).mono ?_;rintro e w4 ⟨rfl,hp,hg⟩;clear ct0 ct1 ct2 ct3;replace HBr:=kG hg HBr;replace HBt:=kG hg HBt;replace HOP:=h_ (HOP.out.grown hg (by omega));replace HP:=h_ hp;replace HD:=dG HD hg;have hsz4:=HD.out.size;clear hp hg;rw[HOPN.out];rw[HI.out] at HP;obtain⟨ct0,ct1,ct2,ct3⟩:=cl4 HBt.out;go_upto_region 9 with fail
   have hlt_t:=lt_of_block HBt.out;have hog:∀ q,q<1->(fun q=>g) q<w4.heap.size:=fun q _=>by show g<_;exact HP.out.lt
   refine R7.region (by kernel_rfl) [[],[],[1],[0,1,2],[0,1,2,3]] [] [(2,1000)] (fun q=>g) 1 3 (by kernel_rfl) (by kernel_rfl) (by rfl) hog (fun q q' h h' hn=>absurd hn (by omega)) ?_;refine R7.cd ?_ (fun T xs wr hA=>?_) ?_
   rotate_left
   ·have e3:=hA.pq 3;simp only[gsa,gsc,gsz] at e3;have hBq:wr.heap[kt]?=_:=(hA.bl _ hlt_t (fun q _=>by show g≠kt;omega)).trans HBt.out;obtain⟨q0,q1,q2,q3⟩:=cl4 hBq;clear hBq;clear hA;go_simp<;>(try with_reducible rfl)
   refine R7.cd ?_ (fun T xs wr hA=>?_) ?_
   rotate_left
   ·have e0:=hA.pq 0;simp only[gsa,gsz] at e0;clear hA;go_simp<;>(try with_reducible rfl)
   refine R7.Chain.callOld 0 (fun xs v w=>∃ ko c,v=.slice ko r1.1.length c/\Um w (fun b=>w4.heap.size<=b) ⟨24,⟨t.text.toArray⟩,⟨#[]⟩,false,none,0,0,ko,r1.1.length,c,(t.line:Nat),(t.col:Nat)⟩ (.node 24 t.text [] 0 t.line t.col r1.1)/\PS w g r1.2) (fun _ _ _ _ ⟨ko,c,h1,h2,h3⟩ hb=>⟨ko,c,h1,h2.below hb,h3.below hb⟩) (fun _ _ _ _ q' _ hq hne _=>absurd rfl hne) (by rfl) (by rfl) (by decide) (R7.own_one (by rfl)) (fun T xs wr hA hold=>?_) ?_
   ·have hsw:=(hA.be 0 (Nat.zero_le _) (fun _ _=>Nat.zero_le _)).size;have e27:=tr_ (hA.tq 1 27) (hA.fq 1)
    (try simp (disch:=decide) only [R7.mi] at e27)
    have h0:=undrew (hA.be 0 (Nat.zero_le _) (fun _ _=>Nat.zero_le _))
    have hbw:Below w4.heap.size w4 wr:=⟨h0.os,h0.tape,h0.output,h0.size,fun k hk=>by
     by_cases e:k=g
     ·rw[e];exact hold
     exact hA.bl k hk (fun q _ h=>e h.symm)⟩
    clear hA;refine⟨(by rfl),fun K hK=>?_⟩;go_simp
    refine (R.out g s.tk.tk r1 wr (HP.out.below hbw) (HOP.out.below hbw) h1.out).mono ?_;rintro e w' ⟨ko,c,rfl,hc1,hc2,hc3,hp,hg⟩;refine hK.out _ _ ⟨ko,c,rfl,?_,hp⟩ (R7.Priv.of hg);rw[Um];refine⟨⟨rfl,rfl,rfl,rfl,rfl,rfl⟩,⟨?_,fun h=>absurd rfl h⟩,⟨rfl,hc1,fun h a e=>Nat.le_trans hbw.size (hc2 h a e)⟩,Ums.mono (fun b h=>Nat.le_trans hbw.size h) hc3⟩;rw[dig_zero];exact⟨none,0,rfl,Nat.le_refl _,by omega,fun _=>rfl,fun i hi=>by simp at hi⟩
   refine R7.Chain.done (fun xs w5 hL=>?_);obtain⟨⟨hbe,hbl⟩,hf,-,-⟩:=hL;have f0:xs 0=_:=hf 0 (by decide);have f1:xs 1=_:=hf 1 (by decide);have F2:∃ ko c,(xs 2)=.slice ko r1.1.length c/\Um w5 (fun b=>w4.heap.size<=b) ⟨24,⟨t.text.toArray⟩,⟨#[]⟩,false,none,0,0,ko,r1.1.length,c,(t.line:Nat),(t.col:Nat)⟩ (.node 24 t.text [] 0 t.line t.col r1.1)/\PS w5 g r1.2:=hf 2 (by decide)
   (try simp (disch:=decide) only [R7.mi] at f0 f1)
   have hb0:Below 0 w4 w5:=undrew (hbe 0 (Nat.zero_le _) (fun _ _=>Nat.zero_le _));have hgr:∀ j,j<w4.heap.size->(∀ q,q<1->(fun q=>g) q≠j)->w5.heap[j]?=w4.heap[j]?:=hbl;clear hbe hbl hf;obtain⟨ko,c,hv,hu,hp⟩:=F2;have hg:w4.grownBy w5 (some g):=⟨hb0.os,hb0.tape,hb0.output,hb0.size,fun k hk hn=>hgr k hk (fun q _ e=>hn (by rw[<-e]))⟩
   have hkr_N:kr<w4.heap.size:=lt_of_block HBr.out;refine R7.rest_list (by decide) (by kernel_rfl) ?_;simp only[R7.fill,t1_,t2_,t3_,t4_,t5_,t6_,t7_,f0,f1];simp only[hv];clear ct0 ct1 ct2 ct3;clear hlt_t hog hv f0 f1;replace HBr:=kG hg HBr;replace HBt:=kG hg HBt;replace HOP:=h_ (HOP.out.grown hg (by omega));replace HP:=h_ hp;replace HD:=dG HD hg;have hsz5:=HD.out.size;have HUz:=h_ hu;have hzN:w.heap.size<=w4.heap.size:=by omega
   clear hu hp hg hb0 hgr;go_wp2_with fail
   refine (named_p 24 t ko r1.1.length c w5).mono ?_;rintro e w6 ⟨rfl,hb⟩;replace HBr:=kB hb HBr;replace HBt:=kB hb HBt;replace HP:=h_ (HP.out.below hb);replace HUz:=h_ (HUz.out.below hb);replace HOP:=h_ (HOP.out.below hb);replace HD:=dB HD hb;clear hb;simp only[xv];obtain⟨z0,z1,z2,z3,z4,z5,z6,z7⟩:=cl8 HBr.out;obtain⟨fz0,fz1,fz2,fz3,fz4,fz5,fz6,fz7⟩:=fr8 HBr.out;go_wp2_with fail
   refine bodyPost_ret (v:=.agg #[.int .i64 24,.string ⟨t.text.toArray⟩,.string ⟨#[]⟩,.bool false,.slice none 0 0,.slice ko r1.1.length c,.int .i64 (t.line:Nat),.int .i64 (t.col:Nat)]) (by simp[results,Tryz.results140,go_sem,z0,z1,z2,z3,z4,z5,z6,z7]) rfl ?_;obtain⟨wz,hw⟩:∃ x,x=st8 w6 kr (.int .i64 24) (.string ⟨t.text.toArray⟩) (.string ⟨#[]⟩) (.bool false) (.slice none 0 0) (.slice ko r1.1.length c) (.int .i64 (t.line:Nat)) (.int .i64 (t.col:Nat)):=⟨_,rfl⟩
   have hg:w6.grownBy wz (some kr):=by rw[hw];exact st8_grown _ _ _ _ _ _ _ _ _ _
   change TreePost w g _ _ _ (st8 w6 kr (.int .i64 24) (.string ⟨t.text.toArray⟩) (.string ⟨#[]⟩) (.bool false) (.slice none 0 0) (.slice ko r1.1.length c) (.int .i64 (t.line:Nat)) (.int .i64 (t.col:Nat)));rw[<-hw];clear z0 fz0 z1 fz1 z2 fz2 z3 fz3 z4 fz4 z5 fz5 z6 fz6 z7 fz7;replace HP:=h_ (HP.out.store HBr.out (by decide) (by omega) hg);replace HBt:=kG hg HBt;replace HUz:=h_ (HUz.out.grown hg (fun h=>by omega));replace HOP:=h_ (HOP.out.grown hg (by omega));replace HD:=dN HD hg (by omega);have hsz6:=HD.out.size;clear hw hg;have hu:nmd 24 s.nx r1.1=U.node 24 t.text [] 0 t.line t.col r1.1:=by unfold nmd;rw[HNt.out]
   rw[hu];exact⟨⟨24,⟨t.text.toArray⟩,⟨#[]⟩,false,none,0,0,ko,r1.1.length,c,(t.line:Nat),(t.col:Nat)⟩,rfl,(HUz.out.mono (fun b h=>by have h:w4.heap.size<=b:=h;show _<=b;omega)),HP.out,HD.out⟩
  rw[if_neg ho] at hc;injection hc with hc;subst hc;have HOPN:Hid (s.tk.is [40]=false):=h_ (by simpa using ho);have HI:Hid (s.tk.acc [40]=s.tk):=h_ (by unfold St.acc;rw[show s.tk.is [40]=false by simpa using ho];rfl);clear ho;go_enter Tryz.func140,Tryz.ntmps140
  go_upto_region 1 with fail
  obtain⟨w1,kr,hw,hkk,hb,-,HBr⟩:=newb w #[.int .i64 0,.string ⟨#[]⟩,.string ⟨#[]⟩,.bool false,.slice none 0 0,.slice none 0 0,.int .i64 0,.int .i64 0] 46;have hgr:g<kr:=by rw[hkk];exact HP.out.lt
  have her:w.heap.size<=kr:=by omega
  rw[hw,<-hkk];replace HP:=h_ (HP.out.below hb);replace HOP:=h_ (HOP.out.below hb);have HD:=h_ (below_grown hb (some g));clear hw hb hkk;go_wp2_with fail
  refine (take_p g s w1 HP.out).mono ?_;rintro e w2 ⟨rfl,hp,hg⟩;replace HBr:=kG hg HBr;replace HOP:=h_ (HOP.out.grown hg (by omega));replace HP:=h_ hp;replace HD:=dG HD hg;have hsz2:=HD.out.size;clear hp hg;simp only[tokV];obtain⟨t,hnx⟩:∃ t,t=St.nx s:=⟨_,rfl⟩
  rw[<-hnx];have HNt:=h_ hnx;clear hnx;go_upto_region 2 with fail
  obtain⟨w3,kt,hw,hkk,hb,-,HBt⟩:=newb w2 #[.int .i64 (t.kind:Nat),.string ⟨t.text.toArray⟩,.int .i64 (t.line:Nat),.int .i64 (t.col:Nat)] 97;have hgt:g<kt:=by rw[hkk];exact HP.out.lt
  have het:w.heap.size<=kt:=by omega
  have hr_t:=lk_ hkk HBr;rw[hw,<-hkk];replace HBr:=kB hb HBr;replace HP:=h_ (HP.out.below hb);replace HOP:=h_ (HOP.out.below hb);replace HD:=dB HD hb;clear hw hb hkk;have q1:=H1.out;rw[<-HNt.out] at q1;have q0:=H0.out;rw[<-HNt.out] at q0;obtain⟨ct0,ct1,ct2,ct3⟩:=cl4 HBt.out;go_wp2_with fail
  refine (accept_p g s.tk [40] w3 HP.out).mono ?_;rintro e w4 ⟨rfl,hp,hg⟩;clear ct0 ct1 ct2 ct3;replace HBr:=kG hg HBr;replace HBt:=kG hg HBt;replace HOP:=h_ (HOP.out.grown hg (by omega));replace HP:=h_ hp;replace HD:=dG HD hg;clear hp hg;rw[HOPN.out];rw[HI.out] at HP;obtain⟨ct0,ct1,ct2,ct3⟩:=cl4 HBt.out;go_wp2_with fail
  refine (named_p 3 t none 0 0 w4).mono ?_;rintro e w5 ⟨rfl,hb⟩;clear ct0 ct1 ct2 ct3;replace HBr:=kB hb HBr;replace HBt:=kB hb HBt;replace HP:=h_ (HP.out.below hb);replace HOP:=h_ (HOP.out.below hb);replace HD:=dB HD hb;clear hb;simp only[xv];obtain⟨z0,z1,z2,z3,z4,z5,z6,z7⟩:=cl8 HBr.out;obtain⟨fz0,fz1,fz2,fz3,fz4,fz5,fz6,fz7⟩:=fr8 HBr.out;go_wp2_with fail
  refine bodyPost_ret (v:=.agg #[.int .i64 3,.string ⟨t.text.toArray⟩,.string ⟨#[]⟩,.bool false,.slice none 0 0,.slice none 0 0,.int .i64 (t.line:Nat),.int .i64 (t.col:Nat)]) (by simp[results,Tryz.results140,go_sem,z0,z1,z2,z3,z4,z5,z6,z7]) rfl ?_;obtain⟨wz,hw⟩:∃ x,x=st8 w5 kr (.int .i64 3) (.string ⟨t.text.toArray⟩) (.string ⟨#[]⟩) (.bool false) (.slice none 0 0) (.slice none 0 0) (.int .i64 (t.line:Nat)) (.int .i64 (t.col:Nat)):=⟨_,rfl⟩
  have hg:w5.grownBy wz (some kr):=by rw[hw];exact st8_grown _ _ _ _ _ _ _ _ _ _
  change TreePost w g _ _ _ (st8 w5 kr (.int .i64 3) (.string ⟨t.text.toArray⟩) (.string ⟨#[]⟩) (.bool false) (.slice none 0 0) (.slice none 0 0) (.int .i64 (t.line:Nat)) (.int .i64 (t.col:Nat)));rw[<-hw];clear z0 fz0 z1 fz1 z2 fz2 z3 fz3 z4 fz4 z5 fz5 z6 fz6 z7 fz7;replace HP:=h_ (HP.out.store HBr.out (by decide) (by omega) hg);replace HBt:=kG hg HBt;replace HOP:=h_ (HOP.out.grown hg (by omega));replace HD:=dN HD hg (by omega);have hsz5:=HD.out.size;clear hw hg;have hu:nmd 3 s.nx []=U.node 3 t.text [] 0 t.line t.col []:=by unfold nmd;rw[HNt.out]
  rw[hu];exact⟨⟨3,⟨t.text.toArray⟩,⟨#[]⟩,false,none,0,0,none,0,0,(t.line:Nat),(t.col:Nat)⟩,rfl,um_leaf 3 t.text [] t.line t.col,HP.out,HD.out⟩
 rw[if_neg h0k] at hc;have H0:Hid (((s.nx.kind:Int)==0)=false):=h_ (by rw[beq_eq_false_iff_ne];omega);clear h0k h1k
 by_cases ho:s.is wV=true
 ·rw[if_pos ho] at hc;injection hc with hc;subst hc;have HA:Hid ((s.nx.text==[118])=true):=h_ ho;clear ho;go_enter Tryz.func140,Tryz.ntmps140
  go_upto_region 1 with fail
  obtain⟨w1,kr,hw,hkk,hb,-,HBr⟩:=newb w #[.int .i64 0,.string ⟨#[]⟩,.string ⟨#[]⟩,.bool false,.slice none 0 0,.slice none 0 0,.int .i64 0,.int .i64 0] 46;have hgr:g<kr:=by rw[hkk];exact HP.out.lt
  have her:w.heap.size<=kr:=by omega
  rw[hw,<-hkk];replace HP:=h_ (HP.out.below hb);replace HOP:=h_ (HOP.out.below hb);have HD:=h_ (below_grown hb (some g));clear hw hb hkk;go_wp2_with fail
  refine (take_p g s w1 HP.out).mono ?_;rintro e w2 ⟨rfl,hp,hg⟩;replace HBr:=kG hg HBr;replace HOP:=h_ (HOP.out.grown hg (by omega));replace HP:=h_ hp;replace HD:=dG HD hg;have hsz2:=HD.out.size;clear hp hg;simp only[tokV];obtain⟨t,hnx⟩:∃ t,t=St.nx s:=⟨_,rfl⟩
  rw[<-hnx];have HNt:=h_ hnx;clear hnx;go_upto_region 2 with fail
  obtain⟨w3,kt,hw,hkk,hb,-,HBt⟩:=newb w2 #[.int .i64 (t.kind:Nat),.string ⟨t.text.toArray⟩,.int .i64 (t.line:Nat),.int .i64 (t.col:Nat)] 97;have hgt:g<kt:=by rw[hkk];exact HP.out.lt
  have het:w.heap.size<=kt:=by omega
  have hr_t:=lk_ hkk HBr;rw[hw,<-hkk];replace HBr:=kB hb HBr;replace HP:=h_ (HP.out.below hb);replace HOP:=h_ (HOP.out.below hb);replace HD:=dB HD hb;clear hw hb hkk;have q1:=H1.out;rw[<-HNt.out] at q1;have q0:=H0.out;rw[<-HNt.out] at q0;have qA:=HA.out;rw[<-HNt.out] at qA;obtain⟨ct0,ct1,ct2,ct3⟩:=cl4 HBt.out;go_wp2_with fail
  refine (named_p 3 t none 0 0 w3).mono ?_;rintro e w4 ⟨rfl,hb⟩;clear ct0 ct1 ct2 ct3;replace HBr:=kB hb HBr;replace HBt:=kB hb HBt;replace HP:=h_ (HP.out.below hb);replace HOP:=h_ (HOP.out.below hb);replace HD:=dB HD hb;clear hb;simp only[xv];obtain⟨z0,z1,z2,z3,z4,z5,z6,z7⟩:=cl8 HBr.out;obtain⟨fz0,fz1,fz2,fz3,fz4,fz5,fz6,fz7⟩:=fr8 HBr.out;go_wp2_with fail
  refine bodyPost_ret (v:=.agg #[.int .i64 3,.string ⟨t.text.toArray⟩,.string ⟨#[]⟩,.bool false,.slice none 0 0,.slice none 0 0,.int .i64 (t.line:Nat),.int .i64 (t.col:Nat)]) (by simp[results,Tryz.results140,go_sem,z0,z1,z2,z3,z4,z5,z6,z7]) rfl ?_;obtain⟨wz,hw⟩:∃ x,x=st8 w4 kr (.int .i64 3) (.string ⟨t.text.toArray⟩) (.string ⟨#[]⟩) (.bool false) (.slice none 0 0) (.slice none 0 0) (.int .i64 (t.line:Nat)) (.int .i64 (t.col:Nat)):=⟨_,rfl⟩
  have hg:w4.grownBy wz (some kr):=by rw[hw];exact st8_grown _ _ _ _ _ _ _ _ _ _
  change TreePost w g _ _ _ (st8 w4 kr (.int .i64 3) (.string ⟨t.text.toArray⟩) (.string ⟨#[]⟩) (.bool false) (.slice none 0 0) (.slice none 0 0) (.int .i64 (t.line:Nat)) (.int .i64 (t.col:Nat)));rw[<-hw];clear z0 fz0 z1 fz1 z2 fz2 z3 fz3 z4 fz4 z5 fz5 z6 fz6 z7 fz7;replace HP:=h_ (HP.out.store HBr.out (by decide) (by omega) hg);replace HBt:=kG hg HBt;replace HOP:=h_ (HOP.out.grown hg (by omega));replace HD:=dN HD hg (by omega);have hsz4:=HD.out.size;clear hw hg;have hu:nmd 3 s.nx []=U.node 3 t.text [] 0 t.line t.col []:=by unfold nmd;rw[HNt.out]
  rw[hu];exact⟨⟨3,⟨t.text.toArray⟩,⟨#[]⟩,false,none,0,0,none,0,0,(t.line:Nat),(t.col:Nat)⟩,rfl,um_leaf 3 t.text [] t.line t.col,HP.out,HD.out⟩
 rw[if_neg ho] at hc;have HA:Hid ((s.nx.text==[118])=false):=h_ (by simpa [St.is] using ho);clear ho
 by_cases ho:s.is wTrue=true
 ·rw[if_pos ho] at hc;injection hc with hc;subst hc;have HB:Hid ((s.nx.text==[116,114,117,101])=true):=h_ ho;clear ho;go_enter Tryz.func140,Tryz.ntmps140
  go_upto_region 1 with fail
  obtain⟨w1,kr,hw,hkk,hb,-,HBr⟩:=newb w #[.int .i64 0,.string ⟨#[]⟩,.string ⟨#[]⟩,.bool false,.slice none 0 0,.slice none 0 0,.int .i64 0,.int .i64 0] 46;have hgr:g<kr:=by rw[hkk];exact HP.out.lt
  have her:w.heap.size<=kr:=by omega
  rw[hw,<-hkk];replace HP:=h_ (HP.out.below hb);replace HOP:=h_ (HOP.out.below hb);have HD:=h_ (below_grown hb (some g));clear hw hb hkk;go_wp2_with fail
  refine (take_p g s w1 HP.out).mono ?_;rintro e w2 ⟨rfl,hp,hg⟩;replace HBr:=kG hg HBr;replace HOP:=h_ (HOP.out.grown hg (by omega));replace HP:=h_ hp;replace HD:=dG HD hg;have hsz2:=HD.out.size;clear hp hg;simp only[tokV];obtain⟨t,hnx⟩:∃ t,t=St.nx s:=⟨_,rfl⟩
  rw[<-hnx];have HNt:=h_ hnx;clear hnx;go_upto_region 2 with fail
  obtain⟨w3,kt,hw,hkk,hb,-,HBt⟩:=newb w2 #[.int .i64 (t.kind:Nat),.string ⟨t.text.toArray⟩,.int .i64 (t.line:Nat),.int .i64 (t.col:Nat)] 97;have hgt:g<kt:=by rw[hkk];exact HP.out.lt
  have het:w.heap.size<=kt:=by omega
  have hr_t:=lk_ hkk HBr;rw[hw,<-hkk];replace HBr:=kB hb HBr;replace HP:=h_ (HP.out.below hb);replace HOP:=h_ (HOP.out.below hb);replace HD:=dB HD hb;clear hw hb hkk;have q1:=H1.out;rw[<-HNt.out] at q1;have q0:=H0.out;rw[<-HNt.out] at q0;have qA:=HA.out;rw[<-HNt.out] at qA;have qB:=HB.out;rw[<-HNt.out] at qB;obtain⟨ct0,ct1,ct2,ct3⟩:=cl4 HBt.out;go_wp2_with fail
  refine (part_p 1 t none 0 0 w3).mono ?_;rintro e w4 ⟨rfl,hb⟩;clear ct0 ct1 ct2 ct3;replace HBr:=kB hb HBr;replace HBt:=kB hb HBt;replace HP:=h_ (HP.out.below hb);replace HOP:=h_ (HOP.out.below hb);replace HD:=dB HD hb;clear hb;simp only[xv];obtain⟨z0,z1,z2,z3,z4,z5,z6,z7⟩:=cl8 HBr.out;obtain⟨fz0,fz1,fz2,fz3,fz4,fz5,fz6,fz7⟩:=fr8 HBr.out;go_wp2_with fail
  refine bodyPost_ret (v:=.agg #[.int .i64 1,.string ⟨#[]⟩,.string ⟨#[]⟩,.bool false,.slice none 0 0,.slice none 0 0,.int .i64 (t.line:Nat),.int .i64 (t.col:Nat)]) (by simp[results,Tryz.results140,go_sem,z0,z1,z2,z3,z4,z5,z6,z7]) rfl ?_;obtain⟨wz,hw⟩:∃ x,x=st8 w4 kr (.int .i64 1) (.string ⟨#[]⟩) (.string ⟨#[]⟩) (.bool false) (.slice none 0 0) (.slice none 0 0) (.int .i64 (t.line:Nat)) (.int .i64 (t.col:Nat)):=⟨_,rfl⟩
  have hg:w4.grownBy wz (some kr):=by rw[hw];exact st8_grown _ _ _ _ _ _ _ _ _ _
  change TreePost w g _ _ _ (st8 w4 kr (.int .i64 1) (.string ⟨#[]⟩) (.string ⟨#[]⟩) (.bool false) (.slice none 0 0) (.slice none 0 0) (.int .i64 (t.line:Nat)) (.int .i64 (t.col:Nat)));rw[<-hw];clear z0 fz0 z1 fz1 z2 fz2 z3 fz3 z4 fz4 z5 fz5 z6 fz6 z7 fz7;replace HP:=h_ (HP.out.store HBr.out (by decide) (by omega) hg);replace HBt:=kG hg HBt;replace HOP:=h_ (HOP.out.grown hg (by omega));replace HD:=dN HD hg (by omega);have hsz4:=HD.out.size;clear hw hg;have hu:prt 1 s.nx []=U.node 1 [] [] 0 t.line t.col []:=by unfold prt;rw[HNt.out]
  rw[hu];exact⟨⟨1,⟨#[]⟩,⟨#[]⟩,false,none,0,0,none,0,0,(t.line:Nat),(t.col:Nat)⟩,rfl,um_leaf 1 [] [] t.line t.col,HP.out,HD.out⟩
 rw[if_neg ho] at hc;have HB:Hid ((s.nx.text==[116,114,117,101])=false):=h_ (by simpa [St.is] using ho);clear ho
 by_cases ho:s.is wFalse=true
 ·rw[if_pos ho] at hc;injection hc with hc;subst hc;have HC:Hid ((s.nx.text==[102,97,108,115,101])=true):=h_ ho;clear ho;go_enter Tryz.func140,Tryz.ntmps140
  go_upto_region 1 with fail
  obtain⟨w1,kr,hw,hkk,hb,-,HBr⟩:=newb w #[.int .i64 0,.string ⟨#[]⟩,.string ⟨#[]⟩,.bool false,.slice none 0 0,.slice none 0 0,.int .i64 0,.int .i64 0] 46;have hgr:g<kr:=by rw[hkk];exact HP.out.lt
  have her:w.heap.size<=kr:=by omega
  rw[hw,<-hkk];replace HP:=h_ (HP.out.below hb);replace HOP:=h_ (HOP.out.below hb);have HD:=h_ (below_grown hb (some g));clear hw hb hkk;go_wp2_with fail
  refine (take_p g s w1 HP.out).mono ?_;rintro e w2 ⟨rfl,hp,hg⟩;replace HBr:=kG hg HBr;replace HOP:=h_ (HOP.out.grown hg (by omega));replace HP:=h_ hp;replace HD:=dG HD hg;have hsz2:=HD.out.size;clear hp hg;simp only[tokV];obtain⟨t,hnx⟩:∃ t,t=St.nx s:=⟨_,rfl⟩
  rw[<-hnx];have HNt:=h_ hnx;clear hnx;go_upto_region 2 with fail
  obtain⟨w3,kt,hw,hkk,hb,-,HBt⟩:=newb w2 #[.int .i64 (t.kind:Nat),.string ⟨t.text.toArray⟩,.int .i64 (t.line:Nat),.int .i64 (t.col:Nat)] 97;have hgt:g<kt:=by rw[hkk];exact HP.out.lt
  have het:w.heap.size<=kt:=by omega
  have hr_t:=lk_ hkk HBr;rw[hw,<-hkk];replace HBr:=kB hb HBr;replace HP:=h_ (HP.out.below hb);replace HOP:=h_ (HOP.out.below hb);replace HD:=dB HD hb;clear hw hb hkk;have q1:=H1.out;rw[<-HNt.out] at q1;have q0:=H0.out;rw[<-HNt.out] at q0;have qA:=HA.out;rw[<-HNt.out] at qA;have qB:=HB.out;rw[<-HNt.out] at qB;have qC:=HC.out;rw[<-HNt.out] at qC;obtain⟨ct0,ct1,ct2,ct3⟩:=cl4 HBt.out;go_wp2_with fail
  refine (part_p 2 t none 0 0 w3).mono ?_;rintro e w4 ⟨rfl,hb⟩;clear ct0 ct1 ct2 ct3;replace HBr:=kB hb HBr;replace HBt:=kB hb HBt;replace HP:=h_ (HP.out.below hb);replace HOP:=h_ (HOP.out.below hb);replace HD:=dB HD hb;clear hb;simp only[xv];obtain⟨z0,z1,z2,z3,z4,z5,z6,z7⟩:=cl8 HBr.out;obtain⟨fz0,fz1,fz2,fz3,fz4,fz5,fz6,fz7⟩:=fr8 HBr.out;go_wp2_with fail
  refine bodyPost_ret (v:=.agg #[.int .i64 2,.string ⟨#[]⟩,.string ⟨#[]⟩,.bool false,.slice none 0 0,.slice none 0 0,.int .i64 (t.line:Nat),.int .i64 (t.col:Nat)]) (by simp[results,Tryz.results140,go_sem,z0,z1,z2,z3,z4,z5,z6,z7]) rfl ?_;obtain⟨wz,hw⟩:∃ x,x=st8 w4 kr (.int .i64 2) (.string ⟨#[]⟩) (.string ⟨#[]⟩) (.bool false) (.slice none 0 0) (.slice none 0 0) (.int .i64 (t.line:Nat)) (.int .i64 (t.col:Nat)):=⟨_,rfl⟩
  have hg:w4.grownBy wz (some kr):=by rw[hw];exact st8_grown _ _ _ _ _ _ _ _ _ _
  change TreePost w g _ _ _ (st8 w4 kr (.int .i64 2) (.string ⟨#[]⟩) (.string ⟨#[]⟩) (.bool false) (.slice none 0 0) (.slice none 0 0) (.int .i64 (t.line:Nat)) (.int .i64 (t.col:Nat)));rw[<-hw];clear z0 fz0 z1 fz1 z2 fz2 z3 fz3 z4 fz4 z5 fz5 z6 fz6 z7 fz7;replace HP:=h_ (HP.out.store HBr.out (by decide) (by omega) hg);replace HBt:=kG hg HBt;replace HOP:=h_ (HOP.out.grown hg (by omega));replace HD:=dN HD hg (by omega);have hsz4:=HD.out.size;clear hw hg;have hu:prt 2 s.nx []=U.node 2 [] [] 0 t.line t.col []:=by unfold prt;rw[HNt.out]
  rw[hu];exact⟨⟨2,⟨#[]⟩,⟨#[]⟩,false,none,0,0,none,0,0,(t.line:Nat),(t.col:Nat)⟩,rfl,um_leaf 2 [] [] t.line t.col,HP.out,HD.out⟩
 rw[if_neg ho] at hc;have HC:Hid ((s.nx.text==[102,97,108,115,101])=false):=h_ (by simpa [St.is] using ho);clear ho
 by_cases ho:s.is wNil=true
 ·rw[if_pos ho] at hc;injection hc with hc;subst hc;have HW:Hid ((s.nx.text==[91,93])=true):=h_ ho;clear ho;go_enter Tryz.func140,Tryz.ntmps140
  go_upto_region 1 with fail
  obtain⟨w1,kr,hw,hkk,hb,-,HBr⟩:=newb w #[.int .i64 0,.string ⟨#[]⟩,.string ⟨#[]⟩,.bool false,.slice none 0 0,.slice none 0 0,.int .i64 0,.int .i64 0] 46;have hgr:g<kr:=by rw[hkk];exact HP.out.lt
  have her:w.heap.size<=kr:=by omega
  rw[hw,<-hkk];replace HP:=h_ (HP.out.below hb);replace HOP:=h_ (HOP.out.below hb);have HD:=h_ (below_grown hb (some g));clear hw hb hkk;go_wp2_with fail
  refine (take_p g s w1 HP.out).mono ?_;rintro e w2 ⟨rfl,hp,hg⟩;replace HBr:=kG hg HBr;replace HOP:=h_ (HOP.out.grown hg (by omega));replace HP:=h_ hp;replace HD:=dG HD hg;have hsz2:=HD.out.size;clear hp hg;simp only[tokV];obtain⟨t,hnx⟩:∃ t,t=St.nx s:=⟨_,rfl⟩
  rw[<-hnx];have HNt:=h_ hnx;clear hnx;go_upto_region 2 with fail
  obtain⟨w3,kt,hw,hkk,hb,-,HBt⟩:=newb w2 #[.int .i64 (t.kind:Nat),.string ⟨t.text.toArray⟩,.int .i64 (t.line:Nat),.int .i64 (t.col:Nat)] 97;have hgt:g<kt:=by rw[hkk];exact HP.out.lt
  have het:w.heap.size<=kt:=by omega
  have hr_t:=lk_ hkk HBr;rw[hw,<-hkk];replace HBr:=kB hb HBr;replace HP:=h_ (HP.out.below hb);replace HOP:=h_ (HOP.out.below hb);replace HD:=dB HD hb;clear hw hb hkk;have q1:=H1.out;rw[<-HNt.out] at q1;have q0:=H0.out;rw[<-HNt.out] at q0;have qA:=HA.out;rw[<-HNt.out] at qA;have qB:=HB.out;rw[<-HNt.out] at qB;have qC:=HC.out;rw[<-HNt.out] at qC;have qW:=HW.out;rw[<-HNt.out] at qW;obtain⟨ct0,ct1,ct2,ct3⟩:=cl4 HBt.out;go_wp2_with fail
  refine (part_p 4 t none 0 0 w3).mono ?_;rintro e w4 ⟨rfl,hb⟩;clear ct0 ct1 ct2 ct3;replace HBr:=kB hb HBr;replace HBt:=kB hb HBt;replace HP:=h_ (HP.out.below hb);replace HOP:=h_ (HOP.out.below hb);replace HD:=dB HD hb;clear hb;simp only[xv];obtain⟨z0,z1,z2,z3,z4,z5,z6,z7⟩:=cl8 HBr.out;obtain⟨fz0,fz1,fz2,fz3,fz4,fz5,fz6,fz7⟩:=fr8 HBr.out;go_wp2_with fail
  refine bodyPost_ret (v:=.agg #[.int .i64 4,.string ⟨#[]⟩,.string ⟨#[]⟩,.bool false,.slice none 0 0,.slice none 0 0,.int .i64 (t.line:Nat),.int .i64 (t.col:Nat)]) (by simp[results,Tryz.results140,go_sem,z0,z1,z2,z3,z4,z5,z6,z7]) rfl ?_;obtain⟨wz,hw⟩:∃ x,x=st8 w4 kr (.int .i64 4) (.string ⟨#[]⟩) (.string ⟨#[]⟩) (.bool false) (.slice none 0 0) (.slice none 0 0) (.int .i64 (t.line:Nat)) (.int .i64 (t.col:Nat)):=⟨_,rfl⟩
  have hg:w4.grownBy wz (some kr):=by rw[hw];exact st8_grown _ _ _ _ _ _ _ _ _ _
  change TreePost w g _ _ _ (st8 w4 kr (.int .i64 4) (.string ⟨#[]⟩) (.string ⟨#[]⟩) (.bool false) (.slice none 0 0) (.slice none 0 0) (.int .i64 (t.line:Nat)) (.int .i64 (t.col:Nat)));rw[<-hw];clear z0 fz0 z1 fz1 z2 fz2 z3 fz3 z4 fz4 z5 fz5 z6 fz6 z7 fz7;replace HP:=h_ (HP.out.store HBr.out (by decide) (by omega) hg);replace HBt:=kG hg HBt;replace HOP:=h_ (HOP.out.grown hg (by omega));replace HD:=dN HD hg (by omega);have hsz4:=HD.out.size;clear hw hg;have hu:prt 4 s.nx []=U.node 4 [] [] 0 t.line t.col []:=by unfold prt;rw[HNt.out]
  rw[hu];exact⟨⟨4,⟨#[]⟩,⟨#[]⟩,false,none,0,0,none,0,0,(t.line:Nat),(t.col:Nat)⟩,rfl,um_leaf 4 [] [] t.line t.col,HP.out,HD.out⟩
 rw[if_neg ho] at hc;have HW:Hid ((s.nx.text==[91,93])=false):=h_ (by simpa [St.is] using ho);clear ho
 by_cases ho:s.is wOpen=true
 ·rw[if_pos ho,Option.bind_eq_some_iff] at hc;obtain⟨r1,h1,hr⟩:=hc;injection hr with hr;subst hr;have h1:=h_ h1;have HE:Hid ((s.nx.text==[40])=true):=h_ ho;clear ho;go_enter Tryz.func140,Tryz.ntmps140
  go_upto_region 1 with fail
  obtain⟨w1,kr,hw,hkk,hb,-,HBr⟩:=newb w #[.int .i64 0,.string ⟨#[]⟩,.string ⟨#[]⟩,.bool false,.slice none 0 0,.slice none 0 0,.int .i64 0,.int .i64 0] 46;have hgr:g<kr:=by rw[hkk];exact HP.out.lt
  have her:w.heap.size<=kr:=by omega
  rw[hw,<-hkk];replace HP:=h_ (HP.out.below hb);replace HOP:=h_ (HOP.out.below hb);have HD:=h_ (below_grown hb (some g));clear hw hb hkk;go_wp2_with fail
  refine (take_p g s w1 HP.out).mono ?_;rintro e w2 ⟨rfl,hp,hg⟩;replace HBr:=kG hg HBr;replace HOP:=h_ (HOP.out.grown hg (by omega));replace HP:=h_ hp;replace HD:=dG HD hg;have hsz2:=HD.out.size;clear hp hg;simp only[tokV];obtain⟨t,hnx⟩:∃ t,t=St.nx s:=⟨_,rfl⟩
  rw[<-hnx];have HNt:=h_ hnx;clear hnx;go_upto_region 2 with fail
  obtain⟨w3,kt,hw,hkk,hb,-,HBt⟩:=newb w2 #[.int .i64 (t.kind:Nat),.string ⟨t.text.toArray⟩,.int .i64 (t.line:Nat),.int .i64 (t.col:Nat)] 97;have hgt:g<kt:=by rw[hkk];exact HP.out.lt
  have het:w.heap.size<=kt:=by omega
  have hr_t:=lk_ hkk HBr;rw[hw,<-hkk];replace HBr:=kB hb HBr;replace HP:=h_ (HP.out.below hb);replace HOP:=h_ (HOP.out.below hb);replace HD:=dB HD hb;have hsz3:=HD.out.size;clear hw hb hkk;have q1:=H1.out;rw[<-HNt.out] at q1;have q0:=H0.out;rw[<-HNt.out] at q0;have qA:=HA.out;rw[<-HNt.out] at qA;have qB:=HB.out;rw[<-HNt.out] at qB;have qC:=HC.out;rw[<-HNt.out] at qC;have qW:=HW.out;rw[<-HNt.out] at qW;have qE:=HE.out;rw[<-HNt.out] at qE;obtain⟨ct0,ct1,ct2,ct3⟩:=cl4 HBt.out;go_wp2_with fail
  obtain⟨Na,hN⟩:∃ k,k=w3.heap.size:=⟨_,rfl⟩
  have hr_Na:kr<Na:=by rw[hN];exact lt_of_block HBr.out
  have ht_Na:kt<Na:=by rw[hN];exact lt_of_block HBt.out
  have hg_Na:g<Na:=by rw[hN];exact HP.out.lt
  have he_Na:w.heap.size<=Na:=by omega
  refine (E.out g _ _ w3 HP.out HOP.out h1.out).mono ?_;rintro e w4 ⟨xa,rfl,hu,hp,hg⟩;clear ct0 ct1 ct2 ct3;replace HBr:=kG hg HBr;replace HBt:=kG hg HBt;replace HOP:=h_ (HOP.out.grown hg (by omega));replace HP:=h_ hp;replace HD:=dG HD hg;have hsz4:=HD.out.size;rw[<-hN] at hu;have HUa:=h_ (hu.mono (S':=fun b=>Na<=b/\True) (fun b h=>⟨h,trivial⟩));clear hN hu;clear hp hg;obtain⟨ak,anm,aot,ab,aao,an,aq,ako,akn,akc,aln,acl⟩:=xa;simp only[xv];go_upto_region 22 with fail
  obtain⟨w5,ka,hw,hkk,hb,-,HBa⟩:=newb w4 #[.int .i64 ak,.string anm,.string aot,.bool ab,.slice aao an aq,.slice ako akn akc,.int .i64 aln,.int .i64 acl] 46;have hga:g<ka:=by rw[hkk];exact HP.out.lt
  have hea:w.heap.size<=ka:=by omega
  have hr_a:=lk_ hkk HBr;have ht_a:=lk_ hkk HBt;replace HUa:=h_ (HUa.out.offk hkk);rw[hw,<-hkk];replace HBr:=kB hb HBr;replace HBt:=kB hb HBt;replace HP:=h_ (HP.out.below hb);replace HUa:=h_ (HUa.out.below hb);replace HOP:=h_ (HOP.out.below hb);replace HD:=dB HD hb;have hsz5:=HD.out.size;clear hw hb hkk;go_wp2_with fail
  obtain⟨w6,kq1,hw,hkk,hb,-,HBq1⟩:=newb w5 #[.string ⟨#[41]⟩] 9;have hgq1:g<kq1:=by rw[hkk];exact HP.out.lt
  have heq1:w.heap.size<=kq1:=by omega
  have hr_q1:=lk_ hkk HBr;have ht_q1:=lk_ hkk HBt;have ha_q1:=lk_ hkk HBa;replace HUa:=h_ (HUa.out.offk hkk);rw[hw,<-hkk];replace HBr:=kB hb HBr;replace HBt:=kB hb HBt;replace HBa:=kB hb HBa;replace HP:=h_ (HP.out.below hb);replace HUa:=h_ (HUa.out.below hb);replace HOP:=h_ (HOP.out.below hb);replace HD:=dB HD hb;have hsz6:=HD.out.size;clear hw hb hkk;refine (expect_p g r1.2 [[41]] kq1 w6 HP.out HBq1.out (by omega) (by decide)).mono ?_;rintro e w7 ⟨⟨v,rfl⟩,hp,hg⟩;replace HBr:=kG hg HBr;replace HBt:=kG hg HBt;replace HBa:=kG hg HBa;replace HBq1:=kG hg HBq1;replace HUa:=h_ (HUa.out.grown hg (fun h=>by omega));replace HOP:=h_ (HOP.out.grown hg (by omega));replace HP:=h_ hp;replace HD:=dG HD hg;clear hp hg;obtain⟨ca0,ca1,ca2,ca3,ca4,ca5,ca6,ca7⟩:=cl8 HBa.out;obtain⟨z0,z1,z2,z3,z4,z5,z6,z7⟩:=cl8 HBr.out
  obtain⟨fz0,fz1,fz2,fz3,fz4,fz5,fz6,fz7⟩:=fr8 HBr.out;go_wp2_with fail
  refine bodyPost_ret (v:=.agg #[.int .i64 ak,.string anm,.string aot,.bool ab,.slice aao an aq,.slice ako akn akc,.int .i64 aln,.int .i64 acl]) (by simp[results,Tryz.results140,go_sem,z0,z1,z2,z3,z4,z5,z6,z7]) rfl ?_;obtain⟨wz,hw⟩:∃ x,x=st8 w7 kr (.int .i64 ak) (.string anm) (.string aot) (.bool ab) (.slice aao an aq) (.slice ako akn akc) (.int .i64 aln) (.int .i64 acl):=⟨_,rfl⟩
  have hg:w7.grownBy wz (some kr):=by rw[hw];exact st8_grown _ _ _ _ _ _ _ _ _ _
  change TreePost w g _ _ _ (st8 w7 kr (.int .i64 ak) (.string anm) (.string aot) (.bool ab) (.slice aao an aq) (.slice ako akn akc) (.int .i64 aln) (.int .i64 acl));rw[<-hw];clear ca0 ca1 ca2 ca3 ca4 ca5 ca6 ca7 z0 fz0 z1 fz1 z2 fz2 z3 fz3 z4 fz4 z5 fz5 z6 fz6 z7 fz7;replace HP:=h_ (HP.out.store HBr.out (by decide) (by omega) hg);replace HBt:=kG hg HBt;replace HBa:=kG hg HBa;replace HUa:=h_ (HUa.out.grown hg (fun h=>by omega));replace HOP:=h_ (HOP.out.grown hg (by omega));replace HD:=dN HD hg (by omega);have hsz7:=HD.out.size;clear hw hg;exact⟨⟨ak,anm,aot,ab,aao,an,aq,ako,akn,akc,aln,acl⟩,rfl,(HUa.out.mono (fun b h=>by have h:((Na<=b/\True)/\b≠ka)/\b≠kq1:=h;show _<=b;omega)),HP.out,HD.out⟩
 rw[if_neg ho] at hc;have HE:Hid ((s.nx.text==[40])=false):=h_ (by simpa [St.is] using ho);clear ho;injection hc with hc;subst hc;go_enter Tryz.func140,Tryz.ntmps140
 go_upto_region 1 with fail
 obtain⟨w1,kr,hw,hkk,hb,-,HBr⟩:=newb w #[.int .i64 0,.string ⟨#[]⟩,.string ⟨#[]⟩,.bool false,.slice none 0 0,.slice none 0 0,.int .i64 0,.int .i64 0] 46;have hgr:g<kr:=by rw[hkk];exact HP.out.lt
 have her:w.heap.size<=kr:=by omega
 rw[hw,<-hkk];replace HP:=h_ (HP.out.below hb);replace HOP:=h_ (HOP.out.below hb);have HD:=h_ (below_grown hb (some g));clear hw hb hkk;go_wp2_with fail
 refine (take_p g s w1 HP.out).mono ?_;rintro e w2 ⟨rfl,hp,hg⟩;replace HBr:=kG hg HBr;replace HOP:=h_ (HOP.out.grown hg (by omega));replace HP:=h_ hp;replace HD:=dG HD hg;have hsz2:=HD.out.size;clear hp hg;simp only[tokV];obtain⟨t,hnx⟩:∃ t,t=St.nx s:=⟨_,rfl⟩
 rw[<-hnx];have HNt:=h_ hnx;clear hnx;go_upto_region 2 with fail
 obtain⟨w3,kt,hw,hkk,hb,-,HBt⟩:=newb w2 #[.int .i64 (t.kind:Nat),.string ⟨t.text.toArray⟩,.int .i64 (t.line:Nat),.int .i64 (t.col:Nat)] 97;have hgt:g<kt:=by rw[hkk];exact HP.out.lt
 have het:w.heap.size<=kt:=by omega
 have hr_t:=lk_ hkk HBr;rw[hw,<-hkk];replace HBr:=kB hb HBr;replace HP:=h_ (HP.out.below hb);replace HOP:=h_ (HOP.out.below hb);replace HD:=dB HD hb;clear hw hb hkk;have q1:=H1.out;rw[<-HNt.out] at q1;have q0:=H0.out;rw[<-HNt.out] at q0;have qA:=HA.out;rw[<-HNt.out] at qA;have qB:=HB.out;rw[<-HNt.out] at qB;have qC:=HC.out;rw[<-HNt.out] at qC;have qW:=HW.out;rw[<-HNt.out] at qW;have qE:=HE.out;rw[<-HNt.out] at qE;obtain⟨ct0,ct1,ct2,ct3⟩:=cl4 HBt.out;go_wp2_with fail
 have hp0:=fail_p g s.tk t 1 w3 HP.out;simp only[tokV] at hp0;refine (hp0).mono ?_;rintro e w4 ⟨⟨v,rfl⟩,hp,hg⟩;clear ct0 ct1 ct2 ct3;replace HBr:=kG hg HBr;replace HBt:=kG hg HBt;replace HOP:=h_ (HOP.out.grown hg (by omega));replace HP:=h_ hp;replace HD:=dG HD hg;clear hp hg;clear hp0;obtain⟨z0,z1,z2,z3,z4,z5,z6,z7⟩:=cl8 HBr.out;obtain⟨fz0,fz1,fz2,fz3,fz4,fz5,fz6,fz7⟩:=fr8 HBr.out;go_wp2_with fail
 refine bodyPost_ret (v:=.agg #[.int .i64 0,.string ⟨#[]⟩,.string ⟨#[]⟩,.bool false,.slice none 0 0,.slice none 0 0,.int .i64 0,.int .i64 0]) (by simp[results,Tryz.results140,go_sem,z0,z1,z2,z3,z4,z5,z6,z7]) rfl ?_;obtain⟨wz,hw⟩:∃ x,x=st8 w4 kr (.int .i64 0) (.string ⟨#[]⟩) (.string ⟨#[]⟩) (.bool false) (.slice none 0 0) (.slice none 0 0) (.int .i64 0) (.int .i64 0):=⟨_,rfl⟩
 have hg:w4.grownBy wz (some kr):=by rw[hw];exact st8_grown _ _ _ _ _ _ _ _ _ _
 change TreePost w g _ _ _ (st8 w4 kr (.int .i64 0) (.string ⟨#[]⟩) (.string ⟨#[]⟩) (.bool false) (.slice none 0 0) (.slice none 0 0) (.int .i64 0) (.int .i64 0));rw[<-hw];clear z0 fz0 z1 fz1 z2 fz2 z3 fz3 z4 fz4 z5 fz5 z6 fz6 z7 fz7;replace HP:=h_ (HP.out.store HBr.out (by decide) (by omega) hg);replace HBt:=kG hg HBt;replace HOP:=h_ (HOP.out.grown hg (by omega));replace HD:=dN HD hg (by omega);have hsz4:=HD.out.size;clear hw hg;exact⟨⟨0,⟨#[]⟩,⟨#[]⟩,false,none,0,0,none,0,0,0,0⟩,rfl,um_zero _ _,by rw[<-HNt.out];exact HP.out,HD.out⟩
structure AllAt7 (n:Nat):Prop where
 ex:ExprAt7 n
 le:LetAt n
 iff:IfAt n
 ma:MatchAt n
 ast:AssertAt n
 bi:BinAt n
 on:OneAt n
 atm:AtomAt n
 ar:ArgsAt n
theorem all_p (n:Nat):AllAt7 n:=by
 induction n using Nat.strongRecOn with
 | ind n ih =>
  cases n with
  | zero=>constructor<;>intro _ _ _ _ _ _ h<;>first | (cases h;done) | (intro h;cases h)
  | succ n =>
   have I:=ih n (by omega);exact⟨expr_p n (h_ I.le) (h_ I.iff) (h_ I.ma) (h_ I.ast) (h_ I.bi),let_p n (h_ I.ex),if_p n (h_ I.ex),match_p n (h_ I.ex),assert_p n (h_ I.ex),bin_p n (h_ I.on) (h_ fun m hm=>(ih m (by omega)).bi),one_p n (h_ I.on) (h_ I.atm),atom_p n (h_ I.ex) (h_ I.ar),args_p n (h_ fun m hm=>(ih m (by omega)).ex)⟩
end Go.Proofs.YtkocdbgmckdcpaaGreatDoor
namespace Go.Proofs.YtkocdbgmckdcpaaGreatDoor
set_option maxRecDepth 100000
set_option linter.unusedVariables false
theorem good_tk {s:St} (h:GoodL s.rest):GoodL s.tk.rest:=by
 unfold St.tk
 split
 ·exact h
 rename_i hk;exact h.tail hk
theorem good_last:∀ {l:List Tok},GoodL l->GoodL (l.drop (l.length - 1))
 | [],h=>h
 | [t],h=>h
 | t::u::ts,h=>by
  have:=good_last h.2.2;simp only[lsc,Nat.add_sub_cancel] at this ⊢;rw[List.drop_succ_cons];exact this
theorem good_fail {s:St} (h:GoodL s.rest) (t:Tok) (c:Nat):GoodL (s.fail t c).rest:=good_last h
theorem good_exp {s:St} (h:GoodL s.rest) (w:Bs):GoodL (s.exp w).rest:=by unfold St.exp;split;exact good_tk h;exact good_fail h _ _
theorem good_name {s:St} (h:GoodL s.rest):GoodL s.name.rest:=by unfold St.name;split;exact good_tk h;exact good_fail (good_tk h) _ _
theorem c_good (n:Nat):(∀ s x,GoodL s.rest->cExpr n s=some x->GoodL x.2.rest)/\(∀ s x,GoodL s.rest->cLet n s=some x->GoodL x.2.rest)/\(∀ s x,GoodL s.rest->cIf n s=some x->GoodL x.2.rest)/\(∀ s x,GoodL s.rest->cMatch n s=some x->GoodL x.2.rest)/\(∀ s x,GoodL s.rest->cAssert n s=some x->GoodL x.2.rest) /\
  (∀ l s x,GoodL s.rest->cBin n l s=some x->GoodL x.2.rest)/\(∀ l e v s x,GoodL s.rest->cLoop n l e v s=some x->GoodL x.2.rest)/\(∀ s x,GoodL s.rest->cOne n s=some x->GoodL x.2.rest)/\(∀ s x,GoodL s.rest->cAtom n s=some x->GoodL x.2.rest)/\(∀ s x,GoodL s.rest->cArgs n s=some x->GoodL x.2.rest)/\(∀ l s x,GoodL s.rest->cMore n l s=some x->GoodL x.2.rest):=by
 induction n with
 | zero=>refine⟨?_,?_,?_,?_,?_,?_,?_,?_,?_,?_,?_⟩<;>intros<;>simp_all [cExpr,cLet,cIf,cMatch,cAssert,cBin,cLoop,cOne,cAtom,cArgs,cMore]
 | succ n ih =>
  obtain⟨i1,i2,i3,i4,i5,i6,i7,i8,i9,i10,i11⟩:=ih;refine⟨?_,?_,?_,?_,?_,?_,?_,?_,?_,?_,?_⟩
  ·intro s x g h;rw[cExpr] at h
   split at h;exact i2 _ _ g h
   split at h;exact i3 _ _ g h
   split at h;exact i4 _ _ g h
   split at h;exact i5 _ _ g h
   exact i6 _ _ _ g h
  ·intro s x g h;rw[cLet] at h;simp only[Option.bind_eq_some_iff] at h;obtain⟨r1,h1,r2,h2,h3⟩:=h;injection h3 with h3;subst h3
   show GoodL r2.2.rest
   exact i1 _ _ (good_exp (i1 _ _ (good_exp (good_name (good_tk g)) _) h1) _) h2
  ·intro s x g h;rw[cIf] at h;simp only[Option.bind_eq_some_iff] at h;obtain⟨r1,h1,r2,h2,r3,h3,h4⟩:=h;injection h4 with h4;subst h4
   show GoodL r3.2.rest
   exact i1 _ _ (good_exp (i1 _ _ (good_exp (i1 _ _ (good_tk g) h1) _) h2) _) h3
  ·intro s x g h;rw[cMatch] at h;simp only[Option.bind_eq_some_iff] at h;obtain⟨r1,h1,r2,h2,r3,h3,h4⟩:=h;injection h4 with h4;subst h4
   show GoodL r3.2.rest
   exact i1 _ _ (good_exp (good_name (good_exp (good_name (good_exp (i1 _ _ (good_exp (good_exp (good_exp (i1 _ _ (good_tk g) h1) _) _) _) h2) _)) _)) _) h3
  ·intro s x g h;rw[cAssert] at h;simp only[Option.bind_eq_some_iff] at h;obtain⟨r1,h1,r2,h2,h3⟩:=h;injection h3 with h3;subst h3
   show GoodL r2.2.rest
   exact i1 _ _ (good_exp (i1 _ _ (good_tk g) h1) _) h2
  ·intro l s x g h;rw[cBin,Option.bind_eq_some_iff] at h;obtain⟨r1,h1,h2⟩:=h;exact i7 _ _ _ _ _ (i8 _ _ g h1) h2
  ·intro l e v s x g h;rw[cLoop] at h
   split at h
   ·injection h with h;subst h;exact g
   split at h
   ·injection h with h;subst h;exact g
   rw[Option.bind_eq_some_iff] at h;obtain⟨r1,h1,h2⟩:=h;exact i7 _ _ _ _ _ (i6 _ _ _ (good_tk g) h1) h2
  ·intro s x g h;rw[cOne] at h
   split at h
   ·exact i9 _ _ g h
   rw[Option.bind_eq_some_iff] at h;obtain⟨r1,h1,h2⟩:=h;injection h2 with h2;subst h2
   show GoodL r1.2.rest
   exact i8 _ _ (good_tk g) h1
  ·intro s x g h;rw[cAtom] at h
   split at h
   ·injection h with h;subst h;exact good_tk g
   split at h
   ·split at h
    ·rw[Option.bind_eq_some_iff] at h;obtain⟨r1,h1,h2⟩:=h;injection h2 with h2;subst h2;exact i10 _ _ (good_tk (good_tk g)) h1
    injection h with h;subst h;exact good_tk g
   split at h
   ·injection h with h;subst h;exact good_tk g
   split at h
   ·injection h with h;subst h;exact good_tk g
   split at h
   ·injection h with h;subst h;exact good_tk g
   split at h
   ·injection h with h;subst h;exact good_tk g
   split at h
   ·rw[Option.bind_eq_some_iff] at h;obtain⟨r1,h1,h2⟩:=h;injection h2 with h2;subst h2;exact good_exp (i1 _ _ (good_tk g) h1) _
   injection h with h;subst h;exact good_fail (good_tk g) _ _
  ·intro s x g h;rw[cArgs] at h
   split at h
   ·injection h with h;subst h;exact good_tk g
   rw[Option.bind_eq_some_iff] at h;obtain⟨r1,h1,h2⟩:=h;exact i11 _ _ _ (i1 _ _ g h1) h2
  intro l s x g h;rw[cMore] at h
  split at h
  ·rw[Option.bind_eq_some_iff] at h;obtain⟨r1,h1,h2⟩:=h;exact i11 _ _ _ (i1 _ _ (good_tk g) h1) h2
  injection h with h;subst h;exact good_exp g _
theorem tk_one {s:St} (h:GoodL s.rest) (hk:s.nx.kind≠4):s.tk.rest.length+1=s.rest.length:=by
 have h4:=List.length_pos_iff.2 h.ne;unfold St.tk;rw[if_neg hk];simp;omega
theorem kind_alls {s:St} (h:GoodL s.rest) (e:s.nx.text ∈ alls):s.nx.kind≠4:=by
 rcases is_kind (w:=s.nx.text) (t:=s.nx) h.head e rfl with k | k<;>omega
theorem kind_is {s:St} (h:GoodL s.rest) {w:Bs} (hw:w ∈ alls) (e:s.is w=true):s.nx.kind≠4:=kind_alls h (by rw[St.is_true e];exact hw)
theorem isSome_bind {α β:Type} {o:Option α} {f:α->Option β} (h:o.isSome=true) (k:∀ a,o=some a->(f a).isSome=true):(o.bind f).isSome=true:=by
 cases o with
 | none=>cases h
 | some a=>exact k a rfl
theorem c_tot (n:Nat):(∀ s,GoodL s.rest->8*s.rest.length+7<=n->(cExpr n s).isSome=true)/\(∀ s,GoodL s.rest->s.nx.kind≠4->8*s.rest.length<=n->(cLet n s).isSome=true)/\(∀ s,GoodL s.rest->s.nx.kind≠4->8*s.rest.length<=n->(cIf n s).isSome=true) /\
  (∀ s,GoodL s.rest->s.nx.kind≠4->8*s.rest.length<=n->(cMatch n s).isSome=true)/\(∀ s,GoodL s.rest->s.nx.kind≠4->8*s.rest.length<=n->(cAssert n s).isSome=true)/\(∀ l s,GoodL s.rest->8*s.rest.length+6<=n->(cBin n l s).isSome=true) /\
  (∀ l e v s,GoodL s.rest->8*s.rest.length+5<=n->(cLoop n l e v s).isSome=true)/\(∀ s,GoodL s.rest->8*s.rest.length+5<=n->(cOne n s).isSome=true)/\(∀ s,GoodL s.rest->8*s.rest.length+4<=n->(cAtom n s).isSome=true)/\(∀ s,GoodL s.rest->8*s.rest.length+8<=n->(cArgs n s).isSome=true)/\(∀ l s,GoodL s.rest->8*s.rest.length+1<=n->(cMore n l s).isSome=true):=by
 induction n with
 | zero =>
  refine⟨fun s g h=>by omega,fun s g hk h=>?_,fun s g hk h=>?_,fun s g hk h=>?_,fun s g hk h=>?_,fun l s g h=>by omega,fun l e v s g h=>by omega,fun s g h=>by omega,fun s g h=>by omega,fun s g h=>by omega,fun l s g h=>by omega⟩<;>(have:=List.length_pos_iff.2 g.ne;omega)
 | succ n ih =>
  obtain⟨i1,i2,i3,i4,i5,i6,i7,i8,i9,i10,i11⟩:=ih;obtain⟨g1,-,-,-,-,g6,g7,g8,g9,g10,g11⟩:=c_good n;obtain⟨l1,-,-,-,-,l6,l7,l8,l9,l10,l11⟩:=c_len n;refine⟨?_,?_,?_,?_,?_,?_,?_,?_,?_,?_,?_⟩
  ·intro s g h;rw[cExpr]
   split
   ·rename_i q;exact i2 _ g (kind_is g (by decide) q) (by omega)
   split
   ·rename_i q;exact i3 _ g (kind_is g (by decide) q) (by omega)
   split
   ·rename_i q;exact i4 _ g (kind_is g (by decide) q) (by omega)
   split
   ·rename_i q;exact i5 _ g (kind_is g (by decide) q) (by omega)
   exact i6 _ _ g (by omega)
  ·intro s g hk h;have e:=tk_one g hk;rw[cLet];have a1:=len_exp s.tk.name wEq;have a2:=len_name s.tk;refine isSome_bind (i1 _ (good_exp (good_name (good_tk g)) _) (by omega)) fun r1 h1=>isSome_bind (i1 _ (good_exp (g1 _ _ (good_exp (good_name (good_tk g)) _) h1) _) ?_) fun r2 h2=>rfl
   have a3:=l1 _ _ h1;have a4:=len_exp r1.2 wIn
   omega
  ·intro s g hk h;have e:=tk_one g hk;rw[cIf];refine isSome_bind (i1 _ (good_tk g) (by omega)) fun r1 h1=>isSome_bind (i1 _ (good_exp (g1 _ _ (good_tk g) h1) _) ?_) fun r2 h2=>isSome_bind (i1 _ (good_exp (g1 _ _ (good_exp (g1 _ _ (good_tk g) h1) _) h2) _) ?_) fun r3 h3=>rfl
   ·have a3:=l1 _ _ h1;have a4:=len_exp r1.2 wThen
    omega
   have a3:=l1 _ _ h1;have a4:=len_exp r1.2 wThen;have a5:=l1 _ _ h2;have a6:=len_exp r2.2 wElse
   omega
  ·intro s g hk h;have e:=tk_one g hk;rw[cMatch];refine isSome_bind (i1 _ (good_tk g) (by omega)) fun r1 h1=>isSome_bind (i1 _ (good_exp (good_exp (good_exp (g1 _ _ (good_tk g) h1) _) _) _) ?_) fun r2 h2=>isSome_bind (i1 _ (good_exp (good_name (good_exp (good_name (good_exp (g1 _ _ (good_exp (good_exp (good_exp (g1 _ _ (good_tk g) h1) _) _) _) h2) _)) _)) _) ?_) fun r3 h3=>rfl
   ·have a3:=l1 _ _ h1;have a4:=len_exp r1.2 wWith;have a5:=len_exp (r1.2.exp wWith) wNil;have a6:=len_exp ((r1.2.exp wWith).exp wNil) wArrow
    omega
   have a3:=l1 _ _ h1;have a4:=len_exp r1.2 wWith;have a5:=len_exp (r1.2.exp wWith) wNil;have a6:=len_exp ((r1.2.exp wWith).exp wNil) wArrow;have a7:=l1 _ _ h2;have b1:=len_exp r2.2 wBar;have b2:=len_name (r2.2.exp wBar);have b3:=len_exp (r2.2.exp wBar).name wCons;have b4:=len_name ((r2.2.exp wBar).name.exp wCons);have b5:=len_exp ((r2.2.exp wBar).name.exp wCons).name wArrow
   omega
  ·intro s g hk h;have e:=tk_one g hk;rw[cAssert];refine isSome_bind (i1 _ (good_tk g) (by omega)) fun r1 h1=>isSome_bind (i1 _ (good_exp (g1 _ _ (good_tk g) h1) _) ?_) fun r2 h2=>rfl
   have a3:=l1 _ _ h1;have a4:=len_exp r1.2 wSemi
   omega
  ·intro l s g h;rw[cBin];refine isSome_bind (i8 _ g (by omega)) fun r1 h1=>i7 _ _ _ _ (g8 _ _ g h1) ?_
   have:=l8 _ _ h1
   omega
  ·intro l e v s g h;rw[cLoop]
   cases ho:bopOf s.nx.text with
   | none=>rfl
   | some op =>
    simp only
    split
    ·rfl
    have e:=tk_one g (kind_alls g (by have:=bop_mem ho;rw[<-this.2];exact List.mem_append_right _ (bop_tab op this.1).2.2.2.2.1));refine isSome_bind (i6 _ _ (good_tk g) (by omega)) fun r1 h1=>i7 _ _ _ _ (g6 _ _ _ (good_tk g) h1) ?_
    have:=l6 _ _ _ h1
    omega
  ·intro s g h;rw[cOne]
   cases ho:unOf s.nx.text with
   | none=>exact i9 _ g (by omega)
   | some k =>
    have e:=tk_one g (kind_alls g (un_alls ho).1);exact isSome_bind (i8 _ (good_tk g) (by omega)) fun r1 h1=>rfl
  ·intro s g h;rw[cAtom]
   split
   ·rfl
   split
   ·rename_i hk1 hk0
    have e:=tk_one g (by omega)
    split
    ·rename_i ho
     have e2:=tk_one (good_tk g) (kind_is (good_tk g) (by decide) ho);exact isSome_bind (i10 _ (good_tk (good_tk g)) (by omega)) fun r1 h1=>rfl
    rfl
   split
   ·rfl
   split
   ·rfl
   split
   ·rfl
   split
   ·rfl
   split
   ·rename_i ho
    have e:=tk_one g (kind_is g (by decide) ho);exact isSome_bind (i1 _ (good_tk g) (by omega)) fun r1 h1=>rfl
   rfl
  ·intro s g h;rw[cArgs]
   split
   ·rfl
   refine isSome_bind (i1 _ g (by omega)) fun r1 h1=>i11 _ _ (g1 _ _ g h1) ?_
   have:=l1 _ _ h1
   omega
  intro l s g h;rw[cMore]
  split
  ·rename_i ho
   have e:=tk_one g (kind_is g (by decide) ho);refine isSome_bind (i1 _ (good_tk g) (by omega)) fun r1 h1=>i11 _ _ (g1 _ _ (good_tk g) h1) ?_
   have:=l1 _ _ h1
   omega
  rfl
theorem uds_app (a b:List U):uds (a++b)=max (uds a) (uds b):=by
 induction a with
 | nil=>simp[uds]
 | cons t ts ih=>simp[uds,ih,Nat.max_assoc]
theorem uds_take (ks:List U) (i:Nat) (h:i<ks.length):uds (ks.take (i+1))=max (uds (ks.take i)) (ud ks[i]):=by
 rw[List.take_succ_eq_append_getElem h,uds_app];simp[uds]
theorem uds_mem {ks:List U} {u:U} (h:u ∈ ks):ud u<=uds ks:=by
 induction ks with
 | nil=>simp at h
 | cons t ts ih =>
  rw[uds];rcases List.mem_cons.1 h with rfl | h
  ·omega
  have:=ih h;omega
theorem uds_take_le (ks:List U) (j:Nat):uds (ks.take j)<=uds ks:=by
 have:=uds_app (ks.take j) (ks.drop j);rw[List.take_append_drop] at this;omega
def Bd (n:Nat):Nat:=(n+1)*(n+1)
theorem Bd_succ (n:Nat):Bd (n+1)=Bd n+(2*n+3):=by unfold Bd;simp only[Nat.add_mul,Nat.mul_add];omega
theorem c_deep (n:Nat):(∀ s x,cExpr n s=some x->ud x.1<=Bd n)/\(∀ s x,cLet n s=some x->ud x.1<=Bd n)/\(∀ s x,cIf n s=some x->ud x.1<=Bd n)/\(∀ s x,cMatch n s=some x->ud x.1<=Bd n)/\(∀ s x,cAssert n s=some x->ud x.1<=Bd n) /\
  (∀ l s x,cBin n l s=some x->ud x.1<=Bd n)/\(∀ l e v s x,cLoop n l e v s=some x->ud x.1<=max (ud e) (Bd n)+n)/\(∀ s x,cOne n s=some x->ud x.1<=Bd n)/\(∀ s x,cAtom n s=some x->ud x.1<=Bd n)/\(∀ s x,cArgs n s=some x->uds x.1<=Bd n)/\(∀ l s x,cMore n l s=some x->uds x.1<=max (uds l) (Bd n)):=by
 induction n with
 | zero=>refine⟨?_,?_,?_,?_,?_,?_,?_,?_,?_,?_,?_⟩<;>intros<;>simp_all [cExpr,cLet,cIf,cMatch,cAssert,cBin,cLoop,cOne,cAtom,cArgs,cMore]
 | succ n ih =>
  obtain⟨i1,i2,i3,i4,i5,i6,i7,i8,i9,i10,i11⟩:=ih;have hB:=Bd_succ n;refine⟨?_,?_,?_,?_,?_,?_,?_,?_,?_,?_,?_⟩
  ·intro s x h;rw[cExpr] at h
   split at h;have:=i2 _ _ h;omega
   split at h;have:=i3 _ _ h;omega
   split at h;have:=i4 _ _ h;omega
   split at h;have:=i5 _ _ h;omega
   have:=i6 _ _ _ h;omega
  ·intro s x h;rw[cLet] at h;simp only[Option.bind_eq_some_iff] at h;obtain⟨r1,h1,r2,h2,h3⟩:=h;injection h3 with h3;subst h3;have:=i1 _ _ h1;have:=i1 _ _ h2;simp only[ud,uds];omega
  ·intro s x h;rw[cIf] at h;simp only[Option.bind_eq_some_iff] at h;obtain⟨r1,h1,r2,h2,r3,h3,h4⟩:=h;injection h4 with h4;subst h4;have:=i1 _ _ h1;have:=i1 _ _ h2;have:=i1 _ _ h3;simp only[prt,ud,uds];omega
  ·intro s x h;rw[cMatch] at h;simp only[Option.bind_eq_some_iff] at h;obtain⟨r1,h1,r2,h2,r3,h3,h4⟩:=h;injection h4 with h4;subst h4;have:=i1 _ _ h1;have:=i1 _ _ h2;have:=i1 _ _ h3;simp only[ud,uds];omega
  ·intro s x h;rw[cAssert] at h;simp only[Option.bind_eq_some_iff] at h;obtain⟨r1,h1,r2,h2,h3⟩:=h;injection h3 with h3;subst h3;have:=i1 _ _ h1;have:=i1 _ _ h2;simp only[prt,ud,uds];omega
  ·intro l s x h;rw[cBin,Option.bind_eq_some_iff] at h;obtain⟨r1,h1,h2⟩:=h;have:=i8 _ _ h1;have:=i7 _ _ _ _ _ h2
   omega
  ·intro l e v s x h;rw[cLoop] at h
   split at h
   ·injection h with h;subst h;simp only;omega
   split at h
   ·injection h with h;subst h;simp only;omega
   rw[Option.bind_eq_some_iff] at h;obtain⟨r1,h1,h2⟩:=h;have a1:=i6 _ _ _ h1;have a2:=i7 _ _ _ _ _ h2;simp only[prt,ud,uds] at a2;omega
  ·intro s x h;rw[cOne] at h
   split at h
   ·have:=i9 _ _ h;omega
   rw[Option.bind_eq_some_iff] at h;obtain⟨r1,h1,h2⟩:=h;injection h2 with h2;subst h2;have:=i8 _ _ h1;simp only[prt,ud,uds];omega
  ·intro s x h;rw[cAtom] at h
   split at h
   ·injection h with h;subst h;simp only[ud,uds];omega
   split at h
   ·split at h
    ·rw[Option.bind_eq_some_iff] at h;obtain⟨r1,h1,h2⟩:=h;injection h2 with h2;subst h2;have:=i10 _ _ h1;simp only[nmd,ud];omega
    injection h with h;subst h;simp only[nmd,ud,uds];omega
   split at h
   ·injection h with h;subst h;simp only[nmd,ud,uds];omega
   split at h
   ·injection h with h;subst h;simp only[prt,ud,uds];omega
   split at h
   ·injection h with h;subst h;simp only[prt,ud,uds];omega
   split at h
   ·injection h with h;subst h;simp only[prt,ud,uds];omega
   split at h
   ·rw[Option.bind_eq_some_iff] at h;obtain⟨r1,h1,h2⟩:=h;injection h2 with h2;subst h2;have:=i1 _ _ h1;simp only;omega
   injection h with h;subst h;simp only[u0,ud,uds];omega
  ·intro s x h;rw[cArgs] at h
   split at h
   ·injection h with h;subst h;simp only[uds];omega
   rw[Option.bind_eq_some_iff] at h;obtain⟨r1,h1,h2⟩:=h;have a1:=i1 _ _ h1;have a2:=i11 _ _ _ h2;simp only[uds] at a2;omega
  intro l s x h;rw[cMore] at h
  split at h
  ·rw[Option.bind_eq_some_iff] at h;obtain⟨r1,h1,h2⟩:=h;have a1:=i1 _ _ h1;have a2:=i11 _ _ _ h2;rw[uds_app] at a2;simp only[uds] at a2;omega
  injection h with h;subst h;simp only;omega
theorem isD_num {c:UInt8} (h:isD c=true):48<=c.toNat/\c.toNat<=57:=by
 unfold isD at h;simp only[Bool.and_eq_true,decide_eq_true_eq,UInt8.le_iff_toNat_le] at h;exact h
theorem wds_head:∀ w ∈ wds,∃ c m,w=c::m/\isL c=true:=by
 have:∀ w ∈ wds,(match w with | []=>false | c::_=>isL c)=true:=by decide
 intro w hw;have h:=this w hw
 match w,h with
 | c::m,h=>exact⟨c,m,rfl,h⟩
theorem sigs_head:∀ w ∈ sigs,∃ c m,w=c::m/\isL c=false/\isD c=false:=by
 have:∀ w ∈ sigs,(match w with | []=>false | c::_=>!isL c && !isD c)=true:=by decide
 intro w hw;have h:=this w hw
 match w,h with
 | c::m,h=>simp only[Bool.and_eq_true,Bool.not_eq_true'] at h;exact⟨c,m,rfl,h.1,h.2⟩
theorem isL_isD {c:UInt8} (h:isL c=true):isD c=false:=by
 cases hd:isD c with
 | false=>rfl
 | true =>
  have:=isD_num hd;unfold isL at h;simp only[Bool.or_eq_true,Bool.and_eq_true,decide_eq_true_eq,beq_iff_eq,UInt8.le_iff_toNat_le] at h;have e95:(95:UInt8).toNat=95:=rfl;rcases h with (⟨h1,h2⟩ | ⟨h1,h2⟩) | h1
  ·have:(97:UInt8).toNat=97:=rfl;omega
  ·have:(65:UInt8).toNat=65:=rfl;omega
  subst h1;omega
theorem pair_sigs {a b:UInt8} (h:pairB a b=true):[a,b] ∈ sigs:=by
 simp only[pairB,Bool.or_eq_true,Bool.and_eq_true,beq_iff_eq] at h;rcases h with ((((((⟨rfl,rfl⟩ | ⟨rfl,rfl⟩) | ⟨rfl,rfl⟩) | ⟨rfl,rfl⟩) | ⟨rfl,rfl⟩) | ⟨rfl,rfl⟩) | ⟨rfl,rfl⟩) | ⟨rfl,rfl⟩<;>decide
theorem sgl_sigs {a:UInt8} (h:sglB a=true):[a] ∈ sigs:=by
 simp only[sglB,Bool.or_eq_true,beq_iff_eq] at h;rcases h with ((((((((((((((rfl | rfl) | rfl) | rfl) | rfl) | rfl) | rfl) | rfl) | rfl) | rfl) | rfl) | rfl) | rfl) | rfl) | rfl) | rfl<;>decide
theorem tok_ok {l:Bs} {k n:Nat} (hl:l ≠ []) (h:meas l=.ok k n) (ln cl:Nat):TokOk ⟨k,l.take n,ln,cl⟩/\k<4:=by
 match l,hl with
 | a::r,_ =>
  rw[meas_cons] at h
  by_cases ha:isL a=true
  ·rw[if_pos ha] at h
   split at h
   ·cases h
   have e:spn isLD (a::r)=spn isLD r+1:=by rw[spn,if_pos (isL_LD ha)]
   split at h
   ·rename_i hw
    injection h with h1 h2;subst h1 h2;have hm:(a::r).take (spn isLD (a::r)) ∈ wds:=by simpa [isW] using hw
    exact⟨⟨(show (_:Nat)<=4 by simp),fun h=>(nomatch h),fun h=>(nomatch h),fun h=>(nomatch h),fun _=>hm,fun h=>(nomatch h)⟩,by decide⟩
   rename_i hw
   injection h with h1 h2;subst h1 h2;have hm:(a::r).take (spn isLD (a::r)) ∉ wds:=by simpa [isW] using hw
   have hc:(a::r).take (spn isLD (a::r))=a::r.take (spn isLD r):=by rw[e];rfl
   refine⟨⟨(show (_:Nat)<=4 by simp),fun _=>⟨fun hx=>?_,by rw[hc];simp⟩,fun h=>(nomatch h),fun h=>(nomatch h),fun h=>(nomatch h),fun h=>(nomatch h)⟩,by decide⟩;rcases List.mem_append.1 hx with hx | hx
   ·exact hm hx
   obtain⟨c,m,e1,e2,-⟩:=sigs_head _ hx;simp only at e1;rw[hc] at e1;injection e1 with e1;subst e1;rw[ha] at e2;cases e2
  rw[if_neg ha] at h
  by_cases hd:isD a=true
  ·rw[if_pos hd] at h;have e:spn isD (a::r)=spn isD r+1:=by rw[spn,if_pos hd]
   split at h
   ·cases h
   rename_i h0
   split at h
   ·cases h
   rename_i h3
   injection h with h1 h2;subst h1 h2;have hc:(a::r).take (spn isD (a::r))=a::r.take (spn isD r):=by rw[e];rfl
   have hlen:((a::r).take (spn isD (a::r))).length=spn isD (a::r):=by rw[List.length_take];have:=spn_le isD (a::r);omega
   refine⟨⟨(show (_:Nat)<=4 by simp),fun h=>(nomatch h),fun _=>⟨fun hx=>?_,by rw[hc];simp,by rw[hlen];omega,fun hlt=>?_,fun c hc'=>isD_num (spn_all (a::r) c hc')⟩,fun h=>(nomatch h),fun h=>(nomatch h),fun h=>(nomatch h)⟩,by decide⟩
   ·rcases List.mem_append.1 hx with hx | hx
    ·obtain⟨c,m,e1,e2⟩:=wds_head _ hx;simp only at e1;rw[hc] at e1;injection e1 with e1;subst e1;exact ha e2
    obtain⟨c,m,e1,-,e2⟩:=sigs_head _ hx;simp only at e1;rw[hc] at e1;injection e1 with e1;subst e1;rw[hd] at e2;cases e2
   rw[hlen] at hlt;rw[hc]
   show (a::r.take (spn isD r)).getD 0 48≠48
   intro h48;exact h0 ⟨hlt,h48⟩
  rw[if_neg hd] at h
  split at h
  ·rename_i hs
   injection h with h1 h2;subst h1 h2
   have hm:(a::r).take (sgn (a::r)) ∈ sigs:=by
    match r,hs with
    | [],hs =>
     have e2:sglB a=true:=by
      cases hb:sglB a with
      | true=>rfl
      | false=>simp[sgn,hb] at hs
     have e1:sgn [a]=1:=by simp[sgn,e2]
     rw[e1];exact sgl_sigs e2
    | b::r',hs =>
     by_cases hp:pairB a b=true
     ·have e1:sgn (a::b::r')=2:=by simp[sgn,hp]
      rw[e1];exact pair_sigs hp
     have e2:sglB a=true:=by
      cases hb:sglB a with
      | true=>rfl
      | false=>simp[sgn,hb,hp] at hs
     have e1:sgn (a::b::r')=1:=by simp[sgn,e2,hp]
     rw[e1];exact sgl_sigs e2
   exact⟨⟨(show (_:Nat)<=4 by simp),fun h=>(nomatch h),fun h=>(nomatch h),fun _=>hm,fun h=>(nomatch h),fun h=>(nomatch h)⟩,by decide⟩
  cases h
theorem lex_good (s:Bs) (p:Nat × Nat) (h0:(lexS s p).2=0):GoodL (lexS s p).1:=by
 refine lex_ind (C:=fun _ _ ts=>GoodL ts) ?_ ?_ s p h0
 ·intro s p h;exact⟨rfl,⟨Nat.le_refl _,fun h=>(nomatch h),fun h=>(nomatch h),fun h=>(nomatch h),fun h=>(nomatch h),fun _=>rfl⟩⟩
 intro s p k n ts h hm ih he;have ht:=tok_ok h hm (adv p (s.take (gapL false s))).1 (adv p (s.take (gapL false s))).2
 match ts,ih with
 | u::us,ih=>exact⟨ht.2,ht.1,ih⟩
end Go.Proofs.YtkocdbgmckdcpaaGreatDoor
namespace Go.Proofs.YtkocdbgmckdcpaaGreatDoor
open Go.RowKit
set_option maxRecDepth 100000
set_option linter.unusedVariables false
theorem max_val7 (a b:Nat):Value.int .i64 (max (a:Int) b)=.int .i64 ((max a b:Nat):Int):=by congr 1;omega
theorem depth_p (d:Nat) (hd:d<=4000000000000000000) (x:X) (u:U) (w:World) (S:Nat->Prop) (h:Um w S x u) (ho:ud u<=d) :
  Calls Tryz.prog 59 #[xv x] w fun e w'=>e=.returned (.int .i64 (ud u:Nat))/\Below w.heap.size w w':=by
 induction d generalizing x u w with
 | zero=>obtain⟨k,nm,ot,z,ln,cl,ks⟩:=u;rw[ud] at ho;omega
 | succ d ih =>
  obtain⟨k,nm,ot,z,ln,cl,ks⟩:=u;rw[Um] at h;obtain⟨⟨e1,e2,e3,e4,e5,e6⟩,⟨h2,h3⟩,⟨h4,h5,h6⟩,h7⟩:=h;obtain⟨xk,xnm,xot,xb,xao,xn,xc,xko,xkn,xkc,xln,xcl⟩:=x;simp only at e1 e2 e3 e4 e5 e6 h2 h3 h4 h5 h6 h7;have HK:=h_ (fun j (hj:j<ks.length)=>ums_get 0 j h7 hj);clear h7;subst e1 e2 e3 e4 e5 e6;subst h4;rw[ud] at ho;have hkl:ks.length<=9223372036854775807:=Nat.le_trans h5.1 h5.2;clear h5;have IH:=h_ ih;have hdd:uds ks<=d:=by omega
  clear h2 h3 h6 ih ho;simp only[xv];go_enter Tryz.func59,Tryz.ntmps59
  go_wp2_with fail
  go_loopw [3,9] (fun n i wr=>∃ j:Nat,n=.int .i64 ((uds (ks.take j):Nat):Int)/\i=.int .i64 (j:Nat)/\j<=ks.length/\Below w.heap.size w wr) (fun _ i _=>ks.length - (intOf i).toNat)
  case atStart=>exact⟨0,rfl,rfl,Nat.zero_le _,(Below.refl _ _).alloc (Nat.le_refl _) _⟩
  case round =>
   obtain⟨j,rfl,rfl,hj,hb⟩:=hrel
   by_cases hlt:j<ks.length
   ·obtain⟨y,hA,hT⟩:=HK.out j hlt;rw[Nat.zero_add] at hA;have hT':=hT.below hb;obtain⟨a,rfl,hc⟩:=hA.keep fun a ha=>hb.block _ (hA.lt a ha)
    obtain⟨c0,c1,c2,c3,c4,c5,c6,c7⟩:=cells8 hc;have hbd:=uds_take_le ks j;have hbe:=uds_mem (List.getElem_mem hlt);have HB:=h_ hb;have HT:=h_ hT';clear hc hA hT hT' hb;go_wp2_with fail
    refine (IH.out (by omega) y _ _ (HT.out.below ((Below.refl _ _).alloc (Nat.le_refl _) _)) (by omega)).mono ?_;rintro e w2 ⟨rfl,hb2⟩;have HB2:=h_ hb2;clear hb2 c0 c1 c2 c3 c4 c5 c6 c7;go_wp2_with fail
    go_roundw
    case rel=>exact⟨j+1,by rw[uds_take ks j hlt];exact max_val7 _ _,by go_num,by omega,(HB.out.alloc HB.out.size _).trans (HB2.out.mono (by have:=HB.out.size;simp;omega))⟩
    case measure=>simp[intOf];omega
   have e:j=ks.length:=by omega
   subst e;have hbd:=uds_take_le ks ks.length;have HB:=h_ hb;clear hb;go_wp2_with fail
   go_ret
   refine⟨?_,HB.out⟩;rw[List.take_length,ud,Nat.add_comm];rfl
theorem complete_p (n:Nat) (hn:n<=1000000) (g:Nat) (s:St) (r:U × St) (w:World) (hps:PS w g s) (hop:GOps w g) (hc:cAll n s=some r) :
  Calls Tryz.prog 31 #[.pointer (some ⟨g,0,none⟩)] w (TreePost w g r.1 r.2):=by
 have E:=h_ (all_p n).ex;have HP:=h_ hps;have HOP:=h_ hop;clear hps hop;unfold cAll at hc;rw[Option.bind_eq_some_iff] at hc;obtain⟨r1,h1,hr⟩:=hc;injection hr with hr;subst hr;have hdp:=(c_deep n).1 _ _ h1;have hBn:Bd n<=4000000000000000000:=by unfold Bd;have:=Nat.mul_le_mul (show n+1<=1000001 by omega) (show n+1<=1000001 by omega);omega
 have h1:=h_ h1
 by_cases hdeep:60<ud r1.1
 ·have HIF:Hid ((if 60<ud r1.1 then r1.2.fail s.nx 2 else r1.2)=r1.2.fail s.nx 2):=h_ (if_pos hdeep);have hgt:decide (60<ud r1.1)=true:=by simpa using hdeep
  rw[HIF.out];go_enter Tryz.func31,Tryz.ntmps31
  go_upto_region 1 with fail
  obtain⟨w1,kr,hw,hkk,hb,-,HBr⟩:=newb w #[.int .i64 0,.string ⟨#[]⟩,.string ⟨#[]⟩,.bool false,.slice none 0 0,.slice none 0 0,.int .i64 0,.int .i64 0] 46;have hgr:g<kr:=by rw[hkk];exact HP.out.lt
  have her:w.heap.size<=kr:=by omega
  rw[hw,<-hkk];replace HP:=h_ (HP.out.below hb);replace HOP:=h_ (HOP.out.below hb);have HD:=h_ (below_grown hb (some g));clear hw hb hkk;go_wp2_with fail
  refine (next_p g s w1 HP.out).mono ?_;rintro e w2 ⟨rfl,hb⟩;replace HBr:=kB hb HBr;replace HP:=h_ (HP.out.below hb);replace HOP:=h_ (HOP.out.below hb);replace HD:=dB HD hb;have hsz2:=HD.out.size;clear hb;simp only[tokV];obtain⟨t,hnx⟩:∃ t,t=St.nx s:=⟨_,rfl⟩
  rw[<-hnx];have HNt:=h_ hnx;clear hnx;go_upto_region 2 with fail
  obtain⟨w3,kt,hw,hkk,hb,-,HBt⟩:=newb w2 #[.int .i64 (t.kind:Nat),.string ⟨t.text.toArray⟩,.int .i64 (t.line:Nat),.int .i64 (t.col:Nat)] 97;have hgt:g<kt:=by rw[hkk];exact HP.out.lt
  have het:w.heap.size<=kt:=by omega
  have hr_t:=lk_ hkk HBr;rw[hw,<-hkk];replace HBr:=kB hb HBr;replace HP:=h_ (HP.out.below hb);replace HOP:=h_ (HOP.out.below hb);replace HD:=dB HD hb;have hsz3:=HD.out.size;clear hw hb hkk;go_wp2_with fail
  obtain⟨Na,hN⟩:∃ k,k=w3.heap.size:=⟨_,rfl⟩
  have hr_Na:kr<Na:=by rw[hN];exact lt_of_block HBr.out
  have ht_Na:kt<Na:=by rw[hN];exact lt_of_block HBt.out
  have hg_Na:g<Na:=by rw[hN];exact HP.out.lt
  have he_Na:w.heap.size<=Na:=by omega
  refine (E.out g _ _ w3 HP.out HOP.out h1.out).mono ?_;rintro e w4 ⟨xa,rfl,hu,hp,hg⟩;replace HBr:=kG hg HBr;replace HBt:=kG hg HBt;replace HOP:=h_ (HOP.out.grown hg (by omega));replace HP:=h_ hp;replace HD:=dG HD hg;have hsz4:=HD.out.size;rw[<-hN] at hu;have HUa:=h_ (hu.mono (S':=fun b=>Na<=b/\True) (fun b h=>⟨h,trivial⟩));clear hN hu;clear hp hg;obtain⟨ak,anm,aot,ab,aao,an,aq,ako,akn,akc,aln,acl⟩:=xa;simp only[xv];go_upto_region 3 with fail
  obtain⟨w5,ka,hw,hkk,hb,-,HBa⟩:=newb w4 #[.int .i64 ak,.string anm,.string aot,.bool ab,.slice aao an aq,.slice ako akn akc,.int .i64 aln,.int .i64 acl] 46;have hga:g<ka:=by rw[hkk];exact HP.out.lt
  have hea:w.heap.size<=ka:=by omega
  have hr_a:=lk_ hkk HBr;have ht_a:=lk_ hkk HBt;replace HUa:=h_ (HUa.out.offk hkk);rw[hw,<-hkk];replace HBr:=kB hb HBr;replace HBt:=kB hb HBt;replace HP:=h_ (HP.out.below hb);replace HUa:=h_ (HUa.out.below hb);replace HOP:=h_ (HOP.out.below hb);replace HD:=dB HD hb;clear hw hb hkk;obtain⟨ca0,ca1,ca2,ca3,ca4,ca5,ca6,ca7⟩:=cl8 HBa.out;obtain⟨ct0,ct1,ct2,ct3⟩:=cl4 HBt.out;go_wp2_with fail
  refine (depth_p (Bd n) hBn ⟨ak,anm,aot,ab,aao,an,aq,ako,akn,akc,aln,acl⟩ r1.1 w5 _ HUa.out hdp).mono ?_;rintro e w6 ⟨rfl,hb⟩;clear ca0 ca1 ca2 ca3 ca4 ca5 ca6 ca7 ct0 ct1 ct2 ct3;replace HBr:=kB hb HBr;replace HBt:=kB hb HBt;replace HBa:=kB hb HBa;replace HP:=h_ (HP.out.below hb);replace HUa:=h_ (HUa.out.below hb);replace HOP:=h_ (HOP.out.below hb);replace HD:=dB HD hb;clear hb;obtain⟨ct0,ct1,ct2,ct3⟩:=cl4 HBt.out;go_wp2_with fail
  have hp0:=fail_p g r1.2 t 2 w6 HP.out;simp only[tokV] at hp0;refine (hp0).mono ?_;rintro e w7 ⟨⟨v,rfl⟩,hp,hg⟩;clear ct0 ct1 ct2 ct3;replace HBr:=kG hg HBr;replace HBt:=kG hg HBt;replace HBa:=kG hg HBa;replace HUa:=h_ (HUa.out.grown hg (fun h=>by omega));replace HOP:=h_ (HOP.out.grown hg (by omega));replace HP:=h_ hp;replace HD:=dG HD hg;clear hp hg;clear hp0;obtain⟨ca0,ca1,ca2,ca3,ca4,ca5,ca6,ca7⟩:=cl8 HBa.out;obtain⟨z0,z1,z2,z3,z4,z5,z6,z7⟩:=cl8 HBr.out;obtain⟨fz0,fz1,fz2,fz3,fz4,fz5,fz6,fz7⟩:=fr8 HBr.out;go_wp2_with fail
  refine bodyPost_ret (v:=.agg #[.int .i64 ak,.string anm,.string aot,.bool ab,.slice aao an aq,.slice ako akn akc,.int .i64 aln,.int .i64 acl]) (by simp[results,Tryz.results31,go_sem,z0,z1,z2,z3,z4,z5,z6,z7]) rfl ?_;obtain⟨wz,hw⟩:∃ x,x=st8 w7 kr (.int .i64 ak) (.string anm) (.string aot) (.bool ab) (.slice aao an aq) (.slice ako akn akc) (.int .i64 aln) (.int .i64 acl):=⟨_,rfl⟩
  have hg:w7.grownBy wz (some kr):=by rw[hw];exact st8_grown _ _ _ _ _ _ _ _ _ _
  change TreePost w g _ _ _ (st8 w7 kr (.int .i64 ak) (.string anm) (.string aot) (.bool ab) (.slice aao an aq) (.slice ako akn akc) (.int .i64 aln) (.int .i64 acl));rw[<-hw];clear ca0 ca1 ca2 ca3 ca4 ca5 ca6 ca7 z0 fz0 z1 fz1 z2 fz2 z3 fz3 z4 fz4 z5 fz5 z6 fz6 z7 fz7;replace HP:=h_ (HP.out.store HBr.out (by decide) (by omega) hg);replace HBt:=kG hg HBt;replace HBa:=kG hg HBa;replace HUa:=h_ (HUa.out.grown hg (fun h=>by omega));replace HOP:=h_ (HOP.out.grown hg (by omega));replace HD:=dN HD hg (by omega);have hsz7:=HD.out.size;clear hw hg;exact⟨⟨ak,anm,aot,ab,aao,an,aq,ako,akn,akc,aln,acl⟩,rfl,(HUa.out.mono (fun b h=>by have h:(Na<=b/\True)/\b≠ka:=h;show _<=b;omega)),by rw[<-HNt.out];exact HP.out,HD.out⟩
 have HIF:Hid ((if 60<ud r1.1 then r1.2.fail s.nx 2 else r1.2)=r1.2):=h_ (if_neg hdeep);have hgt:decide (60<ud r1.1)=false:=by simpa using hdeep
 rw[HIF.out];go_enter Tryz.func31,Tryz.ntmps31
 go_upto_region 1 with fail
 obtain⟨w1,kr,hw,hkk,hb,-,HBr⟩:=newb w #[.int .i64 0,.string ⟨#[]⟩,.string ⟨#[]⟩,.bool false,.slice none 0 0,.slice none 0 0,.int .i64 0,.int .i64 0] 46;have hgr:g<kr:=by rw[hkk];exact HP.out.lt
 have her:w.heap.size<=kr:=by omega
 rw[hw,<-hkk];replace HP:=h_ (HP.out.below hb);replace HOP:=h_ (HOP.out.below hb);have HD:=h_ (below_grown hb (some g));clear hw hb hkk;go_wp2_with fail
 refine (next_p g s w1 HP.out).mono ?_;rintro e w2 ⟨rfl,hb⟩;replace HBr:=kB hb HBr;replace HP:=h_ (HP.out.below hb);replace HOP:=h_ (HOP.out.below hb);replace HD:=dB HD hb;have hsz2:=HD.out.size;clear hb;simp only[tokV];obtain⟨t,hnx⟩:∃ t,t=St.nx s:=⟨_,rfl⟩
 rw[<-hnx];have HNt:=h_ hnx;clear hnx;go_upto_region 2 with fail
 obtain⟨w3,kt,hw,hkk,hb,-,HBt⟩:=newb w2 #[.int .i64 (t.kind:Nat),.string ⟨t.text.toArray⟩,.int .i64 (t.line:Nat),.int .i64 (t.col:Nat)] 97;have hgt:g<kt:=by rw[hkk];exact HP.out.lt
 have het:w.heap.size<=kt:=by omega
 have hr_t:=lk_ hkk HBr;rw[hw,<-hkk];replace HBr:=kB hb HBr;replace HP:=h_ (HP.out.below hb);replace HOP:=h_ (HOP.out.below hb);replace HD:=dB HD hb;have hsz3:=HD.out.size;clear hw hb hkk;go_wp2_with fail
 obtain⟨Na,hN⟩:∃ k,k=w3.heap.size:=⟨_,rfl⟩
 have hr_Na:kr<Na:=by rw[hN];exact lt_of_block HBr.out
 have ht_Na:kt<Na:=by rw[hN];exact lt_of_block HBt.out
 have hg_Na:g<Na:=by rw[hN];exact HP.out.lt
 have he_Na:w.heap.size<=Na:=by omega
 refine (E.out g _ _ w3 HP.out HOP.out h1.out).mono ?_;rintro e w4 ⟨xa,rfl,hu,hp,hg⟩;replace HBr:=kG hg HBr;replace HBt:=kG hg HBt;replace HOP:=h_ (HOP.out.grown hg (by omega));replace HP:=h_ hp;replace HD:=dG HD hg;have hsz4:=HD.out.size;rw[<-hN] at hu;have HUa:=h_ (hu.mono (S':=fun b=>Na<=b/\True) (fun b h=>⟨h,trivial⟩));clear hN hu;clear hp hg;obtain⟨ak,anm,aot,ab,aao,an,aq,ako,akn,akc,aln,acl⟩:=xa;simp only[xv];go_upto_region 3 with fail
 obtain⟨w5,ka,hw,hkk,hb,-,HBa⟩:=newb w4 #[.int .i64 ak,.string anm,.string aot,.bool ab,.slice aao an aq,.slice ako akn akc,.int .i64 aln,.int .i64 acl] 46;have hga:g<ka:=by rw[hkk];exact HP.out.lt
 have hea:w.heap.size<=ka:=by omega
 have hr_a:=lk_ hkk HBr;have ht_a:=lk_ hkk HBt;replace HUa:=h_ (HUa.out.offk hkk);rw[hw,<-hkk];replace HBr:=kB hb HBr;replace HBt:=kB hb HBt;replace HP:=h_ (HP.out.below hb);replace HUa:=h_ (HUa.out.below hb);replace HOP:=h_ (HOP.out.below hb);replace HD:=dB HD hb;clear hw hb hkk;obtain⟨ca0,ca1,ca2,ca3,ca4,ca5,ca6,ca7⟩:=cl8 HBa.out;obtain⟨ct0,ct1,ct2,ct3⟩:=cl4 HBt.out;go_wp2_with fail
 refine (depth_p (Bd n) hBn ⟨ak,anm,aot,ab,aao,an,aq,ako,akn,akc,aln,acl⟩ r1.1 w5 _ HUa.out hdp).mono ?_;rintro e w6 ⟨rfl,hb⟩;clear ca0 ca1 ca2 ca3 ca4 ca5 ca6 ca7 ct0 ct1 ct2 ct3;replace HBr:=kB hb HBr;replace HBt:=kB hb HBt;replace HBa:=kB hb HBa;replace HP:=h_ (HP.out.below hb);replace HUa:=h_ (HUa.out.below hb);replace HOP:=h_ (HOP.out.below hb);replace HD:=dB HD hb;clear hb;obtain⟨ca0,ca1,ca2,ca3,ca4,ca5,ca6,ca7⟩:=cl8 HBa.out;obtain⟨z0,z1,z2,z3,z4,z5,z6,z7⟩:=cl8 HBr.out;obtain⟨fz0,fz1,fz2,fz3,fz4,fz5,fz6,fz7⟩:=fr8 HBr.out;go_wp2_with fail
 refine bodyPost_ret (v:=.agg #[.int .i64 ak,.string anm,.string aot,.bool ab,.slice aao an aq,.slice ako akn akc,.int .i64 aln,.int .i64 acl]) (by simp[results,Tryz.results31,go_sem,z0,z1,z2,z3,z4,z5,z6,z7]) rfl ?_;obtain⟨wz,hw⟩:∃ x,x=st8 w6 kr (.int .i64 ak) (.string anm) (.string aot) (.bool ab) (.slice aao an aq) (.slice ako akn akc) (.int .i64 aln) (.int .i64 acl):=⟨_,rfl⟩
 have hg:w6.grownBy wz (some kr):=by rw[hw];exact st8_grown _ _ _ _ _ _ _ _ _ _
 change TreePost w g _ _ _ (st8 w6 kr (.int .i64 ak) (.string anm) (.string aot) (.bool ab) (.slice aao an aq) (.slice ako akn akc) (.int .i64 aln) (.int .i64 acl));rw[<-hw];clear ca0 ca1 ca2 ca3 ca4 ca5 ca6 ca7 z0 fz0 z1 fz1 z2 fz2 z3 fz3 z4 fz4 z5 fz5 z6 fz6 z7 fz7;replace HP:=h_ (HP.out.store HBr.out (by decide) (by omega) hg);replace HBt:=kG hg HBt;replace HBa:=kG hg HBa;replace HUa:=h_ (HUa.out.grown hg (fun h=>by omega));replace HOP:=h_ (HOP.out.grown hg (by omega));replace HD:=dN HD hg (by omega);have hsz6:=HD.out.size;clear hw hg;exact⟨⟨ak,anm,aot,ab,aao,an,aq,ako,akn,akc,aln,acl⟩,rfl,(HUa.out.mono (fun b h=>by have h:(Na<=b/\True)/\b≠ka:=h;show _<=b;omega)),HP.out,HD.out⟩
theorem toks_of {w:World} {b:Nat}:∀ {ts:List Tok} {o:Nat},(∀ k (hk:k<ts.length),w.cell? ⟨b,o+k*4,none⟩=some (.int .i64 (ts[k].kind:Nat))/\w.cell? ⟨b,o+(k*4+1),none⟩=some (.string ⟨ts[k].text.toArray⟩)/\w.cell? ⟨b,o+(k*4+2),none⟩=some (.int .i64 (ts[k].line:Nat))/\w.cell? ⟨b,o+(k*4+3),none⟩=some (.int .i64 (ts[k].col:Nat)))->Toks w b o ts
 | [],_,_=>trivial
 | t::ts,o,h=>by
  refine⟨by have:=h 0 (by simp);simp only[List.getElem_cons_zero,Nat.zero_mul,Nat.zero_add,Nat.add_zero] at this;exact this,toks_of fun k hk=>?_⟩;have:=h (k+1) (by simpa using hk);simp only[List.getElem_cons_succ] at this;rw[show o+(k+1)*4=o+4+k*4 by omega,show o+((k+1)*4+1)=o+4+(k*4+1) by omega,show o+((k+1)*4+2)=o+4+(k*4+2) by omega,show o+((k+1)*4+3)=o+4+(k*4+3) by omega] at this;exact this
def st0 (l:Bs):St:=⟨(lexS l (1,1)).1,none⟩
def lexF (l:Bs):Option (Nat × Nat × Nat):=if (lexS l (1,1)).2=0 then none else ((lexS l (1,1)).1.getLast?).map fun t=>((lexS l (1,1)).2,t.line,t.col)
def AtF (w:World) (v:Value) (f:Nat × Nat × Nat):Prop:=∃ q,v=.iface 111 (.pointer (some ⟨q,0,none⟩))/\AtB w q (f.2.1,f.2.2) (.iface 77 (.int .i64 (f.1:Nat)))
theorem newp_p (l:Bs) (w:World) (hl:l.length<=20000) :
  Calls Tryz.prog 17 #[.string ⟨l.toArray⟩] w fun e w'=>Below w.heap.size w w'/\((∃ f ev,lexF l=some f/\e=.returned (.tuple #[.pointer none,ev])/\AtF w' ev f)\/(lexF l=none/\∃ g,e=.returned (.tuple #[.pointer (some ⟨g,0,none⟩),.nilIface])/\w.heap.size<=g/\PS w' g (st0 l))):=by
 have HX:=h_ (lex_any l w hl);have HGL:=h_ (lex_good l (1,1));have HSM:=h_ (lex_sum l (1,1)).1;go_enter Tryz.func17,Tryz.ntmps17
 go_wp2_with fail
 refine HX.out.mono ?_;rintro e w1 ⟨hb,hp⟩;rcases hp with ⟨h0,v,rfl,hT⟩ | ⟨h0,q,t,hlast,rfl,hA,-⟩
 ·obtain⟨tb,cap,rfl,h1,h2,-,h4,h5⟩:∃ g cap,v=.slice (some ⟨g,0,none⟩) (lexS l (1,1)).1.length cap/\(lexS l (1,1)).1.length<=cap/\cap<=maxLen/\w.heap.size+1<=g/\g<w1.heap.size/\∀ k (hk:k<(lexS l (1,1)).1.length),w1.cell? ⟨g,k*4,none⟩=some (.int .i64 ((lexS l (1,1)).1[k].kind:Nat))/\w1.cell? ⟨g,k*4+1,none⟩=some (.string ⟨(lexS l (1,1)).1[k].text.toArray⟩)/\w1.cell? ⟨g,k*4+2,none⟩=some (.int .i64 ((lexS l (1,1)).1[k].line:Nat))/\w1.cell? ⟨g,k*4+3,none⟩=some (.int .i64 ((lexS l (1,1)).1[k].col:Nat)):=by
   obtain⟨a,cap,rfl,h1,h2,h3⟩:=hT.form;obtain⟨g,rfl,h4,h5,h6⟩:=h3 (lex_ne l (1,1));exact⟨g,cap,rfl,h1,h2,h4,h5,h6⟩
  have HT:=h_ (toks_of (o:=0) fun k hk=>by rw[Nat.zero_add,Nat.zero_add,Nat.zero_add,Nat.zero_add];exact h5 k hk);have H0:=h_ h0;have HB:=h_ hb;have HC:=h_ (And.intro h1 h2);clear h5 hT hb h0 h1 h2;generalize hn:(lexS l (1,1)).1.length=nl at *;have HN:=h_ hn;clear hn;go_wp2_with fail
  go_ret2
  refine⟨HB.out.alloc HB.out.size _,.inr ⟨by unfold lexF;rw[if_pos H0.out],w1.heap.size,rfl,HB.out.size,⟨tb,0,cap,.nilIface,?_,HGL.out H0.out,?_,HC.out.2,h4,?_,?_,rfl⟩,?_⟩⟩
  ·rw[made_at w1 _ _ rfl];unfold st0;simp only;rw[HN.out]
  ·unfold st0;simp only;rw[HN.out];exact HC.out.1
  ·simp;omega
  ·exact HT.out.below h4 ((Below.refl _ _).alloc (Nat.le_refl _) _)
  unfold st0;simp only;rw[HN.out];have:=HSM.out;omega
 have H0:=h_ h0;have HB:=h_ hb;have HA:=h_ hA;have HL:=h_ hlast;clear hb hA h0 hlast;go_wp2_with fail
 go_ret2
 exact⟨HB.out,.inl ⟨((lexS l (1,1)).2,t.line,t.col),_,by unfold lexF;rw[if_neg H0.out,HL.out];rfl,rfl,q,rfl,HA.out⟩⟩
theorem put_list (l:List Value) (o:Nat) (c:Value) (cs:List Value) (h:o<l.length):(l.set o c).take (o+1)++(cs++(l.set o c).drop (o+1+cs.length))=l.take o++(c::cs++l.drop (o+(cs.length+1))):=by
 rw[List.take_succ_eq_append_getElem (by simpa using h),List.take_set_of_le (Nat.le_refl _),List.getElem_set_self,List.drop_set_of_lt (by omega),show o+1+cs.length=o+(cs.length+1) by omega]
 simp
theorem put_same:∀ (cs:List Value) (w:World) (g o:Nat) (cur:Array Value) (T:TypeId),w.heap[g]?=some (.cells cur T (0,0))->o+cs.length<=cur.size->(w.setCells g o cs).heap[g]?=some (.cells (cur.toList.take o++(cs++cur.toList.drop (o+cs.length))).toArray T (0,0)):=by
 intro cs
 induction cs with
 | nil=>intro w g o cur T h _;rw[World.setCells];simp[h]
 | cons c cs ih =>
  intro w g o cur T h hl;rw[lsc] at hl;have h0:=heap_setCell_same w g o cur T c h;have h1:=ih (w.setCell ⟨g,o,none⟩ c) g (o+1) _ T h0 (by rw[Array.size_setIfInBounds];omega);rw[World.setCells,h1,Array.toList_setIfInBounds,put_list _ _ _ _ (by simpa using (by omega:o<cur.size))]
  rfl
def pmV (p:PmU) (x:X):Value:=.agg #[.string ⟨p.nm.toArray⟩,.int .i64 (p.b:Nat),.bool p.kn,.int .i64 x.k,.string x.nm,.string x.ot,.bool x.b,.slice x.ao x.n x.c,.slice x.ko x.kn x.kc,.int .i64 x.ln,.int .i64 x.cl,.int .i64 (p.ln:Nat),.int .i64 (p.cl:Nat)]
def pmC (p:PmU) (x:X):List Value:=[.string ⟨p.nm.toArray⟩,.int .i64 (p.b:Nat),.bool p.kn,.int .i64 x.k,.string x.nm,.string x.ot,.bool x.b,.slice x.ao x.n x.c,.slice x.ko x.kn x.kc,.int .i64 x.ln,.int .i64 x.cl,.int .i64 (p.ln:Nat),.int .i64 (p.cl:Nat)]
def xZ:X:=⟨0,⟨#[]⟩,⟨#[]⟩,false,none,0,0,none,0,0,0,0⟩
end Go.Proofs.YtkocdbgmckdcpaaGreatDoor
namespace Go.Proofs.YtkocdbgmckdcpaaGreatDoor
open Go.RowKit Go.Shelf
set_option maxRecDepth 100000
set_option linter.unusedVariables false
set_option linter.unusedSimpArgs false
attribute [local go_sem] Oper.semAt_some
mutual
def uPre:U->List U
 | .node k nm ot z ln cl ks=>.node k nm ot z ln cl ks::uPres ks
def uPres:List U->List U
 | []=>[]
 | u::us=>uPre u++uPres us
end
theorem uPres_app:∀ a b:List U,uPres (a++b)=uPres a++uPres b
 | [],b=>by simp[uPres]
 | u::us,b=>by simp[uPres,uPres_app us b]
theorem uPres_take (ks:List U) (j:Nat) (h:j<ks.length):uPres (ks.take (j+1))=uPres (ks.take j)++uPre ks[j]:=by
 rw[List.take_succ_eq_append_getElem h,uPres_app];simp[uPres]
theorem uPres_le (ks:List U) (j:Nat) (h:j<ks.length):(uPres (ks.take j)).length+(uPre ks[j]).length<=(uPres ks).length:=by
 have e:=congrArg List.length (uPres_take ks j h);have e2:=congrArg List.length (uPres_app (ks.take (j+1)) (ks.drop (j+1)));rw[List.take_append_drop] at e2;simp only[lsa] at e e2
 omega
def Al (w:World) (S:Nat->Prop) (ys:List X) (us:List U):Prop:=ys.length=us.length/\∀ i (h1:i<ys.length) (h2:i<us.length),Um w S ys[i] us[i]
theorem Al.nil (w:World) (S:Nat->Prop):Al w S [] []:=⟨rfl,fun i h=>absurd h (Nat.not_lt_zero _)⟩
theorem Al.one {w:World} {S:Nat->Prop} {x:X} {u:U} (h:Um w S x u):Al w S [x] [u]:=⟨rfl,fun i h1 h2=>by
 have:i=0:=by simp at h1;omega
 subst this;exact h⟩
theorem Al.app {w:World} {S:Nat->Prop} {ys zs:List X} {us vs:List U} (h:Al w S ys us) (k:Al w S zs vs):Al w S (ys++zs) (us++vs):=by
 refine⟨by simp[h.1,k.1],fun i h1 h2=>?_⟩
 by_cases hi:i<ys.length
 ·rw[List.getElem_append_left hi,List.getElem_append_left (by rw[<-h.1];exact hi)];exact h.2 i hi (by rw[<-h.1];exact hi)
 have hl:=h.1;rw[List.getElem_append_right (by omega),List.getElem_append_right (by omega)];have h1':i - ys.length<zs.length:=by simp at h1;omega
 have:=k.2 (i - ys.length) h1' (by rw[<-k.1];exact h1')
 simpa [hl] using this
theorem Al.keep {w w':World} {S:Nat->Prop} {ys:List X} {us:List U} (hk:∀ g,S g->w'.heap[g]?=w.heap[g]?) (h:Al w S ys us):Al w' S ys us:=⟨h.1,fun i h1 h2=>(h.2 i h1 h2).keep hk⟩
theorem Al.mono {w:World} {S S':Nat->Prop} {ys:List X} {us:List U} (hs:∀ g,S g->S' g) (h:Al w S ys us):Al w S' ys us:=⟨h.1,fun i h1 h2=>(h.2 i h1 h2).mono hs⟩
def K8 (n₀:Nat) (W W':World):Prop:=Below n₀ W W'/\∀ (k:Nat) (c:Array Value) (T:TypeId),W.heap[k]?=some (Obj.cells c T (0,0))->c.size=8->W'.heap[k]?=some (Obj.cells c T (0,0))
theorem K8.refl (n₀:Nat) (W:World):K8 n₀ W W:=⟨Below.refl _ _,fun _ _ _ h _=>h⟩
theorem K8.trans {n₀:Nat} {A B C:World} (h:K8 n₀ A B) (k:K8 n₀ B C):K8 n₀ A C:=⟨h.1.trans k.1,fun i c T h1 h2=>k.2 i c T (h.2 i c T h1 h2) h2⟩
theorem K8.of {n₀:Nat} {W W':World} (h:Below W.heap.size W W') (hn:n₀<=W.heap.size):K8 n₀ W W':=⟨h.mono hn,fun k c T h1 _=>(h.block k (lt_of_block h1)).trans h1⟩
theorem K8.put {n₀:Nat} {W:World} {l:Nat} {o o':Obj} (hn:n₀<=l) (h:W.heap[l]?=some o) (hc:o.isCells=false):K8 n₀ W (W.putObj l o'):=by
 refine⟨(Below.refl n₀ W).grown (grownBy_putObj' W l o') (by have:=lt_of_block h;omega) (fun k e=>by cases e;exact hn),fun k c T h1 _=>?_⟩;have hkl:k≠l:=fun e=>by subst e;rw[h] at h1;cases h1;cases hc
 rw[World.putObj_heap_other (fun e=>hkl e)];exact h1
theorem K8.um {n₀:Nat} {W W':World} {S:Nat->Prop} {x:X} {u:U} (h:K8 n₀ W W') (hu:Um W (fun b=>S b/\b<n₀) x u):Um W' (fun b=>S b/\b<n₀) x u:=hu.keep fun g hg=>h.1.block g hg.2
theorem K8.al {n₀:Nat} {W W':World} {S:Nat->Prop} {x:List X} {u:List U} (h:K8 n₀ W W') (hu:Al W (fun b=>S b/\b<n₀) x u):Al W' (fun b=>S b/\b<n₀) x u:=hu.keep fun g hg=>h.1.block g hg.2
theorem visit_in (F:Fence) (hd:F.depth=none) (hF:∀ f,F.fn f) (hro:F.round=none) (l n₀ N:Nat) (S:Nat->Prop) (J Jx:List X->World->Prop) (hJ:∀ s A o,J s A->J s (A.alloc o))
  (hY:∀ m pre x W,J pre W->pre.length<N->YieldAt F m Tryz.prog l #[xv x] W fun e W'=>(e=.returned (.bool true)/\J (pre++[x]) W'/\K8 n₀ W W')\/(e=.returned (.bool false)/\Jx (pre++[x]) W')) (d:Nat) :
  ∀ (u:U) (n:Nat) (x:X) (pre:List X) (W:World),ud u<=d->Um W (fun b=>S b/\b<n₀) x u->J pre W->pre.length+(uPre u).length<=N->n₀<=W.heap.size ->
   CallsIn F n Tryz.prog 83 #[xv x,.func (.yield l) #[] #[]] W fun e W' =>
    (e=.returned (.bool true)/\(∃ ys,Al W' (fun b=>S b/\b<n₀) ys (uPre u)/\J (pre++ys) W')/\K8 n₀ W W')\/(e=.returned (.bool false)/\∃ q,Jx (pre++q) W'):=by
 induction d with
 | zero=>intro u n x pre W h;obtain⟨k,nm,ot,z,ln,cl,ks⟩:=u;rw[ud] at h;omega
 | succ d ih =>
  intro u n x pre W hud hu hj hN hn;obtain⟨k,nm,ot,z,ln,cl,ks⟩:=u;obtain⟨xk,xnm,xot,xb,xao,xn,xc,xko,xkn,xkc,xln,xcl⟩:=x;have hu0:=hu;rw[Um] at hu0;obtain⟨⟨e1,e2,e3,e4,e5,e6⟩,⟨h2,h3⟩,⟨h4,h5,h6⟩,h7⟩:=hu0;have HK:=h_ (fun j (hj:j<ks.length)=>ums_get 0 j h7 hj);have H6:Hid (ks.length≠0->∀ a,xko=some a->a.block<n₀):=h_ (fun h a ha=>(h6 (by simp only at h4 ⊢;rw[h4];exact h) a ha).2);have hkl:ks.length<=9223372036854775807:=by simp only at h4 h5;rw[<-h4];exact Nat.le_trans h5.1 h5.2
  simp only at h4;subst h4;clear e1 e2 e3 e4 e5 e6 h2 h3 h5 h6 h7;have hdd:∀ k:Nat,(F.depth.isSome=true->1<=k):=fun k h=>by rw[hd] at h;cases h
  obtain⟨W1,ke,hw,hkk,hb,hs1,HBe⟩:=newb W #[.int .i64 xk,.string xnm,.string xot,.bool xb,.slice xao xn xc,.slice xko ks.length xkc,.int .i64 xln,.int .i64 xcl] 46;have hj1:J pre W1:=by rw[<-hw];exact hJ _ _ _ hj
  subst hkk;have hk01:K8 n₀ W W1:=K8.of hb hn;have hu1:=hk01.um hu;rw[uPre,lsc] at hN;have hlen1:pre.length<N:=by omega
  obtain⟨fn,tmps,assign,body,hy,hR⟩:=hY (n - 1) pre ⟨xk,xnm,xot,xb,xao,xn,xc,xko,ks.length,xkc,xln,xcl⟩ W1 hj1 hlen1;simp only[xv] at hy;have HU:=h_ hu;have HKA:=h_ hk01;have IH:=h_ ih;have HN:=h_ hN;have HUD:=h_ hud;have HYY:=h_ hY;have HJ:=h_ hJ;obtain⟨c0,c1,c2,c3,c4,c5,c6,c7⟩:=cl8 HBe.out;refine callsIn_of_wp Tryz.func83 rfl (hF _) ?_ hro;simp only[xv,Tryz.ntmps83,List.size_toArray,lsc,lsn,Nat.reduceAdd,Nat.reduceSub,Array.replicate_succ,Array.replicate_zero,List.push_toArray,List.append_toArray,List.nil_append,List.cons_append];clear ih hu hu1 hk01 hb hN hud hj hj1 hY hJ
  gi_wp2_with fail
  refine hR.mono ?_;clear hR hy c0 c1 c2 c3 c4 c5 c6 c7;rintro e W2 (⟨rfl,hJ2,hk2⟩ | ⟨rfl,hx2⟩)
  ·have HB2:=h_ (hk2.2 _ _ _ HBe.out rfl);have HJ2:=h_ hJ2;have HK2:=h_ (HKA.out.trans hk2);have c5:=cell_at (v:=.slice xko ks.length xkc) HB2.out 5 rfl;clear hJ2 hk2
   gi_wp2_with fail
   gi_loopw [14] (fun p wr=>∃ (j:Nat) (ys:List X),p=.int .i64 (j:Nat)/\j<=ks.length/\Hid (Al wr (fun b=>S b/\b<n₀) ys (uPres (ks.take j)))/\Hid (J (pre++[(⟨xk,xnm,xot,xb,xao,xn,xc,xko,ks.length,xkc,xln,xcl⟩:X)]++ys) wr)/\Hid (K8 n₀ W wr)) (fun p _=>ks.length - (intOf p).toNat)
   case atStart=>exact⟨0,[],rfl,Nat.zero_le _,h_ (by rw[List.take_zero,uPres];exact Al.nil _ _),h_ (by rw[List.append_nil];exact HJ2.out),HK2⟩
   case round =>
    obtain⟨wl,hwl⟩:∃ q,q=wr:=⟨_,rfl⟩
    subst hwl;clear c5;obtain⟨j,ys,rfl,hj,HAL,HJ3,HK3⟩:=hrel
    by_cases hlt:j<ks.length
    ·obtain⟨y,hA,hT⟩:=HK.out j hlt;rw[Nat.zero_add] at hA;have hT':=HK3.out.um hT;obtain⟨a,rfl,hc⟩:=hA.keep fun a ha=>HK3.out.1.block _ (H6.out (by omega) a ha)
     obtain⟨d0,d1,d2,d3,d4,d5,d6,d7⟩:=cells8 hc;have HT:=h_ hT';clear hc hA hT hT';have hle:=uPres_le ks j hlt;have hn2:n₀<=wl.heap.size:=Nat.le_trans hn HK3.out.1.size;have hbw:Below wl.heap.size wl (wl.alloc (.cells #[.int .i64 y.k,.string y.nm,.string y.ot,.bool y.b,.slice y.ao y.n y.c,.slice y.ko y.kn y.kc,.int .i64 y.ln,.int .i64 y.cl] 46)):=(Below.refl _ _).alloc (Nat.le_refl _) _;have HK4:=h_ (HK3.out.trans (K8.of hbw hn2));have HAL4:=h_ ((K8.of hbw hn2).al HAL.out);have hmem:ud ks[j]<=d:=Nat.le_trans (uds_mem (List.getElem_mem hlt)) (by have:=HUD.out;rw[ud] at this;omega)
     have HCX:=h_ (IH.out ks[j] (n - 1) y (pre++[(⟨xk,xnm,xot,xb,xao,xn,xc,some a,ks.length,xkc,xln,xcl⟩:X)]++ys) _ hmem ((K8.of hbw hn2).um HT.out) (HJ.out _ _ _ HJ3.out) (by have:=HAL.out.1;have:=HN.out;simp only[lsa,lsc,lsn] at *;omega) (Nat.le_trans hn2 hbw.size));clear hbw hle hn2 hmem HAL HJ3
     gi_wp2_with fail
     refine HCX.out.mono ?_;clear HCX d0 d1 d2 d3 d4 d5 d6 d7;rintro e W3 (⟨rfl,⟨zs,hzs,hj3⟩,hk3⟩ | ⟨rfl,q,hx⟩)
     ·have HJ5:=h_ hj3;have HK5:=h_ (HK4.out.trans hk3);have HAL5:=h_ ((hk3.al HAL4.out).app hzs);clear hzs hj3 hk3
      gi_wp2_with fail
      go_roundw
      case rel=>exact⟨j+1,ys++zs,by go_num,by omega,h_ (by rw[uPres_take ks j hlt];exact HAL5.out),h_ (by rw[<-List.append_assoc];exact HJ5.out),HK5⟩
      case measure=>simp[intOf];omega
     have HX:=h_ hx;clear hx
     gi_wp2_with fail
     go_ret
     exact .inr ⟨rfl,[(⟨xk,xnm,xot,xb,xao,xn,xc,some a,ks.length,xkc,xln,xcl⟩:X)]++ys++q,by have:=HX.out;simpa only [List.append_assoc] using this⟩
    have e:j=ks.length:=by omega
    subst e
    gi_wp2_with fail
    go_ret
    refine .inl ⟨rfl,⟨[(⟨xk,xnm,xot,xb,xao,xn,xc,xko,ks.length,xkc,xln,xcl⟩:X)]++ys,?_,by have:=HJ3.out;simpa only [List.append_assoc] using this⟩,HK3.out⟩;rw[uPre];have:=HAL.out;rw[List.take_length] at this;exact (Al.one (HK3.out.um HU.out)).app this
  have HX2:=h_ hx2;clear hx2
  gi_wp2_with fail
  go_ret
  exact .inr ⟨rfl,[(⟨xk,xnm,xot,xb,xao,xn,xc,xko,ks.length,xkc,xln,xcl⟩:X)],HX2.out⟩
theorem any_depth {F:Fence} (hd:F.depth=none) {m:Nat} (m':Nat) {P:Program} {l:Nat} {args:Array Value} {W:World} {R:Ending->World->Prop} (h:YieldAt F m P l args W R):YieldAt F m' P l args W R:=by
 obtain⟨fn,tmps,assign,body,hy,hR⟩:=h;exact⟨fn,tmps,assign,body,hy,⟨hR.1,fun c cs _=>hR.2 c cs (fun d h=>by rw[hd] at h;cases h)⟩⟩
theorem parts1_stops (F:Fence) (hd:F.depth=none) (hF:∀ f,F.fn f) (hro:F.round=none) (n n₀ Bt:Nat) (S:Nat->Prop) (x:X) (u:U) (w:World) (hn:n₀<=w.heap.size) (hB:w.heap[Bt]?=some (.cells #[.int .i64 x.k,.string x.nm,.string x.ot,.bool x.b,.slice x.ao x.n x.c,.slice x.ko x.kn x.kc,.int .i64 x.ln,.int .i64 x.cl] 46 (0,0))) (hu:Um w (fun b=>S b/\b<n₀) x u) :
  SeqStopsK F n Tryz.prog 82 #[.pointer (some ⟨Bt,0,none⟩)] (fun x:X=>#[xv x]) (K8 n₀) (fun ys=>Al w (fun b=>S b/\b<n₀) ys (uPre u)) (fun _=>True) (uPre u).length w:=by
 intro l J Jx W hW hJ hJx hY h0;have hdd:∀ k:Nat,(F.depth.isSome=true->1<=k):=fun k h=>by rw[hd] at h;cases h
 have hB2:W.heap[Bt]?=some (.cells #[.int .i64 x.k,.string x.nm,.string x.ot,.bool x.b,.slice x.ao x.n x.c,.slice x.ko x.kn x.kc,.int .i64 x.ln,.int .i64 x.cl] 46 (0,0)):=(hW.block _ (lt_of_block hB)).trans hB;have hu2:=hu.keep (w':=W) fun g hg=>(hW.mono hn).block g hg.2
 have hp:=visit_in F hd hF hro l n₀ (uPre u).length S J Jx (fun s A o hs=>hJ s A _ none hs (World.grownBy_alloc A o none) (fun r e=>by cases e)) (fun m pre x W hj hl=>any_depth hd m (hY pre x W hj hl)) (ud u) u (n - 1) x [] W (Nat.le_refl _) hu2 h0 (by simp) (Nat.le_trans hn hW.size);have HP:=h_ hp;have HW:=h_ hW;clear hp hW hJ hJx hY h0 hu2;have c0:=cell_at (v:=.int .i64 x.k) hB2 0 rfl;have c1:=cell_at (v:=.string x.nm) hB2 1 rfl;have c2:=cell_at (v:=.string x.ot) hB2 2 rfl;have c3:=cell_at (v:=.bool x.b) hB2 3 rfl;have c4:=cell_at (v:=.slice x.ao x.n x.c) hB2 4 rfl;have c5:=cell_at (v:=.slice x.ko x.kn x.kc) hB2 5 rfl;have c6:=cell_at (v:=.int .i64 x.ln) hB2 6 rfl;have c7:=cell_at (v:=.int .i64 x.cl) hB2 7 rfl;refine callsIn_of_wp Tryz.func82 rfl (hF _) ?_ hro
 simp only[Tryz.ntmps82,List.size_toArray,lsc,lsn,Nat.reduceAdd,Nat.reduceSub,Array.replicate_succ,Array.replicate_zero,List.push_toArray,List.append_toArray,List.nil_append,List.cons_append]
 gi_wp2_with fail
 refine HP.out.mono ?_;rintro e W1 (⟨rfl,⟨ys,h1,h2⟩,h3⟩ | ⟨rfl,q,hx⟩)
 ·have H1:=h_ h1;have H2:=h_ h2;have H3:=h_ h3;clear h1 h2 h3
  gi_wp2_with fail
  go_end0
  refine⟨⟨_,rfl⟩,.inl ⟨ys,H1.out.keep (fun g hg=>?_),by simpa using H2.out⟩⟩;rw[H3.out.1.block g hg.2,(HW.out.mono hn).block g hg.2]
 have HX:=h_ hx;clear hx
 gi_wp2_with fail
 go_end0
 exact⟨⟨_,rfl⟩,.inr ⟨_,trivial,HX.out⟩⟩
theorem parts_p (x:X) (w:World):Calls Tryz.prog 48 #[xv x] w fun e w'=>e=.returned (.func (.func 82) #[] #[.pointer (some ⟨w.heap.size,0,none⟩)])/\w'=w.alloc (.cells #[.int .i64 x.k,.string x.nm,.string x.ot,.bool x.b,.slice x.ao x.n x.c,.slice x.ko x.kn x.kc,.int .i64 x.ln,.int .i64 x.cl] 46):=by
 simp only[xv];go_enter Tryz.func48,Tryz.ntmps48
 go_wp2_with fail
 go_ret
 exact⟨rfl,rfl⟩
end Go.Proofs.YtkocdbgmckdcpaaGreatDoor
namespace Go.Proofs.YtkocdbgmckdcpaaGreatDoor
open Go.RowKit
set_option maxRecDepth 100000
set_option linter.unusedVariables false
set_option linter.unusedSimpArgs false
theorem isnan_p (z:Int) (w:World):Calls Tryz.prog 85 #[.int .i64 z] w fun e w'=>e=.returned (.bool false)/\w'=w:=by
 go_enter Tryz.func85,Tryz.ntmps85
 go_wp2_with fail
 go_ret
 exact⟨rfl,rfl⟩
def cmpZ (a b:Int):Int:=if a<b then -1 else if b<a then 1 else 0
theorem compare_p (a b:Int) (w:World):Calls Tryz.prog 52 #[.int .i64 a,.int .i64 b] w fun e w'=>e=.returned (.int .i64 (cmpZ a b))/\w'=w:=by
 obtain⟨c,hc⟩:∃ c,c=cmpZ a b:=⟨_,rfl⟩
 rw[<-hc];have HC:=h_ hc;clear hc;go_enter Tryz.func52,Tryz.ntmps52
 by_cases h1:a<b
 ·have hc:c = -1:=by rw[HC.out,cmpZ,if_pos h1]
  subst hc;clear HC;go_wp2_with (first | (refine (isnan_p _ _).mono ?_;rintro e w' ⟨rfl,rfl⟩) | fail)
  go_ret
  exact⟨rfl,rfl⟩
 by_cases h2:b<a
 ·have hc:c=1:=by rw[HC.out,cmpZ,if_neg h1,if_pos h2]
  subst hc;clear HC;go_wp2_with (first | (refine (isnan_p _ _).mono ?_;rintro e w' ⟨rfl,rfl⟩) | fail)
  go_ret
  exact⟨rfl,rfl⟩
 have hc:c=0:=by rw[HC.out,cmpZ,if_neg h1,if_neg h2]
 subst hc;clear HC;go_wp2_with (first | (refine (isnan_p _ _).mono ?_;rintro e w' ⟨rfl,rfl⟩) | fail)
 go_ret
 exact⟨rfl,rfl⟩
def orZ2 (a b:Int):Int:=if a=0 then b else a
theorem or2_p (g:Nat) (a b:Int) (w:World) (hB:w.heap[g]?=some (.cells #[.int .i64 a,.int .i64 b] 3 (0,0))) :
  Calls Tryz.prog 51 #[.slice (some ⟨g,0,none⟩) 2 2] w fun e w'=>e=.returned (.int .i64 (orZ2 a b))/\w'=w:=by
 have c0:=cell_at (v:=.int .i64 a) hB 0 rfl;have c1:=cell_at (v:=.int .i64 b) hB 1 rfl;clear hB;obtain⟨c,hc⟩:∃ c,c=orZ2 a b:=⟨_,rfl⟩
 rw[<-hc];have HC:=h_ hc;clear hc;go_enter Tryz.func51,Tryz.ntmps51
 by_cases h1:a=0
 ·have hc:c=b:=by rw[HC.out,orZ2,if_pos h1]
  subst hc;clear HC;subst h1
  by_cases h2:c=0
  ·subst h2;go_wp2_with fail
   refine wp_loop_rounds 3 ?_;rw[rounds_succ];go_wp2_with fail
   rw[rounds_succ];go_wp2_with fail
   rw[rounds_succ];go_wp2_with fail
   go_ret
   exact⟨rfl,rfl⟩
  have h3:(c != 0)=true:=by simpa using h2
  go_wp2_with fail
  refine wp_loop_rounds 2 ?_;rw[rounds_succ];go_wp2_with fail
  rw[rounds_succ];go_wp2_with fail
  go_ret
  exact⟨rfl,rfl⟩
 have hc:c=a:=by rw[HC.out,orZ2,if_neg h1]
 subst hc;clear HC;have h3:(c != 0)=true:=by simpa using h1
 go_wp2_with fail
 refine wp_loop_rounds 1 ?_;rw[rounds_succ];go_wp2_with fail
 go_ret
 exact⟨rfl,rfl⟩
def plcX (x y:X):Int:=orZ2 (cmpZ x.ln y.ln) (cmpZ x.cl y.cl)
def pltX (x y:X):Prop:=x.ln<y.ln\/x.ln=y.ln/\x.cl<y.cl
theorem plcX_pos {x y:X} (h:pltX y x):0<plcX x y:=by
 unfold plcX orZ2 cmpZ;rcases h with h | ⟨h1,h2⟩
 ·rw[if_neg (show ¬ x.ln<y.ln by omega),if_pos h,if_neg (by decide)];decide
 rw[if_neg (show ¬ x.ln<y.ln by omega),if_neg (show ¬ y.ln<x.ln by omega),if_pos rfl,if_neg (show ¬ x.cl<y.cl by omega),if_pos h2];decide
theorem sortcmp_p (x y:X) (w:World):Calls Tryz.prog 50 #[xv x,xv y] w fun e w'=>e=.returned (.int .i64 (plcX x y))/\Below w.heap.size w w':=by
 simp only[xv];have HW:=h_ (Below.refl w.heap.size w);go_enter Tryz.func50,Tryz.ntmps50
 go_upto_region 1 with fail
 obtain⟨w1,ka,hw,hkk,hb,hs1,HBa⟩:=newb w #[.int .i64 x.k,.string x.nm,.string x.ot,.bool x.b,.slice x.ao x.n x.c,.slice x.ko x.kn x.kc,.int .i64 x.ln,.int .i64 x.cl] 46;rw[hw,<-hkk,<-hs1];replace HW:=h_ (HW.out.trans (hb.mono HW.out.size));clear hw hb hkk hs1;obtain⟨w2,kb,hw,hkk,hb,hs1,HBb⟩:=newb w1 #[.int .i64 y.k,.string y.nm,.string y.ot,.bool y.b,.slice y.ao y.n y.c,.slice y.ko y.kn y.kc,.int .i64 y.ln,.int .i64 y.cl] 46;have ha_b:=lk_ hkk HBa;rw[hw,<-hkk];replace HBa:=kB hb HBa;replace HW:=h_ (HW.out.trans (hb.mono HW.out.size));clear hw hb hkk hs1;obtain⟨zl,hzl⟩:∃ z,z=cmpZ x.ln y.ln:=⟨_,rfl⟩
 obtain⟨zc,hzc⟩:∃ z,z=cmpZ x.cl y.cl:=⟨_,rfl⟩
 obtain⟨zo,hzo⟩:∃ z,z=orZ2 zl zc:=⟨_,rfl⟩
 have HZL:=h_ hzl;have HZC:=h_ hzc;have HZO:=h_ hzo;clear hzl hzc hzo;have hlt_a:=lt_of_block HBa.out;have hlt_b:=lt_of_block HBb.out;have hog:Hid (∀ q,q<0->(fun q=>0) q<w2.heap.size):=h_ (fun q h=>absurd h (Nat.not_lt_zero _));refine R7.region (by kernel_rfl) [[],[0],[],[2],[0,1,2,3],[],[5],[],[7],[0,1,2,3,4,5,6,7,8],[0,1,2,3,4,5,6,7,8,9],[0,1,2,3,4,5,6,7,8,9,10],[0,1,2,3,4,5,6,7,8,9,10,11]] [] [] (fun q=>0) 0 13 (by kernel_rfl) (by kernel_rfl) (by rfl) hog.out (fun q q' h h' hn=>absurd hn (by omega)) ?_;refine R7.cd ?_ (fun T xs wr hA=>?_) ?_
 rotate_left
 ·have e2:=hA.pq 2;simp only[gsa,gsc,gsz] at e2;clear hA;go_simp<;>(try with_reducible rfl)
 refine R7.cd ?_ (fun T xs wr hA=>?_) ?_
 rotate_left
 ·have e5:=tr_ (hA.tq 0 5) (hA.fq 0)
  (try simp (disch:=decide) only [R7.mi] at e5)
  have hBq:wr.heap[ka]?=_:=(hA.bl _ hlt_a (fun q h=>absurd h (Nat.not_lt_zero _))).trans HBa.out;obtain⟨q0,q1,q2,q3,q4,q5,q6,q7⟩:=cl8 hBq;clear hBq;clear hA;go_simp<;>(try with_reducible rfl)
 refine R7.cd ?_ (fun T xs wr hA=>?_) ?_
 rotate_left
 ·have e3:=hA.pq 3;simp only[gsa,gsc,gsz] at e3;clear hA;go_simp<;>(try with_reducible rfl)
 refine R7.cd ?_ (fun T xs wr hA=>?_) ?_
 rotate_left
 ·have e7:=tr_ (hA.tq 2 7) (hA.fq 2)
  (try simp (disch:=decide) only [R7.mi] at e7)
  have hBq:wr.heap[kb]?=_:=(hA.bl _ hlt_b (fun q h=>absurd h (Nat.not_lt_zero _))).trans HBb.out;obtain⟨q0,q1,q2,q3,q4,q5,q6,q7⟩:=cl8 hBq;clear hBq;clear hA;go_simp<;>(try with_reducible rfl)
 refine R7.Chain.call (fun xs v w=>v=.int .i64 zl) (fun _ _ _ _ h _=>h) (fun _ _ _ _ _ h _ _=>h) (by rfl) (fun T xs wr hA=>?_) ?_
 ·have hsw:=(hA.be 0 (Nat.zero_le _) (fun _ _=>Nat.zero_le _)).size;have e6:=tr_ (hA.tq 1 6) (hA.fq 1);have e8:=tr_ (hA.tq 3 8) (hA.fq 3)
  (try simp (disch:=decide) only [R7.mi] at e6 e8)
  clear hA;refine⟨(by rfl),fun K hK=>?_⟩;go_simp
  refine (compare_p _ _ _).mono ?_;rintro e w' ⟨rfl,rfl⟩;exact hK.out _ _ (by rw[HZL.out]) (Below.refl _ _)
 refine R7.cd ?_ (fun T xs wr hA=>?_) ?_
 rotate_left
 ·have e2:=hA.pq 2;simp only[gsa,gsc,gsz] at e2;clear hA;go_simp<;>(try with_reducible rfl)
 refine R7.cd ?_ (fun T xs wr hA=>?_) ?_
 rotate_left
 ·have e10:=tr_ (hA.tq 5 10) (hA.fq 5)
  (try simp (disch:=decide) only [R7.mi] at e10)
  have hBq:wr.heap[ka]?=_:=(hA.bl _ hlt_a (fun q h=>absurd h (Nat.not_lt_zero _))).trans HBa.out;obtain⟨q0,q1,q2,q3,q4,q5,q6,q7⟩:=cl8 hBq;clear hBq;clear hA;go_simp<;>(try with_reducible rfl)
 refine R7.cd ?_ (fun T xs wr hA=>?_) ?_
 rotate_left
 ·have e3:=hA.pq 3;simp only[gsa,gsc,gsz] at e3;clear hA;go_simp<;>(try with_reducible rfl)
 refine R7.cd ?_ (fun T xs wr hA=>?_) ?_
 rotate_left
 ·have e12:=tr_ (hA.tq 7 12) (hA.fq 7)
  (try simp (disch:=decide) only [R7.mi] at e12)
  have hBq:wr.heap[kb]?=_:=(hA.bl _ hlt_b (fun q h=>absurd h (Nat.not_lt_zero _))).trans HBb.out;obtain⟨q0,q1,q2,q3,q4,q5,q6,q7⟩:=cl8 hBq;clear hBq;clear hA;go_simp<;>(try with_reducible rfl)
 refine R7.Chain.call (fun xs v w=>v=.int .i64 zc) (fun _ _ _ _ h _=>h) (fun _ _ _ _ _ h _ _=>h) (by rfl) (fun T xs wr hA=>?_) ?_
 ·have hsw:=(hA.be 0 (Nat.zero_le _) (fun _ _=>Nat.zero_le _)).size;have e11:=tr_ (hA.tq 6 11) (hA.fq 6);have e13:=tr_ (hA.tq 8 13) (hA.fq 8)
  (try simp (disch:=decide) only [R7.mi] at e11 e13)
  clear hA;refine⟨(by rfl),fun K hK=>?_⟩;go_simp
  refine (compare_p _ _ _).mono ?_;rintro e w' ⟨rfl,rfl⟩;exact hK.out _ _ (by rw[HZC.out]) (Below.refl _ _)
 refine R7.Chain.call (fun xs v w=>∃ g,v=.slice (some ⟨g,0,none⟩) 2 2/\w2.heap.size<=g/\w.heap[g]?=some (.cells #[.int .i64 zl,.int .i64 zc] 3 (0,0))) (fun _ _ _ _ ⟨g,hv,hl,hg⟩ hb=>⟨g,hv,hl,by rw[hb.block g (Array.getElem?_eq_some_iff.1 hg).1];exact hg⟩) (fun _ _ _ _ _ ⟨g,hv,hl,hg⟩ ⟨q,hq,e⟩ hp=>⟨g,hv,hl,by rw[hp.block g (Array.getElem?_eq_some_iff.1 hg).1 (fun h=>by have:=hog.out q hq;omega)];exact hg⟩) (by rfl) (fun T xs wr hA=>?_) ?_
 ·have hsw:=(hA.be 0 (Nat.zero_le _) (fun _ _=>Nat.zero_le _)).size;have e9:=hA.tm 4 9 (by rfl) (by rfl);have f9:xs 4=(.int .i64 zl):=hA.fa 4 (by rfl);rw[f9] at e9;clear f9;have e14:=hA.tm 9 14 (by rfl) (by rfl);have f14:xs 9=(.int .i64 zc):=hA.fa 9 (by rfl);rw[f14] at e14;clear f14;clear hA;refine⟨(by rfl),fun K hK=>?_⟩;go_simp
  exact hK.out _ _ ⟨_,rfl,hsw,by simpa using made_at wr _ _ rfl⟩ ((Below.refl _ _).alloc (Nat.le_refl _) _)
 refine R7.Chain.call (fun xs v w=>v=.int .i64 zo) (fun _ _ _ _ h _=>h) (fun _ _ _ _ _ h _ _=>h) (by rfl) (fun T xs wr hA=>?_) ?_
 ·have hsw:=(hA.be 0 (Nat.zero_le _) (fun _ _=>Nat.zero_le _)).size;have e15:=hA.tm 10 15 (by rfl) (by rfl);have hF10:∃ g,(xs 10)=.slice (some ⟨g,0,none⟩) 2 2/\w2.heap.size<=g/\wr.heap[g]?=some (.cells #[.int .i64 zl,.int .i64 zc] 3 (0,0)):=hA.fa 10 (by rfl);obtain⟨g,hv,-,hg⟩:=hF10;rw[hv] at e15;clear hA;refine⟨(by rfl),fun K hK=>?_⟩;go_simp
  refine (or2_p g zl zc _ hg).mono ?_;rintro e w' ⟨rfl,rfl⟩;exact hK.out _ _ (by rw[HZO.out]) (Below.refl _ _)
 refine R7.cd ?_ (fun T xs wr hA=>?_) ?_
 rotate_left
 ·have e16:=hA.tm 11 16 (by rfl) (by rfl);have f16:xs 11=(.int .i64 zo):=hA.fa 11 (by rfl);rw[f16] at e16;clear f16;clear hA;go_simp<;>(try with_reducible rfl)
 refine R7.Chain.done (fun xs w3 hL=>?_);obtain⟨⟨hbe,hbl⟩,hf,-,-⟩:=hL;have f0:xs 0=_:=hf 0 (by decide);have f1:xs 1=_:=hf 1 (by decide);have f2:xs 2=_:=hf 2 (by decide);have f3:xs 3=_:=hf 3 (by decide);have f4:xs 4=(.int .i64 zl):=hf 4 (by decide);have f5:xs 5=_:=hf 5 (by decide);have f6:xs 6=_:=hf 6 (by decide);have f7:xs 7=_:=hf 7 (by decide);have f8:xs 8=_:=hf 8 (by decide);have f9:xs 9=(.int .i64 zc):=hf 9 (by decide);have F10:∃ g,(xs 10)=.slice (some ⟨g,0,none⟩) 2 2/\w2.heap.size<=g/\w3.heap[g]?=some (.cells #[.int .i64 zl,.int .i64 zc] 3 (0,0)):=hf 10 (by decide);have f11:xs 11=(.int .i64 zo):=hf 11 (by decide);have f12:xs 12=_:=hf 12 (by decide)
 (try simp (disch:=decide) only [R7.mi] at f0 f1 f2 f3 f5 f6 f7 f8 f12)
 have hb:Below w2.heap.size w2 w3:=R7.b0_ hbe;clear hbe hbl hf;refine R7.rest_done ?_;simp only[R7.fill,t5_,t6_,t7_,f0,f1,f2,f3,f4,f5,f6,f7,f8,f9,f11,f12];clear hog hlt_a hlt_b f0 f1 f2 f3 f4 f5 f6 f7 f8 f9 f11 f12;replace HBa:=kB hb HBa;replace HBb:=kB hb HBb;replace HW:=h_ (HW.out.trans (hb.mono HW.out.size));clear hb;go_wp2_with fail
 go_ret
 refine⟨?_,HW.out⟩;rw[HZO.out,HZL.out,HZC.out];rfl
def Srt (w:World) (ko:Option Addr) (xs:List X):Prop:=(∀ i (h:i<xs.length),At8 w ko i xs[i])/\∀ i j (h:j<xs.length) (h2:i<j),pltX (xs[i]'(Nat.lt_trans h2 h)) xs[j]
theorem srt_at {w wr:World} {a:Addr} {xs:List X} (h:Srt w (some a) xs) (hb:Below w.heap.size w wr) (i:Nat) (hi:i<xs.length):∀ j v,(xc xs[i])[j]?=some v->wr.cell? ((a.add (i*8)).add j)=some v:=by
 obtain⟨a',e,h2⟩:=h.1 i hi;injection e with e;subst e;intro j v hv;rw[hb.cell (cell_lt (h2 j v hv))];exact h2 j v hv
theorem Srt.below {w w':World} {ko:Option Addr} {xs:List X} (h:Srt w ko xs) (hb:Below w.heap.size w w'):Srt w' ko xs:=
 ⟨fun i hi=>(h.1 i hi).keep fun a ha=>hb.block _ ((h.1 i hi).lt a ha),h.2⟩
theorem insort_p (w:World) (ko:Option Addr) (kc:Nat) (xs:List X) (hS:Srt w ko xs) (la lb:Nat) (hab:lb<=xs.length) (hla:la<=xs.length) (hn:xs.length<=1000000) :
  Calls Tryz.prog 110 #[.slice ko xs.length kc,.int .i64 (la:Nat),.int .i64 (lb:Nat),.func (.func 50) #[] #[]] w fun e w'=>e=.returned (.tuple #[])/\Below w.heap.size w w':=by
 have HS:=h_ hS;have HW:=h_ (Below.refl w.heap.size w);clear hS;go_enter Tryz.func110,Tryz.ntmps110
 go_wp2_with fail
 go_loopw [8] (fun i wr=>∃ (j:Nat),i=.int .i64 (j:Nat)/\la<j/\Hid (Below w.heap.size w wr)) (fun i _=>lb - (intOf i).toNat)
 case atStart=>exact⟨la+1,by go_num,by omega,HW⟩
 case round =>
  obtain⟨wl,hwl⟩:∃ q,q=wr:=⟨_,rfl⟩
  subst hwl;clear HW;obtain⟨j,rfl,hj,HW⟩:=hrel
  by_cases hlt:j<lb
  ·obtain⟨p,hp⟩:∃ p,j=p+1:=⟨j - 1,by omega⟩
   have HJP:=h_ hp;have hpl:p<xs.length:=by omega
   have hjl:j<xs.length:=by omega
   obtain⟨a,ha⟩:∃ a,ko=some a:=by obtain⟨a,ha,-⟩:=HS.out.1 j hjl;exact⟨a,ha⟩
   subst ha;obtain⟨yj,hyj⟩:∃ y,y=xs[j]'(hjl):=⟨_,rfl⟩
   have HCj:=h_ (srt_at HS.out HW.out (j) (hjl));rw[<-hyj] at HCj;obtain⟨yp,hyp⟩:∃ y,y=xs[p]'(hpl):=⟨_,rfl⟩
   have HCp:=h_ (srt_at HS.out HW.out (p) (hpl));rw[<-hyp] at HCp;obtain⟨z,hz⟩:∃ z,z=plcX yj yp:=⟨_,rfl⟩
   have hzp:0<z:=by rw[hz,hyj,hyp];exact plcX_pos (HS.out.2 p j hjl (by omega))
   have HZ:=h_ hz;have hI:(j:Int)<((xs.length:Nat):Int):=by omega
   have hI2:(p:Int)<((xs.length:Nat):Int):=by omega
   have hja:(la:Int)<(j:Int):=by omega
   have hpj:((j:Nat):Int) - 1=(p:Nat):=by omega
   have hpm:IntKind.i64.wrap (((j:Nat):Int) - 1)=((p:Nat):Int):=by rw[IntWalk.i64_in _ (by omega)];exact hpj
   have HPJ:=h_ hpm;clear hz hyj hyp hp hpj hpm;go_wp2_with fail
   refine wp_loop_rounds 1 ?_;rw[rounds_succ];go_upto_region 4 with fail
   refine R7.r0 [[],[],[0,1],[0,1,2],[0,1,2,3],[0,1,2,3],[0,1,2,3],[0,1,2,3,5,6],[0,1,2,3,5,6,7],[0,1,2,3],[0,1,2,3],[0,1,2,3,10],[0,1,2,3,9,10,11],[0,1,2,3,9,10,11,12],[0,1,2,3,4,5,6,7,8,9,10,11,12,13],[0,1,2,3,4,5,6,7,8,9,10,11,12,13,14],[0,1,2,3,4,5,6,7,8,9,10,11,12,13,14,15]] 17 ?_;refine R7.cd ?_ (fun T xs wr hA=>?_) ?_
   rotate_left
   ·have e9:=hA.pq 9;simp only[gsa,gsc,gsz] at e9;clear hA;go_simp<;>(try with_reducible rfl)
   refine R7.cd ?_ (fun T xs wr hA=>?_) ?_
   rotate_left
   ·have e1:=hA.pq 1;simp only[gsa,gsc,gsz] at e1;clear hA;go_simp<;>(try with_reducible rfl)
   refine R7.Chain.call (fun xs v w=>v=.bool true) (fun _ _ _ _ h _=>h) (fun _ _ _ _ _ h _ _=>h) (by rfl) (fun T xs wr hA=>?_) ?_
   ·have hsw:=(hA.be 0 (Nat.zero_le _) (fun _ _=>Nat.zero_le _)).size;have e18:=tr_ (hA.tq 0 18) (hA.fq 0);have e19:=tr_ (hA.tq 1 19) (hA.fq 1)
    (try simp (disch:=decide) only [R7.mi] at e18 e19)
    clear hA;refine⟨(by rfl),fun K hK=>?_⟩;go_simp
    exact hK.out _ _ (by first | rfl | (simp;omega)) (Below.refl _ _)
   refine R7.cd ?_ (fun T xs wr hA=>?_) ?_
   rotate_left
   ·have e20:=hA.tm 2 20 (by rfl) (by rfl);have f20:xs 2=(.bool true):=hA.fa 2 (by rfl);rw[f20] at e20;clear f20;clear hA;go_simp<;>(try with_reducible rfl)
   refine R7.Chain.det ?_ (by rfl) (fun T xs wr hA=>?_) ?_
   rotate_left 1
   ·have e21:=tr_ (hA.tq 3 21) (hA.fq 3)
    (try simp (disch:=decide) only [R7.mi] at e21)
    have e3:=hA.pq 3;simp only[gsa,gsc,gsz] at e3;clear hA;refine⟨((Rely.wanted_at rfl (by rfl) e21).trans (by rfl)),?_⟩;go_simp<;>(try with_reducible rfl)
   refine R7.Chain.det ?_ (by rfl) (fun T xs wr hA=>?_) ?_
   rotate_left 1
   ·have e21:=tr_ (hA.tq 3 21) (hA.fq 3)
    (try simp (disch:=decide) only [R7.mi] at e21)
    have e0:=hA.pq 0;simp only[gsa,gsz] at e0;clear hA;refine⟨((Rely.wanted_at rfl (by rfl) e21).trans (by rfl)),?_⟩;go_simp<;>(try with_reducible rfl)
   refine R7.Chain.det ?_ (by rfl) (fun T xs wr hA=>?_) ?_
   rotate_left 1
   ·have e21:=tr_ (hA.tq 3 21) (hA.fq 3)
    (try simp (disch:=decide) only [R7.mi] at e21)
    have e9:=hA.pq 9;simp only[gsa,gsc,gsz] at e9;clear hA;refine⟨((Rely.wanted_at rfl (by rfl) e21).trans (by rfl)),?_⟩;go_simp<;>(try with_reducible rfl)
   refine R7.Chain.det ?_ (by rfl) (fun T xs wr hA=>?_) ?_
   rotate_left 1
   ·have e21:=tr_ (hA.tq 3 21) (hA.fq 3);have e23:=tr_ (hA.tq 5 23) (hA.fq 5);have e24:=tr_ (hA.tq 6 24) (hA.fq 6)
    (try simp (disch:=decide) only [R7.mi] at e21 e23 e24)
    clear hA;refine⟨((Rely.wanted_at rfl (by rfl) e21).trans (by rfl)),?_⟩;go_simp<;>(try with_reducible rfl)
   refine R7.Chain.det ?_ (by rfl) (fun T xs wr hA=>?_) ?_
   rotate_left 1
   ·have e21:=tr_ (hA.tq 3 21) (hA.fq 3);have e25:=tr_ (hA.tq 7 25) (hA.fq 7)
    (try simp (disch:=decide) only [R7.mi] at e21 e25)
    have hbw:=undrew (hA.be wl.heap.size (Nat.le_refl _) (fun q h=>absurd h (Nat.not_lt_zero _)));obtain⟨d0,d1,d2,d3,d4,d5,d6,d7⟩:=cells8 (w:=wr) (p:=a.add (j*8)) (y:=yj) (fun j v hv=>by rw[hbw.cell (cell_lt (HCj.out j v hv))];exact HCj.out j v hv);clear hbw;clear hA;refine⟨((Rely.wanted_at rfl (by rfl) e21).trans (by rfl)),?_⟩;go_simp<;>(try with_reducible rfl)
   refine R7.Chain.det ?_ (by rfl) (fun T xs wr hA=>?_) ?_
   rotate_left 1
   ·have e21:=tr_ (hA.tq 3 21) (hA.fq 3)
    (try simp (disch:=decide) only [R7.mi] at e21)
    have e0:=hA.pq 0;simp only[gsa,gsz] at e0;clear hA;refine⟨((Rely.wanted_at rfl (by rfl) e21).trans (by rfl)),?_⟩;go_simp<;>(try with_reducible rfl)
   refine R7.Chain.det ?_ (by rfl) (fun T xs wr hA=>?_) ?_
   rotate_left 1
   ·have e21:=tr_ (hA.tq 3 21) (hA.fq 3)
    (try simp (disch:=decide) only [R7.mi] at e21)
    have e9:=hA.pq 9;simp only[gsa,gsc,gsz] at e9;clear hA;refine⟨((Rely.wanted_at rfl (by rfl) e21).trans (by rfl)),?_⟩;go_simp<;>(try with_reducible rfl)
   refine R7.Chain.call (fun xs v w=>v=.int .i64 (p:Nat)) (fun _ _ _ _ h _=>h) (fun _ _ _ _ _ h _ _=>h) (by rfl) (fun T xs wr hA=>?_) ?_
   ·have e21:=tr_ (hA.tq 3 21) (hA.fq 3)
    (try simp (disch:=decide) only [R7.mi] at e21)
    have hsw:=(hA.be 0 (Nat.zero_le _) (fun _ _=>Nat.zero_le _)).size;have e28:=tr_ (hA.tq 10 28) (hA.fq 10)
    (try simp (disch:=decide) only [R7.mi] at e28)
    clear hA;refine⟨((Rely.wanted_at rfl (by rfl) e21).trans (by rfl)),fun K hK=>?_⟩;go_simp
    exact hK.out _ _ (by rw[HPJ.out]) (Below.refl _ _)
   refine R7.Chain.det ?_ (by rfl) (fun T xs wr hA=>?_) ?_
   rotate_left 1
   ·have e21:=tr_ (hA.tq 3 21) (hA.fq 3);have e27:=tr_ (hA.tq 9 27) (hA.fq 9)
    (try simp (disch:=decide) only [R7.mi] at e21 e27)
    have e29:=hA.tm 11 29 (by rfl) (by rfl);have f29:xs 11=(.int .i64 (p:Nat)):=hA.fa 11 (by rfl);rw[f29] at e29;clear f29;clear hA;refine⟨((Rely.wanted_at rfl (by rfl) e21).trans (by rfl)),?_⟩;go_simp<;>(try with_reducible rfl)
   refine R7.Chain.det ?_ (by rfl) (fun T xs wr hA=>?_) ?_
   rotate_left 1
   ·have e21:=tr_ (hA.tq 3 21) (hA.fq 3);have e30:=tr_ (hA.tq 12 30) (hA.fq 12)
    (try simp (disch:=decide) only [R7.mi] at e21 e30)
    have hbw:=undrew (hA.be wl.heap.size (Nat.le_refl _) (fun q h=>absurd h (Nat.not_lt_zero _)));obtain⟨d0,d1,d2,d3,d4,d5,d6,d7⟩:=cells8 (w:=wr) (p:=a.add (p*8)) (y:=yp) (fun j v hv=>by rw[hbw.cell (cell_lt (HCp.out j v hv))];exact HCp.out j v hv);clear hbw;clear hA;refine⟨((Rely.wanted_at rfl (by rfl) e21).trans (by rfl)),?_⟩;go_simp<;>(try with_reducible rfl)
   refine R7.Chain.call (fun xs v w=>v=.int .i64 z) (fun _ _ _ _ h _=>h) (fun _ _ _ _ _ h _ _=>h) (by rfl) (fun T xs wr hA=>?_) ?_
   ·have e21:=tr_ (hA.tq 3 21) (hA.fq 3)
    (try simp (disch:=decide) only [R7.mi] at e21)
    have hsw:=(hA.be 0 (Nat.zero_le _) (fun _ _=>Nat.zero_le _)).size;have e22:=tr_ (hA.tq 4 22) (hA.fq 4);have e26:=tr_ (hA.tq 8 26) (hA.fq 8);have e31:=tr_ (hA.tq 13 31) (hA.fq 13)
    (try simp (disch:=decide) only [R7.mi] at e22 e26 e31)
    clear hA;refine⟨((Rely.wanted_at rfl (by rfl) e21).trans (by rfl)),fun K hK=>?_⟩;go_simp
    refine (sortcmp_p yj yp _).mono ?_;rintro e w' ⟨rfl,hb⟩;exact hK.out _ _ (by rw[HZ.out]) hb
   refine R7.Chain.call (fun xs v w=>v=.bool false) (fun _ _ _ _ h _=>h) (fun _ _ _ _ _ h _ _=>h) (by rfl) (fun T xs wr hA=>?_) ?_
   ·have e21:=tr_ (hA.tq 3 21) (hA.fq 3)
    (try simp (disch:=decide) only [R7.mi] at e21)
    have hsw:=(hA.be 0 (Nat.zero_le _) (fun _ _=>Nat.zero_le _)).size;have e32:=hA.tm 14 32 (by rfl) (by rfl);have f32:xs 14=(.int .i64 z):=hA.fa 14 (by rfl);rw[f32] at e32;clear f32;clear hA;refine⟨((Rely.wanted_at rfl (by rfl) e21).trans (by rfl)),fun K hK=>?_⟩;go_simp
    exact hK.out _ _ (by first | rfl | (simp;omega)) (Below.refl _ _)
   refine R7.Chain.call (fun xs v w=>v=.bool false) (fun _ _ _ _ h _=>h) (fun _ _ _ _ _ h _ _=>h) (by rfl) (fun T xs wr hA=>?_) ?_
   ·have hsw:=(hA.be 0 (Nat.zero_le _) (fun _ _=>Nat.zero_le _)).size;have e21:=tr_ (hA.tq 3 21) (hA.fq 3)
    (try simp (disch:=decide) only [R7.mi] at e21)
    have e33:=hA.tm 15 33 (by rfl) (by rfl);have f33:xs 15=(.bool false):=hA.fa 15 (by rfl);rw[f33] at e33;clear f33;clear hA;refine⟨(by rfl),fun K hK=>?_⟩;go_simp
    exact hK.out _ _ rfl (Below.refl _ _)
   refine R7.Chain.done (fun xs w1 hL=>?_);obtain⟨⟨hbe,hbl⟩,hf,-,-⟩:=hL;have f0:xs 0=_:=hf 0 (by decide);have f1:xs 1=_:=hf 1 (by decide);have f2:xs 2=(.bool true):=hf 2 (by decide);have f3:xs 3=_:=hf 3 (by decide);have f4:xs 4=_:=hf 4 (by decide);have f5:xs 5=_:=hf 5 (by decide);have f6:xs 6=_:=hf 6 (by decide);have f7:xs 7=_:=hf 7 (by decide);have f8:xs 8=_:=hf 8 (by decide);have f9:xs 9=_:=hf 9 (by decide);have f10:xs 10=_:=hf 10 (by decide);have f11:xs 11=(.int .i64 (p:Nat)):=hf 11 (by decide);have f12:xs 12=_:=hf 12 (by decide);have f13:xs 13=_:=hf 13 (by decide);have f14:xs 14=(.int .i64 z):=hf 14 (by decide);have f15:xs 15=(.bool false):=hf 15 (by decide);have f16:xs 16=(.bool false):=hf 16 (by decide)
   (try simp (disch:=decide) only [R7.mi] at f0 f1 f3 f4 f5 f6 f7 f8 f9 f10 f12 f13)
   have hb:Below wl.heap.size wl w1:=R7.b0_ hbe;clear hbe hbl hf;refine R7.rest_done ?_;simp only[R7.fill,t5_,t6_,t7_,f0,f1,f2,f3,f4,f5,f6,f7,f8,f9,f10,f11,f12,f13,f14,f15,f16];clear  f0 f1 f2 f3 f4 f5 f6 f7 f8 f9 f10 f11 f12 f13 f14 f15 f16;replace HW:=h_ (HW.out.trans (hb.mono HW.out.size));clear hb;clear hzp hja;go_wp2_with fail
   go_roundw
   case rel=>exact⟨j+1,by go_num,by omega,HW⟩
   case measure=>simp[intOf];omega
  go_wp2_with fail
  exact bodyPost_end (results_none Tryz.results110 _ _ _) rfl ⟨rfl,HW.out⟩
end Go.Proofs.YtkocdbgmckdcpaaGreatDoor
