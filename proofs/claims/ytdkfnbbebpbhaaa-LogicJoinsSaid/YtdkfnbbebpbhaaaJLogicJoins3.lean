/-
 Joined texts: VlC,VlD,VlE,VlF,VlG,VlH,LgM,LgA,LgB,LgC,LgD,LgE,LgF,LgG,LgH,LgI.
-/
import Derived.BigQuiet
import Derived.Deep.DeepCutAuto
import Derived.OwnWalk
import Derived.Laws.OwnMore
import Derived.Deep.AppendLies
import Derived.Deep.DrawnRows
import Derived.RangeFuncNested
import Derived.RangeFuncBound
import Derived.RangeFuncCalls
import Derived.RangeFuncLeaves
import Derived.OrdersIn
import Derived.Shelf.Abstract
import Derived.Shelf.RegionOpen
import Derived.WalkKit
import Derived.OwnWalkIn
import Derived.TacticsInMore
import Derived.LoopNIn
import Derived.LoopIn
import Derived.Test.YtdkfnbbebpbhaaaJLogicJoins2
set_option maxHeartbeats 32000000
namespace Go.Proofs.Ytdkfnbbebpbhaaa
open Go.RowKit
set_option maxRecDepth 100000
set_option linter.unusedVariables false
set_option linter.unusedSimpArgs false
theorem grown2V {w:World} {k:Nat} (v0 v1:Value):w.grownBy ((w.setCell ⟨k,0,none⟩ v0).setCell ⟨k,1,none⟩ v1) (some k):=by
 refine grown_setCell ?_ _;refine grown_setCell ?_ _;exact World.grownBy.refl _ _
theorem grown5V {w:World} {k:Nat} (v0 v1 v2 v3 v4:Value):w.grownBy (((((w.setCell ⟨k,0,none⟩ v0).setCell ⟨k,1,none⟩ v1).setCell ⟨k,2,none⟩ v2).setCell ⟨k,3,none⟩ v3).setCell ⟨k,4,none⟩ v4) (some k):=by
 refine grown_setCell ?_ _;refine grown_setCell ?_ _;refine grown_setCell ?_ _;refine grown_setCell ?_ _;refine grown_setCell ?_ _;exact World.grownBy.refl _ _
theorem grown_belowV {w w':World} {B g:Nat} (h:w.grownBy w' (some g)) (hB:B<=w.heap.size) (hg:B<=g):Below B w w':=
 ⟨h.os,h.tape,h.output,h.size,fun k hk=>h.block k (by omega) (fun e=>by injection e with e;omega)⟩
theorem res5V {w0 w:World} {k:Nat} {c:Array Value} (hb:Below w0.heap.size w0 w) (hB:w.heap[k]?=some (.cells c 41 (0,0))) (h32:N32 c.toList) (hk:w0.heap.size<=k) (v0 v1 v2 v3 v4:Value) :
  Fr 41 w (((((w.setCell ⟨k,0,none⟩ v0).setCell ⟨k,1,none⟩ v1).setCell ⟨k,2,none⟩ v2).setCell ⟨k,3,none⟩ v3).setCell ⟨k,4,none⟩ v4)/\Below w0.heap.size w0 (((((w.setCell ⟨k,0,none⟩ v0).setCell ⟨k,1,none⟩ v1).setCell ⟨k,2,none⟩ v2).setCell ⟨k,3,none⟩ v3).setCell ⟨k,4,none⟩ v4):=
 ⟨.of_grown (grown5V v0 v1 v2 v3 v4) (fun g hg=>by injection hg with hg;subst hg;exact⟨_,hB,h32⟩),hb.trans ((grown_belowV (grown5V v0 v1 v2 v3 v4) (Nat.le_of_lt (by have:=lt_of_block hB;omega)) hk).mono (Nat.le_refl _))⟩
theorem res2V {w0 w:World} {k:Nat} {c:Array Value} (hb:Below w0.heap.size w0 w) (hB:w.heap[k]?=some (.cells c 26 (0,0))) (h32:N32 c.toList) (hk:w0.heap.size<=k) (v0 v1:Value) :
  Fr 26 w ((w.setCell ⟨k,0,none⟩ v0).setCell ⟨k,1,none⟩ v1)/\Below w0.heap.size w0 ((w.setCell ⟨k,0,none⟩ v0).setCell ⟨k,1,none⟩ v1):=
 ⟨.of_grown (grown2V v0 v1) (fun g hg=>by injection hg with hg;subst hg;exact⟨_,hB,h32⟩),hb.trans ((grown_belowV (grown2V v0 v1) (Nat.le_of_lt (by have:=lt_of_block hB;omega)) hk).mono (Nat.le_refl _))⟩
theorem n32_2 {b:Bool} {o:Option Addr} {l c:Nat}:N32 (#[Value.bool b,.slice o l c]:Array Value).toList:=by
 intro u hu z;simp only[List.mem_cons,List.not_mem_nil,or_false] at hu;rcases hu with rfl | rfl<;>(intro h;cases h)
theorem n32_5 {k:Int} {b d:Bool} {o p:Option Addr} {l c m q:Nat}:N32 (#[Value.int .i64 k,.bool b,.slice o l c,.bool d,.slice p m q]:Array Value).toList:=by
 intro u hu z;simp only[List.mem_cons,List.not_mem_nil,or_false] at hu;rcases hu with rfl | rfl | rfl | rfl | rfl<;>(intro h;cases h)
theorem newV (w:World) (c:Array Value) (T:TypeId):∃ w1 k,w.alloc (.cells c T)=w1/\w.heap.size=k/\Hid (Below w.heap.size w w1)/\Hid (w.heap.size<=k)/\Hid (w1.heap[k]?=some (.cells c T (0,0))):=
 ⟨_,_,rfl,rfl,Lib.hid ((Below.refl _ _).alloc (Nat.le_refl _) _),Lib.hid (Nat.le_refl _),Lib.hid (heap_alloc_new w _)⟩
theorem kBV {w w':World} {k:Nat} {o:Obj} (hb:Below w.heap.size w w') (h:Hid (w.heap[k]?=some o)):Hid (w'.heap[k]?=some o):=Lib.hid ((hb.block _ (lt_of_block h.out)).trans h.out)
theorem cells2V {w:World} {g:Nat} {T:TypeId} {a b:Value} (h:w.heap[g]?=some (.cells #[a,b] T (0,0))) :
  w.cell? ⟨g,0,none⟩=some a/\w.cell? ⟨g,1,none⟩=some b/\w.frozen? ⟨g,0,none⟩=false/\w.frozen? ⟨g,1,none⟩=false:=
 ⟨cell_at h 0 rfl,cell_at h 1 rfl,froz_at h 0,froz_at h 1⟩
theorem cells5V {w:World} {g:Nat} {T:TypeId} {a b c d e:Value} (h:w.heap[g]?=some (.cells #[a,b,c,d,e] T (0,0))) :
  (w.cell? ⟨g,0,none⟩=some a/\w.cell? ⟨g,1,none⟩=some b/\w.cell? ⟨g,2,none⟩=some c/\w.cell? ⟨g,3,none⟩=some d/\w.cell? ⟨g,4,none⟩=some e) /\
  w.frozen? ⟨g,0,none⟩=false/\w.frozen? ⟨g,1,none⟩=false/\w.frozen? ⟨g,2,none⟩=false/\w.frozen? ⟨g,3,none⟩=false/\w.frozen? ⟨g,4,none⟩=false:=
 ⟨⟨cell_at h 0 rfl,cell_at h 1 rfl,cell_at h 2 rfl,cell_at h 3 rfl,cell_at h 4 rfl⟩,froz_at h 0,froz_at h 1,froz_at h 2,froz_at h 3,froz_at h 4⟩
theorem copied_p (va:Value) (z:Int) (k:Nat) (w:World) (hx:GI w va z k) (hk:k<=600) :
  Calls Try.prog 51 #[va] w fun e w'=>∃ v,e=.returned v/\CI w' v z k/\Below w.heap.size w w':=by
 obtain⟨b,ao,l,c,n,rfl,hg,rfl⟩:=hx.shape;go_enter Try.func51,Try.ntmps51
 obtain⟨w1,k1,e1,ek1,hb1,hk1,HB1⟩:=newV w #[.bool b,.slice ao l c] 26;obtain⟨w2,k2,e2,ek2,hb2,hk2,HB2⟩:=newV w1 #[.bool false,.slice none 0 0] 26;replace HB1:=kBV hb2.out HB1;have hbt:=Lib.hid (hb1.out.trans (hb2.out.mono hb1.out.size));have hk0:w.heap.size<=k2:=Nat.le_trans hb1.out.size hk2.out;have HK:=Lib.hid hk0;have hg2:=Lib.hid (hg.below hbt.out);clear hk0 hg hx;obtain⟨c0,c1,f0,f1⟩:=cells2V HB1.out;go_wp2_with fail
 refine (big_any b _ n k w2 hg2.out (by omega)).mono ?_;rintro e w3 ⟨v,rfl,hc,hb3⟩;obtain⟨b2,o2,l2,d2,rfl⟩:=hc.shape;replace HB2:=kBV hb3 HB2;replace hbt:=Lib.hid (hbt.out.trans (hb3.mono hbt.out.size));have HC:=Lib.hid hc;clear hc hb3 c0 c1 f0 f1;obtain⟨c0,c1,f0,f1⟩:=cells2V HB2.out;go_wp2_with fail
 obtain⟨r1,r2⟩:=res2V hbt.out HB2.out n32_2 HK.out (.bool b2) (.slice o2 l2 d2);exact bodyPost_ret (v:=.agg #[.bool b2,.slice o2 l2 d2]) (by simp[results,Try.results51,go_sem,c0,c1]) rfl ⟨_,rfl,HC.out.fr r1,r2⟩
theorem ofInt_p (va:Value) (z:Int) (k:Nat) (w:World) (hx:GI w va z k) (hk:k<=600) :
  Calls Try.prog 28 #[va] w fun e w'=>∃ v,e=.returned v/\VC w' v (.I z)/\Below w.heap.size w w':=by
 obtain⟨b,ao,l,c,n,rfl,hg,rfl⟩:=hx.shape;go_enter Try.func28,Try.ntmps28
 obtain⟨w1,k1,e1,ek1,hb1,hk1,HB1⟩:=newV w #[.bool b,.slice ao l c] 26;obtain⟨w2,k2,e2,ek2,hb2,hk2,HB2⟩:=newV w1 #[.int .i64 0,.bool false,.slice none 0 0,.bool false,.slice none 0 0] 41;replace HB1:=kBV hb2.out HB1;have hbt:=Lib.hid (hb1.out.trans (hb2.out.mono hb1.out.size));have hk0:w.heap.size<=k2:=Nat.le_trans hb1.out.size hk2.out;have HK:=Lib.hid hk0;have hx2:=Lib.hid (hx.below hbt.out);clear hk0 hg hx;obtain⟨c0,c1,f0,f1⟩:=cells2V HB1.out;go_wp2_with fail
 refine (copied_p _ _ k w2 hx2.out hk).mono ?_;rintro e w3 ⟨v,rfl,hc,hb3⟩;obtain⟨o2,l2,d2,rfl,hv⟩:=VC.mkI hc hk;replace HB2:=kBV hb3 HB2;replace hbt:=Lib.hid (hbt.out.trans (hb3.mono hbt.out.size));have HC:=Lib.hid hv;clear hc hb3 hv c0 c1 f0 f1;obtain⟨⟨c0,c1,c2,c3,c4⟩,f0,f1,f2,f3,f4⟩:=cells5V HB2.out;go_wp2_with fail
 obtain⟨r1,r2⟩:=res5V hbt.out HB2.out n32_5 HK.out (.int .i64 0) (.bool (decide (sg b n<0))) (.slice o2 l2 d2) (.bool false) (.slice none 0 0);exact bodyPost_ret (v:=.agg #[.int .i64 0,.bool (decide (sg b n<0)),.slice o2 l2 d2,.bool false,.slice none 0 0]) (by simp[results,Try.results28,go_sem,c0,c1,c2,c3,c4]) rfl ⟨_,rfl,HC.out.fr (by decide) r1,r2⟩
theorem ofBool_p (b:Bool) (w:World) :
  Calls Try.prog 41 #[.bool b] w fun e w'=>∃ v,e=.returned v/\VC w' v (.B b)/\Below w.heap.size w w':=by
 go_enter Try.func41,Try.ntmps41
 obtain⟨w2,k2,e2,ek2,hb2,hk2,HB2⟩:=newV w #[.int .i64 0,.bool false,.slice none 0 0,.bool false,.slice none 0 0] 41;obtain⟨⟨c0,c1,c2,c3,c4⟩,f0,f1,f2,f3,f4⟩:=cells5V HB2.out;go_wp2_with fail
 obtain⟨r1,r2⟩:=res5V hb2.out HB2.out n32_5 hk2.out (.int .i64 1) (.bool false) (.slice none 0 0) (.bool b) (.slice none 0 0);exact bodyPost_ret (v:=.agg #[.int .i64 1,.bool false,.slice none 0 0,.bool b,.slice none 0 0]) (by simp[results,Try.results41,go_sem,c0,c1,c2,c3,c4]) rfl ⟨_,rfl,VC.mkB _ _,r2⟩
theorem sameInt_p (va vb:Value) (y z:Int) (k1 k2:Nat) (w:World) (hx:GI w va y k1) (hy:GI w vb z k2) (h1:k1<=1000) (h2:k2<=1000) :
  Calls Try.prog 37 #[va,vb] w fun e w'=>e=.returned (.bool (decide (y=z)))/\Below w.heap.size w w':=by
 obtain⟨b,ao,l,c,n,rfl,hg,rfl⟩:=hx.shape;obtain⟨d,bo,m,q,p,rfl,hg',rfl⟩:=hy.shape;go_enter Try.func37,Try.ntmps37
 obtain⟨w1,k1,e1,ek1,hb1,hk1,HB1⟩:=newV w #[.bool b,.slice ao l c] 26;obtain⟨w2,k2,e2,ek2,hb2,hk2,HB2⟩:=newV w1 #[.bool d,.slice bo m q] 26;replace HB1:=kBV hb2.out HB1;have hbt:=Lib.hid (hb1.out.trans (hb2.out.mono hb1.out.size));have hx2:=Lib.hid (hx.below hbt.out);have hy2:=Lib.hid (hy.below hbt.out);clear hg hg' hx hy;obtain⟨c0,c1,f0,f1⟩:=cells2V HB1.out;obtain⟨d0,d1,g0,g1⟩:=cells2V HB2.out;go_wp2_with fail
 refine (wcmp_any _ _ _ _ _ _ w2 hx2.out hy2.out (by omega) (by omega)).mono ?_;rintro e w3 ⟨rfl,hb3⟩;replace hbt:=Lib.hid (hbt.out.trans (hb3.mono hbt.out.size))
 have hs:(sgnZ (sg b n - sg d p)==0)=decide (sg b n=sg d p):=by
  unfold sgnZ
  by_cases h:sg b n=sg d p
  ·rw[if_pos (by omega),decide_eq_true h];rfl
  rw[if_neg (by omega),decide_eq_false h];split<;>rfl
 go_wp2_with fail
 go_ret
 exact⟨by simp only[decide_eq_true_eq] at hs ⊢;rw[<-hs];rfl,hbt.out⟩
theorem nr0 (w:World):NR w n0:=⟨.slice none 0 0,rfl,by
 rw[show dig L32 n0.z.natAbs=[] from by simp[n0,dig_zero]]
 exact⟨none,0,rfl,Nat.le_refl _,Nat.zero_le _,fun _=>rfl,fun i hi=>absurd hi (Nat.not_lt_zero _)⟩,lt_pow_more (k:=0) (k':=600) (by decide) (by decide)⟩
def v0:VU:=⟨0,n0,false,none,0,0,.I 0⟩
theorem vr0 (w:World):VR w v0:=⟨rfl,rfl,nr0 w,rfl,rfl,rfl,rfl⟩
section
variable {α:Type} {E:El α}
theorem made_flat (E:El α) (a:α) (ha:E.f a=E.z.cells.toList) (n:Nat):(madeCells E.z.cells (n*E.n)).toList=(List.replicate n a).flatMap E.f:=by
 apply List.ext_getElem?
 intro j;have hp:=E.pos;have hl:=flat_lenV E.f E.len (List.replicate n a);rw[List.length_replicate] at hl
 by_cases hj:j<n*E.n
 ·have hi:j / E.n<n:=(Nat.div_lt_iff_lt_mul hp).2 hj;have hm:j % E.n<E.n:=Nat.mod_lt _ hp;have hd:j / E.n*E.n+j % E.n=j:=by rw[Nat.mul_comm];exact Nat.div_add_mod j E.n
  have h1:=flat_atV E.f E.len (List.replicate n a) (j / E.n) (j % E.n) (by simpa using hi) hm;rw[hd,List.getElem_replicate,ha] at h1;rw[h1];have hms:j % E.z.cells.size<E.z.cells.size:=Nat.mod_lt _ (by rw[E.zs];exact hp);rw[Array.getElem?_toList];simp only[madeCells,Array.getElem?_map,Array.getElem?_range,hj,if_true,Option.map_some];rw[getElem!_pos E.z.cells _ hms];simp only[<-E.zs]
  simp
 rw[List.getElem?_eq_none (by simp[size_madeCells];omega),List.getElem?_eq_none (by rw[hl];omega)]
theorem wpList_make_El (E:El α) (a0:α) (ha:E.f a0=E.z.cells.toList) (hR:∀ w,E.R w a0) (w:World) {ops:Array Oper} {rest:List Oper} {o:Oper} {a:Act} {Q:Exit->Act->World->Prop}
  (hg:o.guard=none) (l c:Operand) (hop:o.op=Op.makeSlice E.t l c) (B:Nat) (kl kc:IntKind) (L C:Int) (n:Nat) (hl:a.eval l=.int kl L) (hc:a.eval c=.int kc C) (hL:L=(n:Int)) (hC:C=(n:Int)) (hn:n<=1000000) (hB:B<=w.heap.size)
  (hK:∀ w',E.Row w' B (.slice (some ⟨w.heap.size,0,none⟩) n n) (List.replicate n a0)->Below w.heap.size w w'->wpList Try.prog ops Q rest (a.put o.dst (.slice (some ⟨w.heap.size,0,none⟩) n n)) w') :
  wpList Try.prog ops Q (o::rest) a w:=by
 obtain⟨i,hi,hz,hz1,hz2⟩:=info_parts E.info;have hby:=E.by_;refine wpList_make_full w hg l c E.t hop B E.e i E.z E.n E.ht hi hz hz1 kl kc L C n hl hc hL hC (by rw[hz2];exact Nat.le_trans (Nat.mul_le_mul hby hn) (by decide)) (by unfold maxLen;omega) hB ?_;intro w' h1 h2;have h3:=h1;rw[made_flat E a0 ha] at h3;refine hK w' ⟨?_,?_,?_⟩ ⟨h2.os,h2.tape,h2.output,h2.size,fun k hk=>h2.block k hk (by intro e;cases e)⟩
 ·rw[List.length_replicate];exact h3
 ·intro g hg;rcases h1.2 with ⟨h,_⟩ | ⟨q,cap,cur,hv,_,hq,_,_,hcs,htk⟩
  ·cases h
  injection hv with e1 e2 e3;injection e1 with e1;subst e3;injection hg with hg;have hqg:q=g:=by rw[<-hg,e1]
  subst hqg;refine⟨cur,hq,?_⟩;rw[List.take_of_length_le (by rw[Array.length_toList,hcs];exact Nat.le_refl _),made_flat E a0 ha] at htk;rw[htk];exact N32.flat E.n32
 intro q hq;rw[List.eq_of_mem_replicate hq];exact hR w'
theorem set_flat2 (l:List NU) (i:Nat) (a:NU) (hi:i<l.length):((l.flatMap nC).set (i*2) (.bool (decide (a.z<0)))).set (i*2+1) (.slice a.o a.l a.c)=(l.set i a).flatMap nC:=by
 induction l generalizing i with
 | nil=>simp at hi
 | cons b l ih =>
  cases i with
  | zero=>rfl
  | succ i =>
   have h1:=ih i (by simpa using hi);simp only[List.flatMap_cons,nC,List.cons_append,List.nil_append,List.set_cons_succ,Nat.add_mul,Nat.one_mul,show i*2+2=i*2+1+1 from rfl,show i*2+1+1+1=(i*2+1)+1+1 from rfl];rw[<-h1]
theorem n32_set {c:Array Value} (h:N32 c.toList) (i:Nat) {v:Value} (hv:∀ z,v ≠ .int .u32 z):N32 (c.setIfInBounds i v).toList:=by
 intro u hu;rw[Array.toList_setIfInBounds] at hu;rcases List.mem_or_eq_of_mem_set hu with hu | rfl
 ·exact h u hu
 exact hv
theorem El.Row.put {w:World} {B g n kc:Nat} {el:List α} (h:E.Row w B (.slice (some ⟨g,0,none⟩) n kc) el) {w':World} (i:Nat) (a:α) (hg:w.grownBy w' (some g)) (hown:w'.ownsRow B E.e E.n (.slice (some ⟨g,0,none⟩) n kc) n ((el.set i a).flatMap E.f))
  (h32:∃ c,w'.heap[g]?=some (.cells c E.e (0,0))/\N32 c.toList) (hn:n=el.length) (ha:E.R w a):E.Row w' B (.slice (some ⟨g,0,none⟩) n kc) (el.set i a)/\Fr E.e w w':=by
 have f:Fr E.e w w':=.of_grown hg (fun q hq=>by injection hq with hq;subst hq;exact h.n32 g rfl);refine⟨⟨by rw[List.length_set,<-hn];exact hown,fun q hq=>?_,fun q hq=>?_⟩,f⟩
 ·injection hq with hq;subst hq;exact h32
 rcases List.mem_or_eq_of_mem_set hq with hq | rfl
 ·exact E.fr E.own f (h.rd q hq)
 exact E.fr E.own f ha
end
theorem Row.set2 {w:World} {B g n kc:Nat} {el:List NU} (h:nE.Row w B (.slice (some ⟨g,0,none⟩) n kc) el) (i:Nat) (hi:i<el.length) (hn:n=el.length) (a:NU) (ha:NR w a) :
  nE.Row ((w.setCell ⟨g,i*2,none⟩ (.bool (decide (a.z<0)))).setCell ⟨g,i*2+1,none⟩ (.slice a.o a.l a.c)) B (.slice (some ⟨g,0,none⟩) n kc) (el.set i a)/\Fr nE.e w ((w.setCell ⟨g,i*2,none⟩ (.bool (decide (a.z<0)))).setCell ⟨g,i*2+1,none⟩ (.slice a.o a.l a.c))/\w.grownBy ((w.setCell ⟨g,i*2,none⟩ (.bool (decide (a.z<0)))).setCell ⟨g,i*2+1,none⟩ (.slice a.o a.l a.c)) (some g):=by
 have hg:w.grownBy ((w.setCell ⟨g,i*2,none⟩ (.bool (decide (a.z<0)))).setCell ⟨g,i*2+1,none⟩ (.slice a.o a.l a.c)) (some g):=by
  refine grown_setCell ?_ _;refine grown_setCell ?_ _;exact World.grownBy.refl _ _
 have h0:=h.own;rw[<-hn] at h0;have h1:=(World.ownsRow.stored (World.ownsRow.stored h0 (i*2) (.bool (decide (a.z<0)))).1 (i*2+1) (.slice a.o a.l a.c)).1;have h2:=set_flat2 el i a hi;have e:nE.f=nC:=rfl;rw[e,h2] at h1;obtain⟨c,hc,h32⟩:=h.n32 g rfl;obtain⟨q1,q2⟩:=h.put i a hg h1 ⟨_,heap_setCell_same _ g _ _ _ _ (heap_setCell_same _ g _ _ _ _ hc),n32_set (n32_set h32 _ (by intro z e;cases e)) _ (by intro z e;cases e)⟩ hn ha;exact⟨q1,q2,hg⟩
theorem NL.cells {w:World} {ko:Option Addr} {n kc:Nat} {zs:List Int} (h:NL w (.slice ko n kc) zs):(n=zs.length/\n<=kc/\kc<=maxLen)/\∀ i (hi:i<zs.length),∃ a o l c,ko=some a/\w.cell? (a.add (i*2))=some (.bool (decide (zs[i]<0)))/\w.cell? ⟨(a.add (i*2)).block,(a.add (i*2)).off+1,none⟩=some (.slice o l c)/\CI w (.agg #[.bool (decide (zs[i]<0)),.slice o l c]) zs[i] 600:=by
 obtain⟨ko',kc',e,⟨h1,h2⟩,h3⟩:=h.form;injection e with e1 e2 e3;subst e1;subst e2;subst e3;exact⟨⟨rfl,h1,h2⟩,h3⟩
theorem take_set_map {el:List NU} {zs:List Int} {j:Nat} {n:NU} (h:(el.take j).map (·.z)=zs.take j) (hj:j<el.length) (hz:j<zs.length) (hn:n.z=zs[j]):((el.set j n).take (j+1)).map (·.z)=zs.take (j+1):=by
 rw[List.take_succ_eq_append_getElem (by simpa using hj),List.take_set_of_le (Nat.le_refl _),List.getElem_set_self,List.map_append,h,List.take_succ_eq_append_getElem hz]
 simp[hn]
theorem Row.at2 {w:World} {B g n kc:Nat} {el:List NU} (h:nE.Row w B (.slice (some ⟨g,0,none⟩) n kc) el) (hn:n=el.length) {i:Nat} (hi:i<n):∃ q:NU,w.cell? ⟨g,i*2,none⟩=some (.bool (decide (q.z<0)))/\w.cell? ⟨g,i*2+1,none⟩=some (.slice q.o q.l q.c)/\w.frozen? ⟨g,i*2,none⟩=false/\w.frozen? ⟨g,i*2+1,none⟩=false:=by
 have h0:=h.own;rw[<-hn] at h0;refine⟨el[i]'(by omega),?_,?_,World.ownsRow.frozenAt h0 _,World.ownsRow.frozenAt h0 _⟩
 ·rw[World.ownsRow.cellAt h0 (i*2) (by show i*2<n*2;omega)];exact flat_atV (n:=2) nC (fun _=>rfl) el i 0 (by omega) (by decide)
 rw[World.ownsRow.cellAt h0 (i*2+1) (by show i*2+1<n*2;omega)];exact flat_atV (n:=2) nC (fun _=>rfl) el i 1 (by omega) (by decide)
def OLrel (w:World) (k1 k2 k3 n:Nat) (zs:List Int) (i:Value) (wr:World):Prop:=
 ∃ (j:Nat) (el:List NU),i=.int .i64 (j:Nat)/\j<=n/\Hid (el.length=n/\(el.take j).map (·.z)=zs.take j)/\Hid (nE.Row wr w.heap.size (.slice (some ⟨k2,0,none⟩) n n) el) /\
  Hid (wr.heap[k1]?=some (.cells #[.int .i64 0,.bool false,.slice none 0 0,.bool false,.slice none 0 0] 41 (0,0)))/\Hid (wr.heap[k3]?=some (.cells #[.int .i64 2,.bool false,.slice none 0 0,.bool false,.slice (some ⟨k2,0,none⟩) n n] 41 (0,0)))/\Hid (Below w.heap.size w wr)
theorem ofList_p (va:Value) (zs:List Int) (w:World) (hx:NL w va zs) (hlen:zs.length<=100000) :
  Calls Try.prog 40 #[va] w fun e w'=>∃ v,e=.returned v/\VC w' v (.L zs)/\Below w.heap.size w w':=by
 obtain⟨ko,kc,rfl,⟨hq1,hq2⟩,-⟩:=hx.form;have HX:=Lib.hid hx;clear hx;obtain⟨n,hn⟩:∃ n,n=zs.length:=⟨_,rfl⟩
 rw[<-hn] at hlen hq1 HX ⊢;have hmx:kc<=9223372036854775807:=hq2;have HN:=Lib.hid hn;clear hn;go_enter Try.func40,Try.ntmps40
 obtain⟨x1,k1,e1,ek1,hb1,hk1,HB1⟩:=newV w #[.int .i64 0,.bool false,.slice none 0 0,.bool false,.slice none 0 0] 41;obtain⟨k2,hk2'⟩:∃ k,x1.heap.size=k:=⟨_,rfl⟩
 have hk02:w.heap.size<=k2:=by rw[<-hk2'];exact hb1.out.size
 have hk12:k1<k2:=by rw[<-hk2'];exact lt_of_block HB1.out
 go_wp2_with (first | (at_make;refine wpList_make_El nE n0 rfl nr0 _ rfl _ _ rfl w.heap.size _ _ _ _ n rfl rfl (by first | rfl | simp) (by first | rfl | simp) (by omega) hb1.out.size ?_;intro y2 hrow hb2) | fail)
 rw[hk2'] at hrow hb2;replace hb2:Below x1.heap.size x1 y2:=by rw[hk2'];exact hb2
 obtain⟨x3,k3,e3,ek3,hb3,hk3,HB3⟩:=newV y2 #[.int .i64 2,.bool false,.slice none 0 0,.bool false,.slice (some ⟨k2,0,none⟩) n n] 41;replace HB1:=kBV hb3.out (kBV hb2 HB1);have HW:=Lib.hid (hb1.out.trans ((hb2.trans (hb3.out.mono hb2.size)).mono hb1.out.size));have HR:=Lib.hid (hrow.below hb3.out)
 skip
 have h23:k2<k3:=by rw[<-ek3];exact (hrow.ge rfl).2
 have h23:=h23;clear hrow hb2
 try rw[hk2']
 rw[e3,ek3];clear e3 ek3 e1 ek1
 go_loopw [12] (OLrel w k1 k2 k3 n zs) (fun i _=>n - (intOf i).toNat)
 case atStart=>exact⟨0,_,rfl,Nat.zero_le _,Lib.hid ⟨List.length_replicate,rfl⟩,HR,HB1,HB3,HW⟩
 case round =>
  clear HR HB1 HB3 HW hb1 hb3;obtain⟨j,el,rfl,hj,HE,HR,HB1,HB3,HW⟩:=hrel
  by_cases hlt:j<n
  ·have hz:j<zs.length:=by rw[<-HN.out];exact hlt
   obtain⟨a,o,l,c,rfl,c0,c1,hc⟩:=(HX.out.below HW.out).cells.2 j hz;obtain⟨z,hzz⟩:∃ z,z=zs[j]:=⟨_,rfl⟩
   rw[<-hzz] at c0 hc;have HZ:=Lib.hid hzz;have HC:=Lib.hid hc;clear hzz hc;obtain⟨x11,k5,e5,ek5,hb5,hk5,HB5⟩:=newV wr #[.bool (decide (z<0)),.slice o l c] 26;replace HB1:=kBV hb5.out HB1;replace HB3:=kBV hb5.out HB3;replace HC:=Lib.hid (HC.out.below hb5.out);replace HR:=Lib.hid (HR.out.below hb5.out);replace HW:=Lib.hid (HW.out.trans (hb5.out.mono HW.out.size));go_upto_region 5 with fail
   clear c0 c1;have hlt_3:=lt_of_block HB3.out;have hlt_5:=lt_of_block HB5.out;have hog:Hid (∀ q,q<0->(fun q=>0) q<x11.heap.size):=Lib.hid (fun q h=>absurd h (Nat.not_lt_zero _));refine R7.region (by kernel_rfl) [[],[0],[],[],[3],[0,1,2,3,4],[0,1,2,3,4,5]] [] [] (fun q=>0) 0 6 (by kernel_rfl) (by kernel_rfl) (by rfl) hog.out (fun q q' h h' hn=>absurd hn (by omega)) ?_;refine R7.Chain.det ?_ (by rfl) (fun T xs wr hA=>?_) ?_
   rotate_left 1
   ·have e3:=hA.pre 3 (by kernel_rfl);simp only[gsa,gsc,gsz] at e3;clear hA;refine⟨(by rfl),?_⟩;go_simp<;>(try with_reducible rfl)
   refine R7.Chain.det ?_ (by rfl) (fun T xs wr hA=>?_) ?_
   rotate_left 1
   ·have e17:=hA.tm 0 17 (by rfl) (by rfl);have f17:xs 0=_:=hA.fa 0 (by rfl)
    (try simp (disch:=first | rfl | decide) only [R7.mask_in] at f17)
    rw[f17] at e17;clear f17;have hBq:wr.heap[k3]?=_:=(hA.bl _ hlt_3 (fun q h=>absurd h (Nat.not_lt_zero _))).trans HB3.out;have q0:=cell_at (v:=.int .i64 2) hBq 0 rfl;have q1:=cell_at (v:=.bool false) hBq 1 rfl;have q2:=cell_at (v:=.slice none 0 0) hBq 2 rfl;have q3:=cell_at (v:=.bool false) hBq 3 rfl;have q4:=cell_at (v:=.slice (some ⟨k2,0,none⟩) n n) hBq 4 rfl;clear hBq;clear hA;refine⟨(by rfl),?_⟩;go_simp<;>(try with_reducible rfl)
   refine R7.Chain.det ?_ (by rfl) (fun T xs wr hA=>?_) ?_
   rotate_left 1
   ·have e4:=hA.pre 4 (by kernel_rfl);simp only[gsa,gsc,gsz] at e4;clear hA;refine⟨(by rfl),?_⟩;go_simp<;>(try with_reducible rfl)
   refine R7.Chain.det ?_ (by rfl) (fun T xs wr hA=>?_) ?_
   rotate_left 1
   ·have e5:=hA.pre 5 (by kernel_rfl);simp only[gsa,gsc,gsz] at e5;have hBq:wr.heap[k5]?=_:=(hA.bl _ hlt_5 (fun q h=>absurd h (Nat.not_lt_zero _))).trans HB5.out;have q0:=cell_at (v:=.bool (decide (z<0))) hBq 0 rfl;have q1:=cell_at (v:=.slice o l c) hBq 1 rfl;clear hBq;clear hA;refine⟨(by rfl),?_⟩;go_simp<;>(try with_reducible rfl)
   refine R7.Chain.call (fun xs v w=>∃ m:NU,v=nV m/\m.z=z/\NR w m) (fun _ _ _ _ h hb=>by obtain⟨m,h1,h2,h3⟩:=h;exact⟨m,h1,h2,nE.below h3 hb⟩) (fun _ _ _ _ _ _ h _=>by obtain⟨q,hq,_⟩:=h;exact absurd hq (Nat.not_lt_zero _)) (by rfl) (fun T xs wr hA=>?_) ?_
   ·have hsw:=(hA.be 0 (Nat.zero_le _) (fun _ _=>Nat.zero_le _)).size;have e20:=hA.tm 3 20 (by rfl) (by rfl);have f20:xs 3=_:=hA.fa 3 (by rfl)
    (try simp (disch:=first | rfl | decide) only [R7.mask_in] at f20)
    rw[f20] at e20;clear f20;have hbw:=undrew (hA.be x11.heap.size (Nat.le_refl _) (fun q h=>absurd h (Nat.not_lt_zero q)));clear hA;refine⟨(by rfl),fun K hK=>?_⟩;go_simp
    refine (copied_p _ z 600 wr (HC.out.below hbw).gi (by decide)).mono ?_;rintro e w' ⟨v,rfl,hc,hb'⟩;exact hK.out _ _ (ci_nu hc (by decide)) hb'
   refine R7.Chain.det ?_ (by rfl) (fun T xs wr hA=>?_) ?_
   rotate_left 1
   ·have e18:=hA.tm 1 18 (by rfl) (by rfl);have f18:xs 1=_:=hA.fa 1 (by rfl)
    (try simp (disch:=first | rfl | decide) only [R7.mask_in] at f18)
    rw[f18] at e18;clear f18;have e19:=hA.tm 2 19 (by rfl) (by rfl);have f19:xs 2=_:=hA.fa 2 (by rfl)
    (try simp (disch:=first | rfl | decide) only [R7.mask_in] at f19)
    rw[f19] at e19;clear f19;clear hA;refine⟨(by rfl),?_⟩;go_simp<;>(try with_reducible rfl)
   refine R7.Chain.done (fun xs x12 hL=>?_);obtain⟨⟨hbe,hbl⟩,hf,-,-⟩:=hL;have f0:xs 0=_:=hf 0 (by decide)
   (try simp (disch:=first | rfl | decide) only [R7.mask_in] at f0)
   have f1:xs 1=_:=hf 1 (by decide)
   (try simp (disch:=first | rfl | decide) only [R7.mask_in] at f1)
   have f2:xs 2=_:=hf 2 (by decide)
   (try simp (disch:=first | rfl | decide) only [R7.mask_in] at f2)
   have f3:xs 3=_:=hf 3 (by decide)
   (try simp (disch:=first | rfl | decide) only [R7.mask_in] at f3)
   have F4:∃ m:NU,(xs 4)=nV m/\m.z=z/\NR x12 m:=hf 4 (by decide);have f5:xs 5=_:=hf 5 (by decide)
   (try simp (disch:=first | rfl | decide) only [R7.mask_in] at f5)
   have hb0:Below 0 x11 x12:=undrew (hbe 0 (Nat.zero_le _) (fun _ _=>Nat.zero_le _));have hgr:∀ j,j<x11.heap.size->(∀ q,q<0->(fun q=>0) q≠j)->x12.heap[j]?=x11.heap[j]?:=hbl;clear hbe hbl hf;have hb:Below x11.heap.size x11 x12:=⟨hb0.os,hb0.tape,hb0.output,hb0.size,fun q hq=>hgr q hq (fun q h=>absurd h (Nat.not_lt_zero _))⟩
   refine R7.rest_list (by decide) (by kernel_rfl) ?_;simp only[R7.fill,t1_,t2_,t3_,t4_,t5_,t6_,t7_,f0,f1,f2,f3,f5];clear hb0 hgr hog hlt_3 hlt_5 f0 f1 f2 f3 f5;replace HB1:=kBV hb HB1;replace HB3:=kBV hb HB3;replace HB5:=kBV hb HB5;replace HC:=Lib.hid (HC.out.below hb);replace HR:=Lib.hid (HR.out.below hb);replace HW:=Lib.hid (HW.out.trans (hb.mono HW.out.size));replace hb:=Lib.hid hb;obtain⟨m,hv,hm,hr⟩:=F4;rw[show (0+1+1+1+1:Nat)=4 from rfl,hv];have HM:=Lib.hid hm;have HMR:=Lib.hid hr;have hel:=HE.out.1;have HEL:=Lib.hid hel;obtain⟨q,g0,g1,g2,g3⟩:=Row.at2 HR.out hel.symm hlt;clear hv hm hr hel;simp only[nV];go_wp2_with fail
   go_roundw
   case rel =>
    obtain⟨r1,r2,r3⟩:=Row.set2 HR.out j (by rw[HEL.out];exact hlt) HEL.out.symm m HMR.out
    skip
    refine⟨j+1,el.set j m,by go_num,hlt,Lib.hid ⟨by rw[List.length_set];exact HEL.out,take_set_map HE.out.2 (by rw[HEL.out];exact hlt) hz (by rw[HM.out,HZ.out])⟩,Lib.hid r1,Lib.hid ((r3.block _ (lt_of_block HB1.out) (fun e=>by injection e with e;omega)).trans HB1.out),Lib.hid ((r3.block _ (lt_of_block HB3.out) (fun e=>by injection e with e;omega)).trans HB3.out),Lib.hid (HW.out.trans ((grown_belowV r3 HW.out.size hk02).mono (Nat.le_refl _)))⟩
   case measure=>simp[intOf];omega
  have e:j=n:=by omega
  subst e;clear hlt;have c0:=cell_at (v:=.int .i64 0) HB1.out 0 rfl;have fc0:=froz_at HB1.out 0;have c1:=cell_at (v:=.bool false) HB1.out 1 rfl;have fc1:=froz_at HB1.out 1;have c2:=cell_at (v:=.slice none 0 0) HB1.out 2 rfl;have fc2:=froz_at HB1.out 2;have c3:=cell_at (v:=.bool false) HB1.out 3 rfl;have fc3:=froz_at HB1.out 3;have c4:=cell_at (v:=.slice none 0 0) HB1.out 4 rfl;have fc4:=froz_at HB1.out 4;have d0:=cell_at (v:=.int .i64 2) HB3.out 0 rfl;have fd0:=froz_at HB3.out 0;have d1:=cell_at (v:=.bool false) HB3.out 1 rfl;have fd1:=froz_at HB3.out 1;have d2:=cell_at (v:=.slice none 0 0) HB3.out 2 rfl;have fd2:=froz_at HB3.out 2;have d3:=cell_at (v:=.bool false) HB3.out 3 rfl;have fd3:=froz_at HB3.out 3;have d4:=cell_at (v:=.slice (some ⟨k2,0,none⟩) j j) HB3.out 4 rfl;have fd4:=froz_at HB3.out 4;go_wp2_with fail
  obtain⟨r1,r2⟩:=res5V HW.out HB1.out n32_5 hk1.out (.int .i64 2) (.bool false) (.slice none 0 0) (.bool false) (.slice (some ⟨k2,0,none⟩) j j);have ht:NL wr (.slice (some ⟨k2,0,none⟩) j j) zs:=⟨el,HR.out.at,by have e:=HE.out.2;rwa [<-HE.out.1,List.take_length,HE.out.1,HN.out,List.take_length] at e⟩
  exact bodyPost_ret (v:=.agg #[.int .i64 2,.bool false,.slice none 0 0,.bool false,.slice (some ⟨k2,0,none⟩) j j]) (by simp[results,Try.results40,go_sem,c0,c1,c2,c3,c4]) rfl ⟨_,rfl,(VC.mkL ht).fr (by decide) r1,r2⟩
theorem take_nextV {α:Type} {L M:List α} {k:Nat} (h:L.take k=M.take k) (h1:k<L.length) (h2:k<M.length) (e:L[k]=M[k]):L.take (k+1)=M.take (k+1):=by
 rw[List.take_succ_eq_append_getElem h1,List.take_succ_eq_append_getElem h2,h,e]
theorem equalI_p (va vb:Value) (L M:List Int) (w:World) (h1:NL w va L) (h2:NL w vb M) :
  Calls Try.prog 38 #[va,vb,.func (.func 37) #[] #[]] w fun e w'=>e=.returned (.bool (decide (L=M)))/\Below w.heap.size w w':=by
 obtain⟨ko,kc,rfl,⟨hq1,hq2⟩,-⟩:=h1.form;obtain⟨po,pc,rfl,⟨hr1,hr2⟩,-⟩:=h2.form;have hmx:kc<=9223372036854775807:=hq2;have hmy:pc<=9223372036854775807:=hr2;have HX:=Lib.hid h1;have HY:=Lib.hid h2;clear h1 h2 hq2 hr2
 by_cases hl:L.length=M.length
 ·have hne:(((L.length:Nat):Int) != ((M.length:Nat):Int))=false:=by rw[hl];exact bne_self_eq_false _
  have HL:=Lib.hid hl;obtain⟨n,hn⟩:∃ n,n=L.length:=⟨_,rfl⟩
  rw[<-hn] at HL hne hq1 HX ⊢;obtain⟨n',hn'⟩:∃ n,n=M.length:=⟨_,rfl⟩
  rw[<-hn'] at HL hne hr1 HY ⊢;have HN:=Lib.hid hn;have HN':=Lib.hid hn';clear hl hn hn';go_enter Try.func38,Try.ntmps38
  go_wp2_with fail
  clear hne
  go_loopw [17] (fun i wr=>∃ j:Nat,i=.int .i64 (j:Nat)/\j<=n/\Hid (L.take j=M.take j)/\Hid (Below w.heap.size w wr)) (fun i _=>n - (intOf i).toNat)
  case atStart=>exact⟨0,rfl,Nat.zero_le _,Lib.hid rfl,Lib.hid (Below.refl _ _)⟩
  case round =>
   obtain⟨j,rfl,hj,HT,HW⟩:=hrel
   by_cases hlt:j<n
   ·have hz:j<L.length:=by rw[<-HN.out];exact hlt
    have hz2:j<M.length:=by rw[<-HN'.out,<-HL.out];exact hlt
    have hlt2:j<n':=by rw[<-HL.out];exact hlt
    obtain⟨a,o,l,c,rfl,c0,c1,hc⟩:=(HX.out.below HW.out).cells.2 j hz;obtain⟨b,p,m,q,rfl,d0,d1,hd⟩:=(HY.out.below HW.out).cells.2 j hz2;obtain⟨x,hxx⟩:∃ x,x=L[j]:=⟨_,rfl⟩
    obtain⟨y,hyy⟩:∃ y,y=M[j]:=⟨_,rfl⟩
    rw[<-hxx] at c0 hc;rw[<-hyy] at d0 hd;obtain⟨sx,hsx⟩:∃ s,s=decide (x<0):=⟨_,rfl⟩
    obtain⟨sy,hsy⟩:∃ s,s=decide (y<0):=⟨_,rfl⟩
    rw[<-hsx] at c0 hc;rw[<-hsy] at d0 hd;clear hsx hsy;have HXX:=Lib.hid hxx;have HYY:=Lib.hid hyy;have HC:=Lib.hid hc;have HD:=Lib.hid hd;clear hxx hyy hc hd;obtain⟨x1,k8,e8,ek8,hb8,hk8,HB8⟩:=newV wr #[.bool sx,.slice o l c] 26;replace HC:=Lib.hid (HC.out.below hb8.out);replace HD:=Lib.hid (HD.out.below hb8.out);replace HW:=Lib.hid (HW.out.trans (hb8.out.mono HW.out.size));rw[<-hb8.out.cell (by have:=cell_lt d0;exact this)] at d0;rw[<-hb8.out.cell (by have:=cell_lt d1;exact this)] at d1;obtain⟨x2,k9,e9,ek9,hb9,hk9,HB9⟩:=newV x1 #[.bool sy,.slice p m q] 26;replace HB8:=kBV hb9.out HB8;replace HC:=Lib.hid (HC.out.below hb9.out);replace HD:=Lib.hid (HD.out.below hb9.out);replace HW:=Lib.hid (HW.out.trans (hb9.out.mono HW.out.size));have g0:=cell_at (v:=.bool sx) HB8.out 0 rfl;have fg0:=froz_at HB8.out 0
    have g1:=cell_at (v:=.slice o l c) HB8.out 1 rfl;have fg1:=froz_at HB8.out 1;have i0:=cell_at (v:=.bool sy) HB9.out 0 rfl;have fi0:=froz_at HB9.out 0;have i1:=cell_at (v:=.slice p m q) HB9.out 1 rfl;have fi1:=froz_at HB9.out 1
    by_cases he:x=y
    ·have hdd:decide (x=y)=true:=by simp[he]
     have HE:=Lib.hid he;clear he;go_wp2_with fail
     refine (sameInt_p _ _ x y 600 600 x2 HC.out.gi HD.out.gi (by decide) (by decide)).mono ?_;rintro e w3 ⟨rfl,hb⟩;rw[hdd];replace HW:=Lib.hid (HW.out.trans (hb.mono HW.out.size));clear hb hdd;go_wp2_with fail
     go_roundw
     case rel=>exact⟨j+1,by go_num,hlt,Lib.hid (take_nextV HT.out hz hz2 (by rw[<-HXX.out,<-HYY.out];exact HE.out)),HW⟩
     case measure=>simp[intOf];omega
    have hdd:decide (x=y)=false:=by simp[he]
    have HE:=Lib.hid he;clear he;go_wp2_with fail
    refine (sameInt_p _ _ x y 600 600 x2 HC.out.gi HD.out.gi (by decide) (by decide)).mono ?_;rintro e w3 ⟨rfl,hb⟩;rw[hdd];replace HW:=Lib.hid (HW.out.trans (hb.mono HW.out.size));clear hb hdd;go_wp2_with fail
    go_ret
    refine⟨?_,HW.out⟩;rw[decide_eq_false (fun e=>HE.out (by rw[HXX.out,HYY.out];subst e;rfl))];rfl
   go_wp2_with fail
   go_ret
   refine⟨?_,HW.out⟩;have e:=HT.out;rw[show j=n by omega,HN.out,List.take_length,<-HN.out,HL.out,HN'.out,List.take_length] at e;rw[decide_eq_true e];rfl
 have hne:(((L.length:Nat):Int) != ((M.length:Nat):Int))=true:=by rw[bne_iff_ne];omega
 have HL:=Lib.hid hl;clear hl;go_enter Try.func38,Try.ntmps38
 go_wp2_with fail
 go_ret
 refine⟨?_,Below.refl _ _⟩;rw[decide_eq_false (fun e=>HL.out (by rw[e]))];rfl
theorem vc_cases {w:World} {v:Value} {x:V} (h:VC w v x):(∃ z o l c,x=.I z/\v=.agg #[.int .i64 0,.bool (decide (z<0)),.slice o l c,.bool false,.slice none 0 0]/\CI w (.agg #[.bool (decide (z<0)),.slice o l c]) z 600)\/(∃ b,x=.B b/\v=.agg #[.int .i64 1,.bool false,.slice none 0 0,.bool b,.slice none 0 0]) \/
  (∃ l o n c,x=.L l/\v=.agg #[.int .i64 2,.bool false,.slice none 0 0,.bool false,.slice o n c]/\NL w (.slice o n c) l):=by
 cases x with
 | I z=>obtain⟨o,l,c,h1,h2⟩:=h.int;exact .inl ⟨z,o,l,c,rfl,h1,h2⟩
 | B b=>exact .inr (.inl ⟨b,rfl,h.bool⟩)
 | L l=>obtain⟨o,n,c,h1,h2⟩:=h.list;exact .inr (.inr ⟨l,o,n,c,rfl,h1,h2⟩)
theorem same_p (va vb:Value) (x y:V) (w:World) (h1:VC w va x) (h2:VC w vb y) :
  Calls Try.prog 11 #[va,vb] w fun e w'=>e=.returned (.bool (decide (x=y)))/\Below w.heap.size w w':=by
 rcases vc_cases h1 with ⟨z,o,l,c,rfl,rfl,hx⟩ | ⟨b,rfl,rfl⟩ | ⟨zs,o,n,c,rfl,rfl,hx⟩<;>rcases vc_cases h2 with ⟨z',o',l',c',rfl,rfl,hy⟩ | ⟨b',rfl,rfl⟩ | ⟨ys,o',n',c',rfl,rfl,hy⟩
 ·clear h1 h2;have HX:=Lib.hid hx;have HY:=Lib.hid hy;clear hx hy;go_enter Try.func11,Try.ntmps11
  have HW:=Lib.hid (Below.refl w.heap.size w);obtain⟨x1,k1,e1,ek1,hb1,hk1,HB1⟩:=newV w #[.int .i64 0,.bool (decide (z<0)),.slice o l c,.bool false,.slice none 0 0] 41;replace HX:=Lib.hid (HX.out.below hb1.out);replace HY:=Lib.hid (HY.out.below hb1.out);replace HW:=Lib.hid (HW.out.trans (hb1.out.mono HW.out.size));obtain⟨x2,k2,e2,ek2,hb2,hk2,HB2⟩:=newV x1 #[.int .i64 0,.bool (decide (z'<0)),.slice o' l' c',.bool false,.slice none 0 0] 41;replace HB1:=kBV hb2.out HB1;replace HX:=Lib.hid (HX.out.below hb2.out);replace HY:=Lib.hid (HY.out.below hb2.out);replace HW:=Lib.hid (HW.out.trans (hb2.out.mono HW.out.size));have c0:=cell_at (v:=.int .i64 0) HB1.out 0 rfl;have fc0:=froz_at HB1.out 0;have c1:=cell_at (v:=.bool (decide (z<0))) HB1.out 1 rfl;have fc1:=froz_at HB1.out 1;have c2:=cell_at (v:=.slice o l c) HB1.out 2 rfl
  have fc2:=froz_at HB1.out 2;have c3:=cell_at (v:=.bool false) HB1.out 3 rfl;have fc3:=froz_at HB1.out 3;have c4:=cell_at (v:=.slice none 0 0) HB1.out 4 rfl;have fc4:=froz_at HB1.out 4;have d0:=cell_at (v:=.int .i64 0) HB2.out 0 rfl;have fd0:=froz_at HB2.out 0;have d1:=cell_at (v:=.bool (decide (z'<0))) HB2.out 1 rfl;have fd1:=froz_at HB2.out 1;have d2:=cell_at (v:=.slice o' l' c') HB2.out 2 rfl;have fd2:=froz_at HB2.out 2;have d3:=cell_at (v:=.bool false) HB2.out 3 rfl;have fd3:=froz_at HB2.out 3;have d4:=cell_at (v:=.slice none 0 0) HB2.out 4 rfl;have fd4:=froz_at HB2.out 4;go_wp2_with fail
  refine (sameInt_p _ _ z z' 600 600 x2 HX.out.gi HY.out.gi (by decide) (by decide)).mono ?_;rintro e x3 ⟨rfl,hb⟩;clear c0 fc0 c1 fc1 c2 fc2 c3 fc3 c4 fc4 d0 fd0 d1 fd1 d2 fd2 d3 fd3 d4 fd4;replace HB1:=kBV hb HB1;replace HB2:=kBV hb HB2;replace HX:=Lib.hid (HX.out.below hb);replace HY:=Lib.hid (HY.out.below hb);replace HW:=Lib.hid (HW.out.trans (hb.mono HW.out.size));go_wp2_with fail
  go_ret
  refine⟨?_,HW.out⟩
  congr 2
  simp
 ·clear h1 h2
  try clear hx
  try clear hy
  go_enter Try.func11,Try.ntmps11
  have HW:=Lib.hid (Below.refl w.heap.size w);obtain⟨x1,k1,e1,ek1,hb1,hk1,HB1⟩:=newV w #[.int .i64 0,.bool (decide (z<0)),.slice o l c,.bool false,.slice none 0 0] 41;replace HW:=Lib.hid (HW.out.trans (hb1.out.mono HW.out.size));obtain⟨x2,k2,e2,ek2,hb2,hk2,HB2⟩:=newV x1 #[.int .i64 1,.bool false,.slice none 0 0,.bool b',.slice none 0 0] 41;replace HB1:=kBV hb2.out HB1;replace HW:=Lib.hid (HW.out.trans (hb2.out.mono HW.out.size));have c0:=cell_at (v:=.int .i64 0) HB1.out 0 rfl;have fc0:=froz_at HB1.out 0;have c1:=cell_at (v:=.bool (decide (z<0))) HB1.out 1 rfl;have fc1:=froz_at HB1.out 1;have c2:=cell_at (v:=.slice o l c) HB1.out 2 rfl;have fc2:=froz_at HB1.out 2;have c3:=cell_at (v:=.bool false) HB1.out 3 rfl;have fc3:=froz_at HB1.out 3;have c4:=cell_at (v:=.slice none 0 0) HB1.out 4 rfl;have fc4:=froz_at HB1.out 4
  have d0:=cell_at (v:=.int .i64 1) HB2.out 0 rfl;have fd0:=froz_at HB2.out 0;have d1:=cell_at (v:=.bool false) HB2.out 1 rfl;have fd1:=froz_at HB2.out 1;have d2:=cell_at (v:=.slice none 0 0) HB2.out 2 rfl;have fd2:=froz_at HB2.out 2;have d3:=cell_at (v:=.bool b') HB2.out 3 rfl;have fd3:=froz_at HB2.out 3;have d4:=cell_at (v:=.slice none 0 0) HB2.out 4 rfl;have fd4:=froz_at HB2.out 4;go_wp2_with fail
  go_ret
  have hh:decide (V.I z=V.B b')=false:=decide_eq_false (by intro e;cases e);exact⟨by rw[hh];rfl,HW.out⟩
 ·clear h1 h2
  try clear hx
  try clear hy
  go_enter Try.func11,Try.ntmps11
  have HW:=Lib.hid (Below.refl w.heap.size w);obtain⟨x1,k1,e1,ek1,hb1,hk1,HB1⟩:=newV w #[.int .i64 0,.bool (decide (z<0)),.slice o l c,.bool false,.slice none 0 0] 41;replace HW:=Lib.hid (HW.out.trans (hb1.out.mono HW.out.size));obtain⟨x2,k2,e2,ek2,hb2,hk2,HB2⟩:=newV x1 #[.int .i64 2,.bool false,.slice none 0 0,.bool false,.slice o' n' c'] 41;replace HB1:=kBV hb2.out HB1;replace HW:=Lib.hid (HW.out.trans (hb2.out.mono HW.out.size));have c0:=cell_at (v:=.int .i64 0) HB1.out 0 rfl;have fc0:=froz_at HB1.out 0;have c1:=cell_at (v:=.bool (decide (z<0))) HB1.out 1 rfl;have fc1:=froz_at HB1.out 1;have c2:=cell_at (v:=.slice o l c) HB1.out 2 rfl;have fc2:=froz_at HB1.out 2;have c3:=cell_at (v:=.bool false) HB1.out 3 rfl;have fc3:=froz_at HB1.out 3;have c4:=cell_at (v:=.slice none 0 0) HB1.out 4 rfl;have fc4:=froz_at HB1.out 4
  have d0:=cell_at (v:=.int .i64 2) HB2.out 0 rfl;have fd0:=froz_at HB2.out 0;have d1:=cell_at (v:=.bool false) HB2.out 1 rfl;have fd1:=froz_at HB2.out 1;have d2:=cell_at (v:=.slice none 0 0) HB2.out 2 rfl;have fd2:=froz_at HB2.out 2;have d3:=cell_at (v:=.bool false) HB2.out 3 rfl;have fd3:=froz_at HB2.out 3;have d4:=cell_at (v:=.slice o' n' c') HB2.out 4 rfl;have fd4:=froz_at HB2.out 4;go_wp2_with fail
  go_ret
  have hh:decide (V.I z=V.L ys)=false:=decide_eq_false (by intro e;cases e);exact⟨by rw[hh];rfl,HW.out⟩
 ·clear h1 h2
  try clear hx
  try clear hy
  go_enter Try.func11,Try.ntmps11
  have HW:=Lib.hid (Below.refl w.heap.size w);obtain⟨x1,k1,e1,ek1,hb1,hk1,HB1⟩:=newV w #[.int .i64 1,.bool false,.slice none 0 0,.bool b,.slice none 0 0] 41;replace HW:=Lib.hid (HW.out.trans (hb1.out.mono HW.out.size));obtain⟨x2,k2,e2,ek2,hb2,hk2,HB2⟩:=newV x1 #[.int .i64 0,.bool (decide (z'<0)),.slice o' l' c',.bool false,.slice none 0 0] 41;replace HB1:=kBV hb2.out HB1;replace HW:=Lib.hid (HW.out.trans (hb2.out.mono HW.out.size));have c0:=cell_at (v:=.int .i64 1) HB1.out 0 rfl;have fc0:=froz_at HB1.out 0;have c1:=cell_at (v:=.bool false) HB1.out 1 rfl;have fc1:=froz_at HB1.out 1;have c2:=cell_at (v:=.slice none 0 0) HB1.out 2 rfl;have fc2:=froz_at HB1.out 2;have c3:=cell_at (v:=.bool b) HB1.out 3 rfl;have fc3:=froz_at HB1.out 3;have c4:=cell_at (v:=.slice none 0 0) HB1.out 4 rfl;have fc4:=froz_at HB1.out 4
  have d0:=cell_at (v:=.int .i64 0) HB2.out 0 rfl;have fd0:=froz_at HB2.out 0;have d1:=cell_at (v:=.bool (decide (z'<0))) HB2.out 1 rfl;have fd1:=froz_at HB2.out 1;have d2:=cell_at (v:=.slice o' l' c') HB2.out 2 rfl;have fd2:=froz_at HB2.out 2;have d3:=cell_at (v:=.bool false) HB2.out 3 rfl;have fd3:=froz_at HB2.out 3;have d4:=cell_at (v:=.slice none 0 0) HB2.out 4 rfl;have fd4:=froz_at HB2.out 4;go_wp2_with fail
  go_ret
  have hh:decide (V.B b=V.I z')=false:=decide_eq_false (by intro e;cases e);exact⟨by rw[hh];rfl,HW.out⟩
 ·clear h1 h2
  try clear hx
  try clear hy
  go_enter Try.func11,Try.ntmps11
  have HW:=Lib.hid (Below.refl w.heap.size w);obtain⟨x1,k1,e1,ek1,hb1,hk1,HB1⟩:=newV w #[.int .i64 1,.bool false,.slice none 0 0,.bool b,.slice none 0 0] 41;replace HW:=Lib.hid (HW.out.trans (hb1.out.mono HW.out.size));obtain⟨x2,k2,e2,ek2,hb2,hk2,HB2⟩:=newV x1 #[.int .i64 1,.bool false,.slice none 0 0,.bool b',.slice none 0 0] 41;replace HB1:=kBV hb2.out HB1;replace HW:=Lib.hid (HW.out.trans (hb2.out.mono HW.out.size));have c0:=cell_at (v:=.int .i64 1) HB1.out 0 rfl;have fc0:=froz_at HB1.out 0;have c1:=cell_at (v:=.bool false) HB1.out 1 rfl;have fc1:=froz_at HB1.out 1;have c2:=cell_at (v:=.slice none 0 0) HB1.out 2 rfl;have fc2:=froz_at HB1.out 2;have c3:=cell_at (v:=.bool b) HB1.out 3 rfl;have fc3:=froz_at HB1.out 3;have c4:=cell_at (v:=.slice none 0 0) HB1.out 4 rfl;have fc4:=froz_at HB1.out 4
  have d0:=cell_at (v:=.int .i64 1) HB2.out 0 rfl;have fd0:=froz_at HB2.out 0;have d1:=cell_at (v:=.bool false) HB2.out 1 rfl;have fd1:=froz_at HB2.out 1;have d2:=cell_at (v:=.slice none 0 0) HB2.out 2 rfl;have fd2:=froz_at HB2.out 2;have d3:=cell_at (v:=.bool b') HB2.out 3 rfl;have fd3:=froz_at HB2.out 3;have d4:=cell_at (v:=.slice none 0 0) HB2.out 4 rfl;have fd4:=froz_at HB2.out 4;go_wp2_with fail
  go_ret
  refine⟨?_,HW.out⟩
  cases b<;>cases b'<;>rfl
 ·clear h1 h2
  try clear hx
  try clear hy
  go_enter Try.func11,Try.ntmps11
  have HW:=Lib.hid (Below.refl w.heap.size w);obtain⟨x1,k1,e1,ek1,hb1,hk1,HB1⟩:=newV w #[.int .i64 1,.bool false,.slice none 0 0,.bool b,.slice none 0 0] 41;replace HW:=Lib.hid (HW.out.trans (hb1.out.mono HW.out.size));obtain⟨x2,k2,e2,ek2,hb2,hk2,HB2⟩:=newV x1 #[.int .i64 2,.bool false,.slice none 0 0,.bool false,.slice o' n' c'] 41;replace HB1:=kBV hb2.out HB1;replace HW:=Lib.hid (HW.out.trans (hb2.out.mono HW.out.size));have c0:=cell_at (v:=.int .i64 1) HB1.out 0 rfl;have fc0:=froz_at HB1.out 0;have c1:=cell_at (v:=.bool false) HB1.out 1 rfl;have fc1:=froz_at HB1.out 1;have c2:=cell_at (v:=.slice none 0 0) HB1.out 2 rfl;have fc2:=froz_at HB1.out 2;have c3:=cell_at (v:=.bool b) HB1.out 3 rfl;have fc3:=froz_at HB1.out 3;have c4:=cell_at (v:=.slice none 0 0) HB1.out 4 rfl;have fc4:=froz_at HB1.out 4
  have d0:=cell_at (v:=.int .i64 2) HB2.out 0 rfl;have fd0:=froz_at HB2.out 0;have d1:=cell_at (v:=.bool false) HB2.out 1 rfl;have fd1:=froz_at HB2.out 1;have d2:=cell_at (v:=.slice none 0 0) HB2.out 2 rfl;have fd2:=froz_at HB2.out 2;have d3:=cell_at (v:=.bool false) HB2.out 3 rfl;have fd3:=froz_at HB2.out 3;have d4:=cell_at (v:=.slice o' n' c') HB2.out 4 rfl;have fd4:=froz_at HB2.out 4;go_wp2_with fail
  go_ret
  have hh:decide (V.B b=V.L ys)=false:=decide_eq_false (by intro e;cases e);exact⟨by rw[hh];rfl,HW.out⟩
 ·clear h1 h2
  try clear hx
  try clear hy
  go_enter Try.func11,Try.ntmps11
  have HW:=Lib.hid (Below.refl w.heap.size w);obtain⟨x1,k1,e1,ek1,hb1,hk1,HB1⟩:=newV w #[.int .i64 2,.bool false,.slice none 0 0,.bool false,.slice o n c] 41;replace HW:=Lib.hid (HW.out.trans (hb1.out.mono HW.out.size));obtain⟨x2,k2,e2,ek2,hb2,hk2,HB2⟩:=newV x1 #[.int .i64 0,.bool (decide (z'<0)),.slice o' l' c',.bool false,.slice none 0 0] 41;replace HB1:=kBV hb2.out HB1;replace HW:=Lib.hid (HW.out.trans (hb2.out.mono HW.out.size));have c0:=cell_at (v:=.int .i64 2) HB1.out 0 rfl;have fc0:=froz_at HB1.out 0;have c1:=cell_at (v:=.bool false) HB1.out 1 rfl;have fc1:=froz_at HB1.out 1;have c2:=cell_at (v:=.slice none 0 0) HB1.out 2 rfl;have fc2:=froz_at HB1.out 2;have c3:=cell_at (v:=.bool false) HB1.out 3 rfl;have fc3:=froz_at HB1.out 3;have c4:=cell_at (v:=.slice o n c) HB1.out 4 rfl;have fc4:=froz_at HB1.out 4
  have d0:=cell_at (v:=.int .i64 0) HB2.out 0 rfl;have fd0:=froz_at HB2.out 0;have d1:=cell_at (v:=.bool (decide (z'<0))) HB2.out 1 rfl;have fd1:=froz_at HB2.out 1;have d2:=cell_at (v:=.slice o' l' c') HB2.out 2 rfl;have fd2:=froz_at HB2.out 2;have d3:=cell_at (v:=.bool false) HB2.out 3 rfl;have fd3:=froz_at HB2.out 3;have d4:=cell_at (v:=.slice none 0 0) HB2.out 4 rfl;have fd4:=froz_at HB2.out 4;go_wp2_with fail
  go_ret
  have hh:decide (V.L zs=V.I z')=false:=decide_eq_false (by intro e;cases e);exact⟨by rw[hh];rfl,HW.out⟩
 ·clear h1 h2
  try clear hx
  try clear hy
  go_enter Try.func11,Try.ntmps11
  have HW:=Lib.hid (Below.refl w.heap.size w);obtain⟨x1,k1,e1,ek1,hb1,hk1,HB1⟩:=newV w #[.int .i64 2,.bool false,.slice none 0 0,.bool false,.slice o n c] 41;replace HW:=Lib.hid (HW.out.trans (hb1.out.mono HW.out.size));obtain⟨x2,k2,e2,ek2,hb2,hk2,HB2⟩:=newV x1 #[.int .i64 1,.bool false,.slice none 0 0,.bool b',.slice none 0 0] 41;replace HB1:=kBV hb2.out HB1;replace HW:=Lib.hid (HW.out.trans (hb2.out.mono HW.out.size));have c0:=cell_at (v:=.int .i64 2) HB1.out 0 rfl;have fc0:=froz_at HB1.out 0;have c1:=cell_at (v:=.bool false) HB1.out 1 rfl;have fc1:=froz_at HB1.out 1;have c2:=cell_at (v:=.slice none 0 0) HB1.out 2 rfl;have fc2:=froz_at HB1.out 2;have c3:=cell_at (v:=.bool false) HB1.out 3 rfl;have fc3:=froz_at HB1.out 3;have c4:=cell_at (v:=.slice o n c) HB1.out 4 rfl;have fc4:=froz_at HB1.out 4
  have d0:=cell_at (v:=.int .i64 1) HB2.out 0 rfl;have fd0:=froz_at HB2.out 0;have d1:=cell_at (v:=.bool false) HB2.out 1 rfl;have fd1:=froz_at HB2.out 1;have d2:=cell_at (v:=.slice none 0 0) HB2.out 2 rfl;have fd2:=froz_at HB2.out 2;have d3:=cell_at (v:=.bool b') HB2.out 3 rfl;have fd3:=froz_at HB2.out 3;have d4:=cell_at (v:=.slice none 0 0) HB2.out 4 rfl;have fd4:=froz_at HB2.out 4;go_wp2_with fail
  go_ret
  have hh:decide (V.L zs=V.B b')=false:=decide_eq_false (by intro e;cases e);exact⟨by rw[hh];rfl,HW.out⟩
 clear h1 h2;have HX:=Lib.hid hx;have HY:=Lib.hid hy;clear hx hy;go_enter Try.func11,Try.ntmps11
 have HW:=Lib.hid (Below.refl w.heap.size w);obtain⟨x1,k1,e1,ek1,hb1,hk1,HB1⟩:=newV w #[.int .i64 2,.bool false,.slice none 0 0,.bool false,.slice o n c] 41;replace HX:=Lib.hid (HX.out.below hb1.out);replace HY:=Lib.hid (HY.out.below hb1.out);replace HW:=Lib.hid (HW.out.trans (hb1.out.mono HW.out.size));obtain⟨x2,k2,e2,ek2,hb2,hk2,HB2⟩:=newV x1 #[.int .i64 2,.bool false,.slice none 0 0,.bool false,.slice o' n' c'] 41;replace HB1:=kBV hb2.out HB1;replace HX:=Lib.hid (HX.out.below hb2.out);replace HY:=Lib.hid (HY.out.below hb2.out);replace HW:=Lib.hid (HW.out.trans (hb2.out.mono HW.out.size));have c0:=cell_at (v:=.int .i64 2) HB1.out 0 rfl;have fc0:=froz_at HB1.out 0;have c1:=cell_at (v:=.bool false) HB1.out 1 rfl;have fc1:=froz_at HB1.out 1;have c2:=cell_at (v:=.slice none 0 0) HB1.out 2 rfl;have fc2:=froz_at HB1.out 2
 have c3:=cell_at (v:=.bool false) HB1.out 3 rfl;have fc3:=froz_at HB1.out 3;have c4:=cell_at (v:=.slice o n c) HB1.out 4 rfl;have fc4:=froz_at HB1.out 4;have d0:=cell_at (v:=.int .i64 2) HB2.out 0 rfl;have fd0:=froz_at HB2.out 0;have d1:=cell_at (v:=.bool false) HB2.out 1 rfl;have fd1:=froz_at HB2.out 1;have d2:=cell_at (v:=.slice none 0 0) HB2.out 2 rfl;have fd2:=froz_at HB2.out 2;have d3:=cell_at (v:=.bool false) HB2.out 3 rfl;have fd3:=froz_at HB2.out 3;have d4:=cell_at (v:=.slice o' n' c') HB2.out 4 rfl;have fd4:=froz_at HB2.out 4;go_wp2_with fail
 refine (equalI_p _ _ zs ys x2 HX.out HY.out).mono ?_;rintro e x3 ⟨rfl,hb⟩;clear c0 fc0 c1 fc1 c2 fc2 c3 fc3 c4 fc4 d0 fd0 d1 fd1 d2 fd2 d3 fd3 d4 fd4;replace HB1:=kBV hb HB1;replace HB2:=kBV hb HB2;replace HX:=Lib.hid (HX.out.below hb);replace HY:=Lib.hid (HY.out.below hb);replace HW:=Lib.hid (HW.out.trans (hb.mono HW.out.size));go_wp2_with fail
 go_ret
 refine⟨?_,HW.out⟩
 congr 2
 simp
def RNum (w:World) (v:Value):Prop:=∃ xs,Sl w .u32 v xs/\Dig L32 xs
theorem RNum.below {w w':World} {v:Value} (h:RNum w v) (hb:Below w.heap.size w w'):RNum w' v:=by obtain⟨xs,h1,h2⟩:=h;exact⟨xs,h1.below hb,h2⟩
def RInts (w:World) (ko:Option Addr) (n kc:Nat):Prop:=(n<=kc/\kc<=maxLen)/\∀ i,i<n->∃ a b o l c,ko=some a/\w.cell? (a.add (i*2))=some (.bool b)/\w.cell? ⟨(a.add (i*2)).block,(a.add (i*2)).off+1,none⟩=some (.slice o l c)/\RNum w (.slice o l c)
theorem RInts.below {w w':World} {ko:Option Addr} {n kc:Nat} (h:RInts w ko n kc) (hb:Below w.heap.size w w'):RInts w' ko n kc:=by
 refine⟨h.1,fun i hi=>?_⟩;obtain⟨a,b,o,l,c,h1,h2,h3,h4⟩:=h.2 i hi;exact⟨a,b,o,l,c,h1,by rw[hb.cell (cell_lt h2)];exact h2,by rw[hb.cell (by have:=cell_lt h3;exact this)];exact h3,h4.below hb⟩
def RVals (w:World) (ko:Option Addr) (n kc:Nat):Prop:=(n<=kc/\kc<=maxLen)/\∀ i,i<n->∃ a k b o l c d p m q,ko=some a /\
  (w.cell? (a.add (i*5))=some (.int .i64 k)/\w.cell? ⟨(a.add (i*5)).block,(a.add (i*5)).off+1,none⟩=some (.bool b)/\w.cell? ⟨(a.add (i*5)).block,(a.add (i*5)).off+2,none⟩=some (.slice o l c)/\w.cell? ⟨(a.add (i*5)).block,(a.add (i*5)).off+3,none⟩=some (.bool d)/\w.cell? ⟨(a.add (i*5)).block,(a.add (i*5)).off+4,none⟩=some (.slice p m q)) /\
  (-9223372036854775808<=k/\k<=9223372036854775807)/\RNum w (.slice o l c)/\RInts w p m q
theorem RVals.below {w w':World} {ko:Option Addr} {n kc:Nat} (h:RVals w ko n kc) (hb:Below w.heap.size w w'):RVals w' ko n kc:=by
 refine⟨h.1,fun i hi=>?_⟩;obtain⟨a,k,b,o,l,c,d,p,m,q,h0,⟨h1,h2,h3,h4,h5⟩,h6,h7,h8⟩:=h.2 i hi;exact⟨a,k,b,o,l,c,d,p,m,q,h0,⟨by rw[hb.cell (cell_lt h1)];exact h1,by rw[hb.cell (by have:=cell_lt h2;exact this)];exact h2,by rw[hb.cell (by have:=cell_lt h3;exact this)];exact h3,by rw[hb.cell (by have:=cell_lt h4;exact this)];exact h4,by rw[hb.cell (by have:=cell_lt h5;exact this)];exact h5⟩,h6,h7.below hb,h8.below hb⟩
theorem small_p (b:Bool) (o:Option Addr) (l c:Nat) (w:World) (hx:RNum w (.slice o l c)) :
  Calls Try.prog 57 #[.agg #[.bool b,.slice o l c]] w fun e w'=>∃ v z,e=.returned v/\CI w' v z 4/\Below w.heap.size w w':=by
 obtain⟨m,hm⟩:∃ m,m=min l 4:=⟨_,rfl⟩
 have hmin:min (l:Int) 4=(m:Int):=by omega
 have hm4:m<=4:=by omega
 have hml:m<=l:=by omega
 have hx2:∃ n,GN w (.slice o m c) n 4/\l<=c/\c<=9223372036854775807:=by
  obtain⟨xs,hs,hd⟩:=hx;have hl:=sl_len hs;obtain⟨_,_,e,h1,h2,_⟩:=id hs;injection e with e1 e2 e3;subst e3;exact⟨_,⟨xs.take m,hs.take m (by omega),hd.take m,rfl,by rw[List.length_take];omega⟩,by omega,h2⟩
 obtain⟨n,hn,hlc,hc⟩:=hx2;have hmc:m<=c:=by omega
 have HX:=Lib.hid hn;clear hn hx hm;have HW:=Lib.hid (Below.refl w.heap.size w);go_enter Try.func57,Try.ntmps57
 obtain⟨x1,k1,e1,ek1,hb1,hk1,HB1⟩:=newV w #[.bool b,.slice o l c] 26;replace HX:=Lib.hid (HX.out.below hb1.out);replace HW:=Lib.hid (HW.out.trans (hb1.out.mono HW.out.size));obtain⟨x2,k2,e2,ek2,hb2,hk2,HB2⟩:=newV x1 #[.bool false,.slice none 0 0] 26;replace HB1:=kBV hb2.out HB1;replace HX:=Lib.hid (HX.out.below hb2.out);replace HW:=Lib.hid (HW.out.trans (hb2.out.mono HW.out.size));have hk0:w.heap.size<=k2:=Nat.le_trans hb1.out.size hk2.out;go_upto_region 1 with fail
 have hlt_1:=lt_of_block HB1.out;have hog:Hid (∀ q,q<0->(fun q=>0) q<x2.heap.size):=Lib.hid (fun q h=>absurd h (Nat.not_lt_zero _));refine R7.region (by kernel_rfl) [[],[0],[],[2],[],[4],[4,5],[4,5,6],[2,3,4,5,6,7],[0,1,2,3,4,5,6,7,8],[0,1,2,3,4,5,6,7,8,9]] [] [] (fun q=>0) 0 10 (by kernel_rfl) (by kernel_rfl) (by rfl) hog.out (fun q q' h h' hn=>absurd hn (by omega)) ?_;refine R7.Chain.det ?_ (by rfl) (fun T xs wr hA=>?_) ?_
 rotate_left 1
 ·have e1:=hA.pre 1 (by kernel_rfl);simp only[gsa,gsc,gsz] at e1;clear hA;refine⟨(by rfl),?_⟩;go_simp<;>(try with_reducible rfl)
 refine R7.Chain.det ?_ (by rfl) (fun T xs wr hA=>?_) ?_
 rotate_left 1
 ·have e3:=hA.tm 0 3 (by rfl) (by rfl);have f3:xs 0=_:=hA.fa 0 (by rfl)
  (try simp (disch:=first | rfl | decide) only [R7.mask_in] at f3)
  rw[f3] at e3;clear f3;have hBq:wr.heap[k1]?=_:=(hA.bl _ hlt_1 (fun q h=>absurd h (Nat.not_lt_zero _))).trans HB1.out;have q0:=cell_at (v:=.bool b) hBq 0 rfl;have q1:=cell_at (v:=.slice o l c) hBq 1 rfl;clear hBq;clear hA;refine⟨(by rfl),?_⟩;go_simp<;>(try with_reducible rfl)
 refine R7.Chain.det ?_ (by rfl) (fun T xs wr hA=>?_) ?_
 rotate_left 1
 ·have e1:=hA.pre 1 (by kernel_rfl);simp only[gsa,gsc,gsz] at e1;clear hA;refine⟨(by rfl),?_⟩;go_simp<;>(try with_reducible rfl)
 refine R7.Chain.det ?_ (by rfl) (fun T xs wr hA=>?_) ?_
 rotate_left 1
 ·have e5:=hA.tm 2 5 (by rfl) (by rfl);have f5:xs 2=_:=hA.fa 2 (by rfl)
  (try simp (disch:=first | rfl | decide) only [R7.mask_in] at f5)
  rw[f5] at e5;clear f5;have hBq:wr.heap[k1]?=_:=(hA.bl _ hlt_1 (fun q h=>absurd h (Nat.not_lt_zero _))).trans HB1.out;have q0:=cell_at (v:=.bool b) hBq 0 rfl;have q1:=cell_at (v:=.slice o l c) hBq 1 rfl;clear hBq;clear hA;refine⟨(by rfl),?_⟩;go_simp<;>(try with_reducible rfl)
 refine R7.Chain.det ?_ (by rfl) (fun T xs wr hA=>?_) ?_
 rotate_left 1
 ·have e1:=hA.pre 1 (by kernel_rfl);simp only[gsa,gsc,gsz] at e1;clear hA;refine⟨(by rfl),?_⟩;go_simp<;>(try with_reducible rfl)
 refine R7.Chain.det ?_ (by rfl) (fun T xs wr hA=>?_) ?_
 rotate_left 1
 ·have e7:=hA.tm 4 7 (by rfl) (by rfl);have f7:xs 4=_:=hA.fa 4 (by rfl)
  (try simp (disch:=first | rfl | decide) only [R7.mask_in] at f7)
  rw[f7] at e7;clear f7;have hBq:wr.heap[k1]?=_:=(hA.bl _ hlt_1 (fun q h=>absurd h (Nat.not_lt_zero _))).trans HB1.out;have q0:=cell_at (v:=.bool b) hBq 0 rfl;have q1:=cell_at (v:=.slice o l c) hBq 1 rfl;clear hBq;clear hA;refine⟨(by rfl),?_⟩;go_simp<;>(try with_reducible rfl)
 refine R7.Chain.det ?_ (by rfl) (fun T xs wr hA=>?_) ?_
 rotate_left 1
 ·have e8:=hA.tm 5 8 (by rfl) (by rfl);have f8:xs 5=_:=hA.fa 5 (by rfl)
  (try simp (disch:=first | rfl | decide) only [R7.mask_in] at f8)
  rw[f8] at e8;clear f8;clear hA;refine⟨(by rfl),?_⟩;go_simp<;>(try with_reducible rfl)
 refine R7.Chain.det ?_ (by rfl) (fun T xs wr hA=>?_) ?_
 rotate_left 1
 ·have e9:=hA.tm 6 9 (by rfl) (by rfl);have f9:xs 6=_:=hA.fa 6 (by rfl)
  (try simp (disch:=first | rfl | decide) only [R7.mask_in] at f9)
  rw[f9] at e9;clear f9;clear hA;refine⟨(by rfl),?_⟩;go_simp<;>(try with_reducible rfl)
 refine R7.Chain.det ?_ (by rfl) (fun T xs wr hA=>?_) ?_
 rotate_left 1
 ·have e6:=hA.tm 3 6 (by rfl) (by rfl);have f6:xs 3=_:=hA.fa 3 (by rfl)
  (try simp (disch:=first | rfl | decide) only [R7.mask_in] at f6)
  rw[f6] at e6;clear f6;have e10:=hA.tm 7 10 (by rfl) (by rfl);have f10:xs 7=_:=hA.fa 7 (by rfl)
  (try simp (disch:=first | rfl | decide) only [R7.mask_in] at f10)
  rw[f10] at e10;clear f10;clear hA;refine⟨(by rfl),?_⟩;go_simp<;>(try with_reducible rfl)
 refine R7.Chain.call (fun xs v w=>∃ z,CI w v z 4) (fun _ _ _ _ h hb=>by obtain⟨z,h2⟩:=h;exact⟨z,h2.below hb⟩) (fun _ _ _ _ _ _ h _=>by obtain⟨q,hq,_⟩:=h;exact absurd hq (Nat.not_lt_zero _)) (by rfl) (fun T xs wr hA=>?_) ?_
 ·have hsw:=(hA.be 0 (Nat.zero_le _) (fun _ _=>Nat.zero_le _)).size;have e4:=hA.tm 1 4 (by rfl) (by rfl);have f4:xs 1=_:=hA.fa 1 (by rfl)
  (try simp (disch:=first | rfl | decide) only [R7.mask_in] at f4)
  rw[f4] at e4;clear f4;have e11:=hA.tm 8 11 (by rfl) (by rfl);have f11:xs 8=_:=hA.fa 8 (by rfl)
  (try simp (disch:=first | rfl | decide) only [R7.mask_in] at f11)
  rw[f11] at e11;clear f11;have hbw:=undrew (hA.be x2.heap.size (Nat.le_refl _) (fun q h=>absurd h (Nat.not_lt_zero q)));clear hA;refine⟨(by rfl),fun K hK=>?_⟩;go_simp
  refine (big_any b _ n 4 wr (HX.out.below hbw) (by omega)).mono ?_;rintro e w' ⟨v,rfl,hc,hb'⟩;exact hK.out _ _ ⟨_,hc⟩ hb'
 refine R7.Chain.done (fun xs x3 hL=>?_);obtain⟨⟨hbe,hbl⟩,hf,-,-⟩:=hL;have f0:xs 0=_:=hf 0 (by decide)
 (try simp (disch:=first | rfl | decide) only [R7.mask_in] at f0)
 have f1:xs 1=_:=hf 1 (by decide)
 (try simp (disch:=first | rfl | decide) only [R7.mask_in] at f1)
 have f2:xs 2=_:=hf 2 (by decide)
 (try simp (disch:=first | rfl | decide) only [R7.mask_in] at f2)
 have f3:xs 3=_:=hf 3 (by decide)
 (try simp (disch:=first | rfl | decide) only [R7.mask_in] at f3)
 have f4:xs 4=_:=hf 4 (by decide)
 (try simp (disch:=first | rfl | decide) only [R7.mask_in] at f4)
 have f5:xs 5=_:=hf 5 (by decide)
 (try simp (disch:=first | rfl | decide) only [R7.mask_in] at f5)
 have f6:xs 6=_:=hf 6 (by decide)
 (try simp (disch:=first | rfl | decide) only [R7.mask_in] at f6)
 have f7:xs 7=_:=hf 7 (by decide)
 (try simp (disch:=first | rfl | decide) only [R7.mask_in] at f7)
 have f8:xs 8=_:=hf 8 (by decide)
 (try simp (disch:=first | rfl | decide) only [R7.mask_in] at f8)
 have F9:∃ z,CI x3 (xs 9) z 4:=hf 9 (by decide);have hb0:Below 0 x2 x3:=undrew (hbe 0 (Nat.zero_le _) (fun _ _=>Nat.zero_le _));have hgr:∀ j,j<x2.heap.size->(∀ q,q<0->(fun q=>0) q≠j)->x3.heap[j]?=x2.heap[j]?:=hbl;clear hbe hbl hf;have hb:Below x2.heap.size x2 x3:=⟨hb0.os,hb0.tape,hb0.output,hb0.size,fun q hq=>hgr q hq (fun q h=>absurd h (Nat.not_lt_zero _))⟩
 refine R7.rest_list (by decide) (by kernel_rfl) ?_;simp only[R7.fill,t1_,t2_,t3_,t4_,t5_,t6_,t7_,f0,f1,f2,f3,f4,f5,f6,f7,f8];clear hb0 hgr hog hlt_1 f0 f1 f2 f3 f4 f5 f6 f7 f8;replace HB1:=kBV hb HB1;replace HB2:=kBV hb HB2;replace HX:=Lib.hid (HX.out.below hb);replace HW:=Lib.hid (HW.out.trans (hb.mono HW.out.size));replace hb:=Lib.hid hb;obtain⟨z,hcz⟩:=F9;obtain⟨bb,oo,ll,cc,hv⟩:=hcz.shape;rw[hv] at hcz;rw[show (0+1+1+1+1+1+1+1+1+1:Nat)=9 from rfl,hv];have HC:=Lib.hid hcz;clear hcz hv;have d0:=cell_at (v:=.bool false) HB2.out 0 rfl;have fd0:=froz_at HB2.out 0;have d1:=cell_at (v:=.slice none 0 0) HB2.out 1 rfl;have fd1:=froz_at HB2.out 1;go_wp2_with fail
 obtain⟨r1,r2⟩:=res2V HW.out HB2.out n32_2 hk0 (.bool bb) (.slice oo ll cc);exact bodyPost_ret (v:=.agg #[.bool bb,.slice oo ll cc]) (by simp[results,Try.results57,go_sem,d0,d1]) rfl ⟨_,_,rfl,HC.out.fr r1,r2⟩
theorem VC.unit {w:World} {v:Value} {x:V} (h:VC w v x):∃ (u:VU) (k:Int) (b:Bool) (o:Option Addr) (l c:Nat) (d:Bool) (p:Option Addr) (m q:Nat),v=.agg #[.int .i64 k,.bool b,.slice o l c,.bool d,.slice p m q]/\vC u=[.int .i64 k,.bool b,.slice o l c,.bool d,.slice p m q]/\u.x=x/\VR w u:=by
 obtain⟨u,rfl,h1,h2⟩:=h;exact⟨u,_,_,_,_,_,_,_,_,_,rfl,rfl,h1,h2⟩
theorem CI.unit {w:World} {v:Value} {z:Int} {k:Nat} (h:CI w v z k) (hk:k<=600):∃ (u:NU) (b:Bool) (o:Option Addr) (l c:Nat),v=.agg #[.bool b,.slice o l c]/\nC u=[.bool b,.slice o l c]/\u.z=z/\NR w u:=by
 obtain⟨u,rfl,h1,h2⟩:=ci_nu h hk;exact⟨u,_,_,_,_,rfl,rfl,h1,h2⟩
theorem one_atV {w:World} {g:Nat} {u:VU} {k:Int} {b d:Bool} {o p:Option Addr} {l c m q:Nat} (hB:w.heap[g]?=some (.cells #[.int .i64 k,.bool b,.slice o l c,.bool d,.slice p m q] 41 (0,0))) (hu:vC u=[.int .i64 k,.bool b,.slice o l c,.bool d,.slice p m q]) (hR:VR w u):vE.At w (.slice (some ⟨g,0,none⟩) 1 1) [u]:=
 El.At.block (E:=vE) (el:=[u]) (by show _=some (Obj.cells (([u]:List VU).flatMap vC).toArray _ _);rw[List.flatMap_cons,hu];exact hB) (by simp[maxLen]) (fun a ha=>by rw[List.mem_singleton] at ha;subst ha;exact hR)
theorem one_atN {w:World} {g:Nat} {u:NU} {b:Bool} {o:Option Addr} {l c:Nat} (hB:w.heap[g]?=some (.cells #[.bool b,.slice o l c] 26 (0,0))) (hu:nC u=[.bool b,.slice o l c]) (hR:NR w u):nE.At w (.slice (some ⟨g,0,none⟩) 1 1) [u]:=
 El.At.block (E:=nE) (el:=[u]) (by show _=some (Obj.cells (([u]:List NU).flatMap nC).toArray _ _);rw[List.flatMap_cons,hu];exact hB) (by simp[maxLen]) (fun a ha=>by rw[List.mem_singleton] at ha;subst ha;exact hR)
def TV:V->Prop
 | .I z=>z.natAbs<L32 ^ 4
 | .B _=>True
 | .L l=>l.length<=6/\∀ z ∈ l,z.natAbs<L32 ^ 4
theorem CI.lt {w:World} {v:Value} {z:Int} {k:Nat} (h:CI w v z k):z.natAbs<L32 ^ k:=by obtain⟨_,_,_,h3⟩:=h;exact h3
def sortOf:V->Int
 | .I _=>0
 | .B _=>1
 | .L _=>2
def KS (w:World) (ko:Option Addr) (xs:List V):Prop:=∀ i (h:i<xs.length) a k,ko=some a->w.cell? (a.add (i*5))=some (.int .i64 k)->sortOf xs[i]=(k.tmod 3+3).tmod 3
theorem KS.snoc {w:World} {ko:Option Addr} {xs:List V} {x:V} (h:KS w ko xs) (hx:∀ a k,ko=some a->w.cell? (a.add (xs.length*5))=some (.int .i64 k)->sortOf x=(k.tmod 3+3).tmod 3):KS w ko (xs++[x]):=by
 intro i hi a k ha hc
 by_cases hlt:i<xs.length
 ·rw[List.getElem_append_left hlt];exact h i hlt a k ha hc
 have e:i=xs.length:=by simp at hi;omega
 subst e;rw[List.getElem_append_right (Nat.le_refl _)];simp only[Nat.sub_self,List.getElem_cons_zero];exact hx a k ha hc
def TMrel (w:World) (ko:Option Addr) (N:Nat) (ov iv:Value) (wr:World):Prop:=
 ∃ (j:Nat) (us:List VU),iv=.int .i64 (j:Nat)/\j<=N/\Hid (us.length=j)/\Hid (∀ u ∈ us,TV u.x)/\Hid (KS w ko (us.map (·.x)))/\Hid (vE.Row wr w.heap.size ov us)/\Hid (Below w.heap.size w wr)
def TIrel (w wS:World) (M:Nat) (mv iv:Value) (wr:World):Prop:=
 ∃ (j:Nat) (ns:List NU),iv=.int .i64 (j:Nat)/\j<=M/\Hid (ns.length=j)/\Hid (∀ n ∈ ns,n.z.natAbs<L32 ^ 4)/\Hid (nE.Row wr wS.heap.size mv ns)/\Hid (Below wS.heap.size wS wr)
theorem tame_q (ko:Option Addr) (n kc:Nat) (w:World) (hx:RVals w ko n kc) :
  Calls Try.prog 34 #[.slice ko n kc] w fun e w'=>∃ v xs,e=.returned v/\VL w' v xs/\xs.length=min n 5/\(∀ x ∈ xs,TV x)/\KS w ko xs/\Below w.heap.size w w':=by
 obtain⟨N,hN⟩:∃ N,N=min n 5:=⟨_,rfl⟩
 have hmin:min (n:Int) 5=(N:Int):=by omega
 have hN5:N<=5:=by omega
 have hNn:N<=n:=by omega
 obtain⟨h1,h2⟩:=hx.1;have hNk:N<=kc:=by omega
 have hmx:kc<=9223372036854775807:=h2;have HX:=Lib.hid hx;have HNN:=Lib.hid hN;clear hx hN h1 h2;go_enter Try.func34,Try.ntmps34
 go_wp2_with fail
 go_loopw [3,16] (TMrel w ko N) (fun _ i _=>N - (intOf i).toNat)
 case atStart=>exact⟨0,[],rfl,Nat.zero_le _,Lib.hid rfl,Lib.hid (fun u hu=>by cases hu),Lib.hid (fun i h=>absurd h (Nat.not_lt_zero i)),Lib.hid (El.Row.nil _ _),Lib.hid (Below.refl _ _)⟩
 case round =>
  obtain⟨j,us,rfl,hj,HU,HTV,HKS,HR,HW⟩:=hrel;obtain⟨oo,oc,rfl,hol,hoc,-⟩:=HR.out.form;have hul:=HU.out;rw[hul] at hol
  by_cases hlt:j<N
  ·obtain⟨a,xk,b,o,l,c,d,p,m,q,rfl,⟨c0,c1,c2,c3,c4⟩,⟨xk1,xk2⟩,hn,hi⟩:=(HX.out.below HW.out).2 j (by omega);have HKX:Hid (∀ a2 k2,some a=some a2->w.cell? (a2.add ((us.map (·.x)).length*5))=some (.int .i64 k2)->k2=xk):=Lib.hid (fun a2 k2 e hc=>by injection e with e;subst e;rw[List.length_map,HU.out] at hc;have h2:=(HW.out.cell (World.block_lt_of_cell? w _ hc)).trans hc;rw[c0] at h2;injection h2 with h2;injection h2 with _ h2;exact h2.symm);have HN:=Lib.hid hn;have HI:=Lib.hid hi;clear hn hi hul;have tm1:=Int.tmod_lt_of_pos xk (b:=3) (by decide);have tm2:=Int.lt_tmod_of_pos xk (b:=3) (by decide);have wr1:IntKind.i64.wrap (xk.tmod 3+3)=xk.tmod 3+3:=IntWalk.i64_in _ (by omega)
   have hK:(xk.tmod 3+3).tmod 3=0\/(xk.tmod 3+3).tmod 3=1\/(xk.tmod 3+3).tmod 3=2:=by rw[Int.tmod_eq_emod_of_nonneg (by omega)];omega
   clear tm1 tm2;obtain⟨x1,k5,e5,ek5,hb5,hk5,HB5⟩:=newV wr #[.int .i64 xk,.bool b,.slice o l c,.bool d,.slice p m q] 41;replace HN:=Lib.hid (HN.out.below hb5.out);replace HI:=Lib.hid (HI.out.below hb5.out);replace HR:=Lib.hid (HR.out.below hb5.out);replace HW:=Lib.hid (HW.out.trans (hb5.out.mono HW.out.size));have g0:=cell_at (v:=.int .i64 xk) HB5.out 0 rfl;have fg0:=froz_at HB5.out 0;have g1:=cell_at (v:=.bool b) HB5.out 1 rfl;have fg1:=froz_at HB5.out 1;have g2:=cell_at (v:=.slice o l c) HB5.out 2 rfl;have fg2:=froz_at HB5.out 2;have g3:=cell_at (v:=.bool d) HB5.out 3 rfl;have fg3:=froz_at HB5.out 3;have g4:=cell_at (v:=.slice p m q) HB5.out 4 rfl;have fg4:=froz_at HB5.out 4;rcases hK with hK | hK | hK
   ·go_wp2_with fail
    refine (small_p b o l c x1 HN.out).mono ?_;rintro e x2 ⟨v,z,rfl,hz,hb⟩;clear g0 fg0 g1 fg1 g2 fg2 g3 fg3 g4 fg4;replace HB5:=kBV hb HB5;replace HN:=Lib.hid (HN.out.below hb);replace HI:=Lib.hid (HI.out.below hb);replace HR:=Lib.hid (HR.out.below hb);replace HW:=Lib.hid (HW.out.trans (hb.mono HW.out.size));obtain⟨zb,zo,zl,zc,rfl⟩:=hz.shape;have HZ:=Lib.hid hz;clear hz hb;go_wp2_with fail
    refine (ofInt_p _ z 4 x2 HZ.out.gi (by decide)).mono ?_;rintro e x3 ⟨v,rfl,hc,hb⟩;replace HB5:=kBV hb HB5;replace HN:=Lib.hid (HN.out.below hb);replace HI:=Lib.hid (HI.out.below hb);replace HR:=Lib.hid (HR.out.below hb);replace HW:=Lib.hid (HW.out.trans (hb.mono HW.out.size));replace HZ:=Lib.hid (HZ.out.below hb);clear hb;obtain⟨u,uk,ub,uo,ul,uc,ud,up,um,uq,rfl,hue,hux,hur⟩:=hc.unit;have HUE:=Lib.hid hue;have HUX:=Lib.hid hux;have HUR:=Lib.hid hur;clear hc hue hux hur;obtain⟨x4,kq,eq,ekq,hbq,hkq,HBq⟩:=newV x3 #[.int .i64 uk,.bool ub,.slice uo ul uc,.bool ud,.slice up um uq] 41;replace HB5:=kBV hbq.out HB5;replace HN:=Lib.hid (HN.out.below hbq.out);replace HI:=Lib.hid (HI.out.below hbq.out);replace HR:=Lib.hid (HR.out.below hbq.out);replace HW:=Lib.hid (HW.out.trans (hbq.out.mono HW.out.size))
    replace HZ:=Lib.hid (HZ.out.below hbq.out);replace HUR:=Lib.hid (HUR.out.below hbq.out);have HAT:=Lib.hid (one_atV HBq.out HUE.out HUR.out);go_wp2_with (at_builtin;refine El.Row.append (E:=vE) HR.out rfl (.tmp 51) (.tmp 56) rfl rfl rfl HAT.out (by rw[HU.out];simp;omega) HW.out.size ?_;intro v9 w9 r1 r2 r3 r4)
    go_roundw
    case rel=>exact⟨j+1,us++[u],by go_num,hlt,Lib.hid (by rw[lsa,HU.out];rfl),Lib.hid (fun y hy=>by rcases List.mem_append.1 hy with hy | hy;exact HTV.out y hy;rw[List.mem_singleton] at hy;subst hy;rw[HUX.out];exact HZ.out.lt),Lib.hid (by rw[List.map_append];exact HKS.out.snoc (fun a2 k2 e hc=>by rw[HKX.out a2 k2 e hc,hK];show sortOf u.x=_;rw[HUX.out];rfl)),Lib.hid r1,Lib.hid (HW.out.trans r3)⟩
    case measure=>simp[intOf];omega
   ·go_wp2_with fail
    refine (ofBool_p d x1).mono ?_;rintro e x2 ⟨v,rfl,hc,hb⟩;clear g0 fg0 g1 fg1 g2 fg2 g3 fg3 g4 fg4;replace HB5:=kBV hb HB5;replace HN:=Lib.hid (HN.out.below hb);replace HI:=Lib.hid (HI.out.below hb);replace HR:=Lib.hid (HR.out.below hb);replace HW:=Lib.hid (HW.out.trans (hb.mono HW.out.size));clear hb;obtain⟨u,uk,ub,uo,ul,uc,ud,up,um,uq,rfl,hue,hux,hur⟩:=hc.unit;have HUE:=Lib.hid hue;have HUX:=Lib.hid hux;have HUR:=Lib.hid hur;clear hc hue hux hur;obtain⟨x3,kq,eq,ekq,hbq,hkq,HBq⟩:=newV x2 #[.int .i64 uk,.bool ub,.slice uo ul uc,.bool ud,.slice up um uq] 41;replace HB5:=kBV hbq.out HB5;replace HN:=Lib.hid (HN.out.below hbq.out);replace HI:=Lib.hid (HI.out.below hbq.out);replace HR:=Lib.hid (HR.out.below hbq.out);replace HW:=Lib.hid (HW.out.trans (hbq.out.mono HW.out.size));replace HUR:=Lib.hid (HUR.out.below hbq.out)
    have HAT:=Lib.hid (one_atV HBq.out HUE.out HUR.out);go_wp2_with (at_builtin;refine El.Row.append (E:=vE) HR.out rfl (.tmp 60) (.tmp 64) rfl rfl rfl HAT.out (by rw[HU.out];simp;omega) HW.out.size ?_;intro v9 w9 r1 r2 r3 r4)
    go_roundw
    case rel=>exact⟨j+1,us++[u],by go_num,hlt,Lib.hid (by rw[lsa,HU.out];rfl),Lib.hid (fun y hy=>by rcases List.mem_append.1 hy with hy | hy;exact HTV.out y hy;rw[List.mem_singleton] at hy;subst hy;rw[HUX.out];exact trivial),Lib.hid (by rw[List.map_append];exact HKS.out.snoc (fun a2 k2 e hc=>by rw[HKX.out a2 k2 e hc,hK];show sortOf u.x=_;rw[HUX.out];rfl)),Lib.hid r1,Lib.hid (HW.out.trans r3)⟩
    case measure=>simp[intOf];omega
   obtain⟨M,hM⟩:∃ M,M=min m 6:=⟨_,rfl⟩
   have hmin2:min (m:Int) 6=(M:Int):=by omega
   have hM6:M<=6:=by omega
   have hMm:M<=m:=by omega
   obtain⟨h1,h2⟩:=HI.out.1;have hMk:M<=q:=by omega
   have hmq:q<=9223372036854775807:=h2;clear hM h1 h2;go_wp2_with fail
   clear g0 fg0 g1 fg1 g2 fg2 g3 fg3 g4 fg4
   go_loopw [7,34] (TIrel w x1 M) (fun _ i _=>M - (intOf i).toNat)
   case atStart=>exact⟨0,[],rfl,Nat.zero_le _,Lib.hid rfl,Lib.hid (fun u hu=>by cases hu),Lib.hid (El.Row.nil _ _),Lib.hid (Below.refl _ _)⟩
   case round =>
    obtain⟨i,ns,rfl,hi,HNL,HNV,HRI,HS⟩:=hrel;obtain⟨io,ic,rfl,hil,hic,-⟩:=HRI.out.form;have hnl:=HNL.out;rw[hnl] at hil
    by_cases hil2:i<M
    ·obtain⟨ia,ib,io2,il,icc,rfl,i0,i1,hin⟩:=(HI.out.below HS.out).2 i (by omega);have HIN:=Lib.hid hin;clear hin hnl;obtain⟨x21,k9,e9,ek9,hb9,hk9,HB9⟩:=newV wr #[.bool ib,.slice io2 il icc] 26;replace HIN:=Lib.hid (HIN.out.below hb9.out);replace HRI:=Lib.hid (HRI.out.below hb9.out);replace HS:=Lib.hid (HS.out.trans (hb9.out.mono HS.out.size));have g0:=cell_at (v:=.bool ib) HB9.out 0 rfl;have fg0:=froz_at HB9.out 0;have g1:=cell_at (v:=.slice io2 il icc) HB9.out 1 rfl;have fg1:=froz_at HB9.out 1;go_wp2_with fail
     refine (small_p ib io2 il icc x21 HIN.out).mono ?_;rintro e x22 ⟨v,z,rfl,hz,hb⟩;clear g0 fg0 g1 fg1;replace HB9:=kBV hb HB9;replace HIN:=Lib.hid (HIN.out.below hb);replace HRI:=Lib.hid (HRI.out.below hb);replace HS:=Lib.hid (HS.out.trans (hb.mono HS.out.size));clear hb;obtain⟨nu,zb,zo,zl,zc,rfl,hne,hnz,hnr⟩:=hz.unit (by decide);have HNE:=Lib.hid hne;have HNZ:=Lib.hid hnz;have HNR:=Lib.hid hnr;have HZL:=Lib.hid hz.lt;clear hz hne hnz hnr;obtain⟨x23,kq,eq,ekq,hbq,hkq,HBq⟩:=newV x22 #[.bool zb,.slice zo zl zc] 26;replace HB9:=kBV hbq.out HB9;replace HIN:=Lib.hid (HIN.out.below hbq.out);replace HRI:=Lib.hid (HRI.out.below hbq.out);replace HS:=Lib.hid (HS.out.trans (hbq.out.mono HS.out.size));replace HNR:=Lib.hid (nE.below HNR.out hbq.out);have HAT:=Lib.hid (one_atN HBq.out HNE.out HNR.out)
     go_wp2_with (at_builtin;refine El.Row.append (E:=nE) HRI.out rfl (.tmp 38) (.tmp 41) rfl rfl rfl HAT.out (by rw[HNL.out];simp;omega) HS.out.size ?_;intro v9 w9 r1 r2 r3 r4)
     go_roundw
     case rel=>exact⟨i+1,ns++[nu],by go_num,hil2,Lib.hid (by rw[lsa,HNL.out];rfl),Lib.hid (fun y hy=>by rcases List.mem_append.1 hy with hy | hy;exact HNV.out y hy;rw[List.mem_singleton] at hy;subst hy;rw[HNZ.out];exact HZL.out),Lib.hid r1,Lib.hid (HS.out.trans r3)⟩
     case measure=>simp[intOf];omega
    have eM:i=M:=by omega
    go_wp2_with fail
    have hnlist:NL wr (.slice io M ic) (ns.map (·.z)):=⟨ns,by have h:=HRI.out.at;rw[HNL.out,eM] at h;exact h,rfl⟩
    replace HR:=Lib.hid (HR.out.below HS.out);replace HW:=Lib.hid (HW.out.trans (HS.out.mono HW.out.size));refine (ofList_p _ (ns.map (·.z)) wr hnlist (by simp;omega)).mono ?_;rintro e x41 ⟨v,rfl,hc,hb⟩;replace HR:=Lib.hid (HR.out.below hb);replace HW:=Lib.hid (HW.out.trans (hb.mono HW.out.size));clear hb;obtain⟨u,uk,ub,uo,ul,uc,ud,up,um,uq,rfl,hue,hux,hur⟩:=hc.unit;have HUE:=Lib.hid hue;have HUX:=Lib.hid hux;have HUR:=Lib.hid hur;clear hc hue hux hur;obtain⟨x42,kq,eq,ekq,hbq,hkq,HBq⟩:=newV x41 #[.int .i64 uk,.bool ub,.slice uo ul uc,.bool ud,.slice up um uq] 41;replace HR:=Lib.hid (HR.out.below hbq.out);replace HW:=Lib.hid (HW.out.trans (hbq.out.mono HW.out.size));replace HUR:=Lib.hid (HUR.out.below hbq.out);have HAT:=Lib.hid (one_atV HBq.out HUE.out HUR.out)
    go_wp2_with (at_builtin;refine El.Row.append (E:=vE) HR.out rfl (.tmp 44) (.tmp 47) rfl rfl rfl HAT.out (by rw[HU.out];simp;omega) HW.out.size ?_;intro v9 w9 r1 r2 r3 r4)
    go_roundw
    case rel=>exact⟨j+1,us++[u],by go_num,hlt,Lib.hid (by rw[lsa,HU.out];rfl),Lib.hid (fun y hy=>by rcases List.mem_append.1 hy with hy | hy;exact HTV.out y hy;rw[List.mem_singleton] at hy;subst hy;rw[HUX.out];exact⟨by rw[List.length_map,HNL.out];omega,fun y hy=>by obtain⟨t,ht,rfl⟩:=List.mem_map.1 hy;exact HNV.out t ht⟩),Lib.hid (by rw[List.map_append];exact HKS.out.snoc (fun a2 k2 e hc=>by rw[HKX.out a2 k2 e hc,hK];show sortOf u.x=_;rw[HUX.out];rfl)),Lib.hid r1,Lib.hid (HW.out.trans r3)⟩
    case measure=>simp[intOf];omega
  go_wp2_with fail
  exact bodyPost_ret (results_tmp Try.results34 _ _ _) rfl ⟨_,us.map (·.x),rfl,⟨us,HR.out.at,rfl⟩,by rw[List.length_map,HU.out,<-HNN.out];omega,fun x hx=>by obtain⟨t,ht,rfl⟩:=List.mem_map.1 hx;exact HTV.out t ht,HKS.out,HW.out⟩
inductive F where
 | node (o z:Int) (nm:ByteArray) (ks:List F)
def F.op:F->Int | .node o _ _ _=>o
def F.num:F->Int | .node _ z _ _=>z
def F.name:F->ByteArray | .node _ _ nm _=>nm
def F.kids:F->List F | .node _ _ _ ks=>ks
def srt (o:Int):Int:=if 8<=o/\o<=11 then 2 else if 12<=o/\o<=20 then 1 else 0
def kidsOk (o:Int) (ss:List Int):Bool:=
 if o=0\/o=1\/o=8\/o=9\/o=12\/o=13\/o=14 then decide (ss=[])
 else if o=3\/o=5 then decide (ss=[0])
 else if o=2\/o=4\/o=15 then decide (ss=[0,0])
 else if o=6\/o=7\/o=11 then decide (ss=[2])
 else if o=10 then decide (ss=[0,2])
 else if o=16 then decide (ss=[0,0]) || decide (ss=[2,2])
 else if o=17 then decide (ss=[1])
 else if o=18\/o=19 then ss.all (fun s=>decide (s=1))
 else if o=20 then decide (ss=[1,1])
 else false
def fitF (o z:Int) (ss:List Int):Bool:=kidsOk o ss && (decide (o≠5) || decide (1<=z))
def srts (ks:List F):List Int:=ks.map fun f=>srt f.op
mutual
def rt:F->Bool
 | .node o z _ ks=>fitF o z (srts ks) && rts ks
def rts:List F->Bool
 | []=>true
 | f::l=>rt f && rts l
end
theorem rts_all:∀ l:List F,rts l=l.all rt
 | []=>rfl
 | f::l=>by rw[rts,List.all_cons,rts_all l]
mutual
def szF:F->Nat
 | .node _ _ _ ks=>1+szsF ks
def szsF:List F->Nat
 | []=>0
 | f::l=>szF f+szsF l
end
theorem szsF_app:∀ a b:List F,szsF (a++b)=szsF a+szsF b
 | [],b=>by simp[szsF]
 | f::a,b=>by rw[List.cons_append,szsF,szsF,szsF_app a b];omega
theorem szsF_take (ks:List F) (j:Nat) (h:j<ks.length):szsF (ks.take (j+1))=szsF (ks.take j)+szF ks[j]:=by
 rw[List.take_succ_eq_append_getElem h,szsF_app,szsF,szsF];omega
theorem szsF_take_le (ks:List F) (j:Nat):szsF (ks.take j)<=szsF ks:=by
 have:=szsF_app (ks.take j) (ks.drop j);rw[List.take_append_drop] at this;omega
def asI:V->Int
 | .I z=>z
 | _=>0
def asB:V->Bool
 | .B b=>b
 | _=>false
def asL:V->List Int
 | .L l=>l
 | _=>[]
def at0 (vs:List V):V:=vs.getD 0 (.I 0)
def at1 (vs:List V):V:=vs.getD 1 (.I 0)
def opV (r:ByteArray->V) (o z:Int) (nm:ByteArray) (vs:List V):V:=
 if o=0 then .I z
 else if o=1 then .I (asI (r nm))
 else if o=2 then .I (asI (at0 vs)+asI (at1 vs))
 else if o=3 then .I (z*asI (at0 vs))
 else if o=4 then .I (asI (at0 vs)*asI (at1 vs))
 else if o=5 then .I (Int.fdiv (asI (at0 vs)) z)
 else if o=6 then .I ((asL (at0 vs)).length:Nat)
 else if o=7 then .I ((asL (at0 vs)).headD 0)
 else if o=8 then .L (asL (r nm))
 else if o=9 then .L []
 else if o=10 then .L (asI (at0 vs)::asL (at1 vs))
 else if o=11 then .L (asL (at0 vs)).tail
 else if o=12 then .B true
 else if o=13 then .B false
 else if o=14 then .B (asB (r nm))
 else if o=15 then .B (decide (asI (at0 vs)<=asI (at1 vs)))
 else if o=16 then .B (decide (at0 vs=at1 vs))
 else if o=17 then .B (!asB (at0 vs))
 else if o=18 then .B (vs.all asB)
 else if o=19 then .B (vs.any asB)
 else if o=20 then .B (asB (at0 vs)==asB (at1 vs))
 else .I 0
mutual
def ev (r:ByteArray->V):F->V
 | .node o z nm ks=>opV r o z nm (evs r ks)
def evs (r:ByteArray->V):List F->List V
 | []=>[]
 | f::l=>ev r f::evs r l
end
theorem evs_map (r:ByteArray->V):∀ l:List F,evs r l=l.map (ev r)
 | []=>rfl
 | f::l=>by rw[evs,List.map_cons,evs_map r l]
theorem ops21 (o:Int):(o=0\/o=1\/o=2\/o=3\/o=4\/o=5\/o=6\/o=7\/o=8\/o=9\/o=10\/o=11\/o=12\/o=13\/o=14\/o=15\/o=16\/o=17\/o=18\/o=19\/o=20)\/(o<0\/20<o):=by omega
theorem opV_sort (r:ByteArray->V) (o z:Int) (nm:ByteArray) (vs:List V):sortOf (opV r o z nm vs)=srt o:=by
 rcases ops21 o with h | h
 ·rcases h with rfl | rfl | rfl | rfl | rfl | rfl | rfl | rfl | rfl | rfl | rfl | rfl | rfl | rfl | rfl | rfl | rfl | rfl | rfl | rfl | rfl<;>rfl
 unfold opV srt;rw[if_neg (by omega),if_neg (by omega),if_neg (by omega),if_neg (by omega),if_neg (by omega),if_neg (by omega),if_neg (by omega),if_neg (by omega),if_neg (by omega),if_neg (by omega),if_neg (by omega),if_neg (by omega),if_neg (by omega),if_neg (by omega),if_neg (by omega),if_neg (by omega),if_neg (by omega),if_neg (by omega),if_neg (by omega),if_neg (by omega),if_neg (by omega),if_neg (by omega),if_neg (by omega)]
 rfl
theorem ev_sort (r:ByteArray->V):∀ f:F,sortOf (ev r f)=srt f.op
 | .node o z nm ks=>by rw[ev];exact opV_sort r o z nm _
theorem ev_int {r:ByteArray->V} {f:F} (h:srt f.op=0):ev r f=.I (asI (ev r f)):=by
 have:=ev_sort r f;rw[h] at this
 cases he:ev r f with
 | I z=>rfl
 | B b=>rw[he] at this;cases this
 | L l=>rw[he] at this;cases this
theorem ev_bool {r:ByteArray->V} {f:F} (h:srt f.op=1):ev r f=.B (asB (ev r f)):=by
 have:=ev_sort r f;rw[h] at this
 cases he:ev r f with
 | I z=>rw[he] at this;cases this
 | B b=>rfl
 | L l=>rw[he] at this;cases this
theorem ev_list {r:ByteArray->V} {f:F} (h:srt f.op=2):ev r f=.L (asL (ev r f)):=by
 have:=ev_sort r f;rw[h] at this
 cases he:ev r f with
 | I z=>rw[he] at this;cases this
 | B b=>rw[he] at this;cases this
 | L l=>rfl
def SmV:V->Prop
 | .I z=>z.natAbs<L32 ^ 600
 | .B _=>True
 | .L l=>l.length<=1000/\∀ z ∈ l,z.natAbs<L32 ^ 600
mutual
def Sm (r:ByteArray->V):F->Prop
 | .node o z nm ks=>SmV (opV r o z nm (evs r ks))/\Sms r ks
def Sms (r:ByteArray->V):List F->Prop
 | []=>True
 | f::l=>Sm r f/\Sms r l
end
theorem Sms.get {r:ByteArray->V}:∀ {l:List F},Sms r l->∀ f ∈ l,Sm r f
 | [],_,f,hf=>by cases hf
 | a::l,h,f,hf=>by
  rw[Sms] at h;rcases List.mem_cons.1 hf with rfl | hf
  ·exact h.1
  exact h.2.get f hf
theorem Sm.val {r:ByteArray->V}:∀ {f:F},Sm r f->SmV (ev r f)
 | .node o z nm ks,h=>by rw[Sm] at h;rw[ev];exact h.1
theorem Sm.kid {r:ByteArray->V} {o z:Int} {nm:ByteArray} {ks:List F} (h:Sm r (.node o z nm ks)):∀ f ∈ ks,Sm r f:=by
 rw[Sm] at h;exact h.2.get
def rho (env:List (ByteArray × V)) (nm:ByteArray):V:=env.foldl (fun a p=>if p.1=nm then p.2 else a) (.I 0)
theorem rho_app (env:List (ByteArray × V)) (p:ByteArray × V) (nm:ByteArray):rho (env++[p]) nm=if p.1=nm then p.2 else rho env nm:=by
 unfold rho;rw[List.foldl_append];rfl
theorem rho_take (env:List (ByteArray × V)) (nm:ByteArray) (j:Nat) (h:j<env.length):rho (env.take (j+1)) nm=if env[j].1=nm then env[j].2 else rho (env.take j) nm:=by
 rw[List.take_succ_eq_append_getElem h,rho_app]
def FreshF (w:World) (v v':Value):Prop:=∀ g,v'.ownBlock=some g->v.ownBlock=some g\/w.heap.size<=g
theorem append_freshF {P:Program} {w w':World} {t ty e:TypeId} {i:TypeInfo} {z:Value} (ht:P.underlying t=some (.slice e)) (hi:P.info? e=some i) (hz:i.zero=some z)
  {base n m c:Nat} {v v':Value} {xs news:List Value} (hown:w.ownsRow base e i.size v n xs) {a:Addr} (hl:news.length=m*i.size) (hnews:∀ j u,news[j]?=some u->w.cell? (a.add j)=some u) (h1:∀ u ∈ news,u.oneCell'=true)
  (h63:n+m<=1000000000) (hbytes:(n+m)*i.bytes<=140737488355328) (hm:0<m) (hzs:z.cells.size=i.size) (hsz:0<i.size)
  (hr:(Builtin.append_ #[t,t] ty #[v,.slice (some a) m c]).run P w=.ok v' w'):FreshF w v v':=by
 have h0:=hown;rcases hown.2 with ⟨rfl,rfl⟩ | ⟨g,cap,cur,rfl,hbg,hg,hnc,hcm,hcs,htake⟩
 ·have hx:xs=[]:=List.eq_nil_of_length_eq_zero (by simpa using hown.1);subst hx;obtain⟨v2,w2,hr2,ho2,_,_⟩:=run_append_own (P:=P) w w.heap.size t ty e i z i.size i.bytes ht hi hz rfl rfl hzs hsz (.slice none 0 0) 0 [] (World.ownsRow_nil w _ e i.size) a m c news hl hnews h1 (by unfold maxLen;omega) hbytes (Nat.le_refl _);rw[hr] at hr2;injection hr2 with e1 e2;subst e1;exact fun g hg=>.inr (ho2.lt g hg).1
 by_cases hroom:n+m<=cap
 ·have hfit:n*i.size+news.length<=cur.size:=by rw[hl,hcs,<-Nat.add_mul];exact Nat.mul_le_mul_right _ hroom
  rw[run_append_room (P:=P) w t ty e i ht hi g n cap cur hg a m c news hl hnews h1 hroom hfit] at hr;injection hr with e1 e2;subst e1;exact fun q hq=>.inl hq
 rw[run_append_grow (P:=P) w t ty e i z ht hi hz ⟨g,0,none⟩ n cap xs h0.1 (h0.cells (g:=g) rfl) a m c news hl hnews (by omega) (by omega) (growslice_fits (by omega) hbytes)] at hr;injection hr with e1 e2;subst e1;intro q hq;injection hq with hq;exact .inr (by rw[<-hq];exact Nat.le_refl _)
theorem cell_keepF {w w':World} {p:Addr} (h:w'.heap[p.block]?=w.heap[p.block]?):w'.cell? p=w.cell? p:=World.cell?_of_block h
def AtF (n:Nat) (w:World) (ko:Option Addr) (i:Nat) (cs:List Value):Prop:=∃ a,ko=some a/\∀ j v,cs[j]?=some v->w.cell? ((a.add (i*n)).add j)=some v
theorem AtF.keep {n:Nat} {w w':World} {ko:Option Addr} {i:Nat} {cs:List Value} (h:AtF n w ko i cs) (hk:∀ a,ko=some a->w'.heap[a.block]?=w.heap[a.block]?):AtF n w' ko i cs:=by
 obtain⟨a,rfl,h⟩:=h;refine⟨a,rfl,fun j v hv=>?_⟩;rw[cell_keepF (w:=w) (by rw[add_blockV,add_blockV];exact hk a rfl)];exact h j v hv
theorem AtF.lt {n:Nat} {w:World} {ko:Option Addr} {i:Nat} {c:Value} {cs:List Value} (h:AtF n w ko i (c::cs)):∀ a,ko=some a->a.block<w.heap.size:=by
 obtain⟨a,rfl,h⟩:=h;rintro _ ⟨⟩;have:=cell_lt (h 0 _ rfl)
 rwa [add_blockV,add_blockV] at this
theorem own_atF {n:Nat} {w:World} {base:Nat} {e:TypeId} {ko:Option Addr} {m kc:Nat} {α:Type} (f:α->List Value) (hf:∀ a,(f a).length=n) {ys:List α} (hm:m=ys.length) (h:w.ownsRow base e n (.slice ko m kc) m (ys.flatMap f)) (i:Nat) (hi:i<ys.length):AtF n w ko i (f ys[i]):=by
 have hfl:∀ (l:List α) (i j:Nat) (hi:i<l.length),j<n->(l.flatMap f)[i*n+j]?=(f l[i])[j]?:=by
  intro l
  induction l with
  | nil=>intro i j hi;simp at hi
  | cons a l ih =>
   intro i j hi hj;rw[List.flatMap_cons]
   cases i with
   | zero=>rw[Nat.zero_mul,Nat.zero_add,List.getElem?_append_left (by rw[hf];exact hj)];rfl
   | succ i =>
    rw[List.getElem?_append_right (by rw[hf,Nat.add_mul];omega),hf,show (i+1)*n+j - n=i*n+j by rw[Nat.add_mul];omega,List.getElem_cons_succ];exact ih i j (by simpa using hi) hj
 have hll:∀ l:List α,(l.flatMap f).length=l.length*n:=by
  intro l
  induction l with
  | nil=>simp
  | cons a l ih=>rw[List.flatMap_cons,lsa,ih,hf,lsc,Nat.add_mul];omega
 have h0:=h;rcases h.2 with ⟨hv,h1⟩ | ⟨g,cap,cur,hv,hb,hg,h1,h2,h3,h4⟩
 ·omega
 injection hv with e1 e2 e3;subst e1 e3;refine⟨_,rfl,fun j v hj=>?_⟩;have hjn:j<n:=by have:=(List.getElem?_eq_some_iff.1 hj).1;rwa [hf] at this
 rw[add_litV,add_litV,Nat.zero_add,World.ownsRow.cellAt h0 (i*n+j) (by
  rw[hm]
  calc i*n+j<i*n+n:=by omega
   _=(i+1)*n:=by rw[Nat.add_mul];omega
   _<=ys.length*n:=Nat.mul_le_mul_right _ hi),hfl ys i j hi hjn]
 exact hj
def KN (w w':World):Prop:=∀ (a:Addr) (z:Int),w.cell? a=some (.int .u32 z)->w'.cell? a=some (.int .u32 z)
theorem KN.of_below {w w':World} (h:Below w.heap.size w w'):KN w w':=fun a z hc=>by rw[h.cell (World.block_lt_of_cell? w a hc)];exact hc
theorem KN.of_fr {e:TypeId} {w w':World} (h:Fr e w w'):KN w w':=h.num
theorem KN.trans {a b c:World} (h:KN a b) (k:KN b c):KN a c:=fun p z hp=>k p z (h p z hp)
theorem Sl.kn {w w':World} {v:Value} {xs:List Nat} (h:Sl w .u32 v xs) (k:KN w w'):Sl w' .u32 v xs:=by
 obtain⟨ao,cap,e1,h1,h2,h3,h4⟩:=h;refine⟨ao,cap,e1,h1,h2,h3,fun i hi=>?_⟩;obtain⟨a,ha,hc⟩:=h4 i hi;exact⟨a,ha,k _ _ hc⟩
theorem CI.kn {w w':World} {v:Value} {z:Int} {k:Nat} (h:CI w v z k) (f:KN w w'):CI w' v z k:=by
 obtain⟨va,h1,h2,h3⟩:=h;exact⟨va,h1,h2.kn f,h3⟩
structure Es (α:Type) where
 e:TypeId
 n:Nat
 f:α->List Value
 R:World->(Nat->Prop)->α->Prop
 pos:0<n
 len:∀ a,(f a).length=n
 one:∀ a,∀ u ∈ f a,u.oneCell'=true
 keep:∀ {w w':World} {S:Nat->Prop} {a:α},(∀ g,S g->w'.heap[g]?=w.heap[g]?)->KN w w'->R w S a->R w' S a
 mono:∀ {w:World} {S S':Nat->Prop} {a:α},(∀ g,S g->S' g)->R w S a->R w S' a
 lt:∀ {w:World} {S:Nat->Prop} {a:α},R w S a->R w (fun g=>S g/\g<w.heap.size) a
section
variable {α:Type} (E:Es α)
theorem Es.below {w w':World} {S:Nat->Prop} {a:α} (h:E.R w S a) (hb:Below w.heap.size w w'):E.R w' S a:=E.mono (fun _ h=>h.1) (E.keep (fun g hg=>hb.block g hg.2) (KN.of_below hb) (E.lt h))
theorem Es.grown {w w':World} {S:Nat->Prop} {a:α} {r:Option Nat} (h:E.R w S a) (hg:w.grownBy w' r) (hn:KN w w') (hS:∀ b,S b->r≠some b):E.R w' S a:=
 E.mono (fun _ h=>h.1) (E.keep (fun q hq=>hg.block q hq.2 (fun e=>hS q hq.1 e.symm)) hn (E.lt h))
variable {E}
def Es.At (E:Es α) (w:World) (S:Nat->Prop) (v:Value) (el:List α):Prop:=∃ ko kc,v=.slice ko el.length kc/\(el.length<=kc/\kc<=maxLen/\(ko=none->kc=0))/\(el.length≠0->∀ a,ko=some a->S a.block)/\∀ i (h:i<el.length),AtF E.n w ko i (E.f el[i])/\E.R w S el[i]
theorem Es.At.keep {w w':World} {S:Nat->Prop} {v:Value} {el:List α} (hk:∀ g,S g->w'.heap[g]?=w.heap[g]?) (hn:KN w w') (h:E.At w S v el):E.At w' S v el:=by
 obtain⟨ko,kc,rfl,h1,h2,h3⟩:=h;exact⟨ko,kc,rfl,h1,h2,fun i hi=>⟨(h3 i hi).1.keep fun a ha=>hk _ (h2 (by omega) a ha),E.keep hk hn (h3 i hi).2⟩⟩
theorem Es.At.mono {w:World} {S S':Nat->Prop} {v:Value} {el:List α} (hs:∀ g,S g->S' g) (h:E.At w S v el):E.At w S' v el:=by
 obtain⟨ko,kc,rfl,h1,h2,h3⟩:=h;exact⟨ko,kc,rfl,h1,fun h0 a ha=>hs _ (h2 h0 a ha),fun i hi=>⟨(h3 i hi).1,E.mono hs (h3 i hi).2⟩⟩
theorem Es.At.lt {w:World} {S:Nat->Prop} {v:Value} {el:List α} (h:E.At w S v el):E.At w (fun g=>S g/\g<w.heap.size) v el:=by
 obtain⟨ko,kc,rfl,h1,h2,h3⟩:=h;refine⟨ko,kc,rfl,h1,fun h0 a ha=>⟨h2 h0 a ha,?_⟩,fun i hi=>⟨(h3 i hi).1,E.lt (h3 i hi).2⟩⟩;have h:=(h3 0 (by omega)).1
 cases hf:E.f (el[0]'(by omega)) with
 | nil=>have:=E.len (el[0]'(by omega));rw[hf] at this;have:=E.pos;simp at *;omega
 | cons c cs=>rw[hf] at h;exact h.lt a ha
theorem Es.At.below {w w':World} {S:Nat->Prop} {v:Value} {el:List α} (h:E.At w S v el) (hb:Below w.heap.size w w'):E.At w' S v el:=(Es.At.keep (fun g hg=>hb.block g hg.2) (KN.of_below hb) h.lt).mono fun _ h=>h.1
theorem Es.At.grown {w w':World} {S:Nat->Prop} {v:Value} {el:List α} {r:Option Nat} (h:E.At w S v el) (hg:w.grownBy w' r) (hn:KN w w') (hS:∀ b,S b->r≠some b):E.At w' S v el:=
 (Es.At.keep (fun q hq=>hg.block q hq.2 (fun e=>hS q hq.1 e.symm)) hn h.lt).mono fun _ h=>h.1
end
theorem infoForm:(Try.prog.info? 29).map (fun i=>(i.zero,i.size,i.bytes))=some (some (.agg #[.int .i64 0,.bool false,.slice none 0 0,.string ⟨#[]⟩,.slice none 0 0]),5,80):=by kernel_rfl
structure FU where
 k:Int
 n:NU
 nm:ByteArray
 ko:Option Addr
 kl:Nat
 kc:Nat
def fC (u:FU):List Value:=[.int .i64 u.k,.bool (decide (u.n.z<0)),.slice u.n.o u.n.l u.n.c,.string u.nm,.slice u.ko u.kl u.kc]
def fV (u:FU):Value:=.agg #[.int .i64 u.k,.bool (decide (u.n.z<0)),.slice u.n.o u.n.l u.n.c,.string u.nm,.slice u.ko u.kl u.kc]
def IR (z:Int):Prop:=-9223372036854775808<=z/\z<=9223372036854775807
def FT (w:World) (S:Nat->Prop):Nat->FU->F->Prop
 | 0,_,_=>False
 | d+1,u,t=>(u.k=t.op/\IR u.k/\u.n.z=t.num/\u.nm=t.name)/\NR w u.n/\∃ el:List (FU × F),el.map (·.2)=t.kids/\(u.kl=el.length/\el.length<=u.kc/\u.kc<=maxLen/\(u.ko=none->u.kc=0)) /\
   (el.length≠0->∀ a,u.ko=some a->S a.block)/\∀ i (h:i<el.length),AtF 5 w u.ko i (fC el[i].1)/\FT w S d el[i].1 el[i].2
theorem FT.keep {w w':World} {S:Nat->Prop} (hk:∀ g,S g->w'.heap[g]?=w.heap[g]?) (hn:KN w w'):∀ {d:Nat} {u:FU} {t:F},FT w S d u t->FT w' S d u t
 | 0,_,_,h=>h
 | d+1,u,t,⟨h1,h2,el,h3,h4,h5,h6⟩=>⟨h1,CI.kn h2 hn,el,h3,h4,h5,fun i hi=>⟨(h6 i hi).1.keep fun a ha=>hk _ (h5 (by omega) a ha),(h6 i hi).2.keep hk hn⟩⟩
theorem FT.mono {w:World} {S S':Nat->Prop} (hs:∀ g,S g->S' g):∀ {d:Nat} {u:FU} {t:F},FT w S d u t->FT w S' d u t
 | 0,_,_,h=>h
 | d+1,u,t,⟨h1,h2,el,h3,h4,h5,h6⟩=>⟨h1,h2,el,h3,h4,fun h0 a ha=>hs _ (h5 h0 a ha),fun i hi=>⟨(h6 i hi).1,(h6 i hi).2.mono hs⟩⟩
theorem FT.lt {w:World} {S:Nat->Prop}:∀ {d:Nat} {u:FU} {t:F},FT w S d u t->FT w (fun g=>S g/\g<w.heap.size) d u t
 | 0,_,_,h=>h
 | d+1,u,t,⟨h1,h2,el,h3,h4,h5,h6⟩=>⟨h1,h2,el,h3,h4,fun h0 a ha=>⟨h5 h0 a ha,(h6 0 (by omega)).1.lt a ha⟩,fun i hi=>⟨(h6 i hi).1,(h6 i hi).2.lt⟩⟩
theorem FT.up {w:World} {S:Nat->Prop}:∀ {d:Nat} {u:FU} {t:F},FT w S d u t->∀ {d':Nat},d<=d'->FT w S d' u t
 | 0,_,_,h,_,_=>absurd h id
 | d+1,u,t,⟨h1,h2,el,h3,h4,h5,h6⟩,0,hd=>by omega
 | d+1,u,t,⟨h1,h2,el,h3,h4,h5,h6⟩,d'+1,hd=>⟨h1,h2,el,h3,h4,h5,fun i hi=>⟨(h6 i hi).1,(h6 i hi).2.up (Nat.le_of_succ_le_succ hd)⟩⟩
def fE (d:Nat):Es (FU × F) where
 e:=29
 n:=5
 f q:=fC q.1
 R w S q:=FT w S d q.1 q.2
 pos:=by decide
 len _:=rfl
 one q:=by
  intro u hu;simp only[fC,List.mem_cons,List.not_mem_nil,or_false] at hu;rcases hu with rfl | rfl | rfl | rfl | rfl<;>rfl
 keep h n k:=k.keep h n
 mono h k:=k.mono h
 lt k:=k.lt
theorem FT.below {w w':World} {S:Nat->Prop} {d:Nat} {u:FU} {t:F} (h:FT w S d u t) (hb:Below w.heap.size w w'):FT w' S d u t:=(fE d).below (a:=(u,t)) h hb
theorem FT.grown {w w':World} {S:Nat->Prop} {d:Nat} {u:FU} {t:F} {r:Option Nat} (h:FT w S d u t) (hg:w.grownBy w' r) (hn:KN w w') (hS:∀ b,S b->r≠some b):FT w' S d u t:=(fE d).grown (a:=(u,t)) h hg hn hS
def FC (w:World) (S:Nat->Prop) (d:Nat) (v:Value) (t:F):Prop:=∃ u:FU,v=fV u/\FT w S d u t
def FL (w:World) (S:Nat->Prop) (d:Nat) (v:Value) (ts:List F):Prop:=∃ el:List (FU × F),(fE d).At w S v el/\el.map (·.2)=ts
theorem FC.below {w w':World} {S:Nat->Prop} {d:Nat} {v:Value} {t:F} (h:FC w S d v t) (hb:Below w.heap.size w w'):FC w' S d v t:=by
 obtain⟨u,h1,h2⟩:=h;exact⟨u,h1,h2.below hb⟩
theorem FC.mono {w:World} {S S':Nat->Prop} {d:Nat} {v:Value} {t:F} (hs:∀ g,S g->S' g) (h:FC w S d v t):FC w S' d v t:=by
 obtain⟨u,h1,h2⟩:=h;exact⟨u,h1,h2.mono hs⟩
theorem FC.up {w:World} {S:Nat->Prop} {d d':Nat} {v:Value} {t:F} (h:FC w S d v t) (hd:d<=d'):FC w S d' v t:=by
 obtain⟨u,h1,h2⟩:=h;exact⟨u,h1,h2.up hd⟩
theorem FC.grown {w w':World} {S:Nat->Prop} {d:Nat} {v:Value} {t:F} {r:Option Nat} (h:FC w S d v t) (hg:w.grownBy w' r) (hn:KN w w') (hS:∀ b,S b->r≠some b):FC w' S d v t:=by
 obtain⟨u,h1,h2⟩:=h;exact⟨u,h1,h2.grown hg hn hS⟩
theorem FL.below {w w':World} {S:Nat->Prop} {d:Nat} {v:Value} {ts:List F} (h:FL w S d v ts) (hb:Below w.heap.size w w'):FL w' S d v ts:=by
 obtain⟨el,h1,h2⟩:=h;exact⟨el,h1.below hb,h2⟩
theorem FL.mono {w:World} {S S':Nat->Prop} {d:Nat} {v:Value} {ts:List F} (hs:∀ g,S g->S' g) (h:FL w S d v ts):FL w S' d v ts:=by
 obtain⟨el,h1,h2⟩:=h;exact⟨el,h1.mono hs,h2⟩
theorem FL.grown {w w':World} {S:Nat->Prop} {d:Nat} {v:Value} {ts:List F} {r:Option Nat} (h:FL w S d v ts) (hg:w.grownBy w' r) (hn:KN w w') (hS:∀ b,S b->r≠some b):FL w' S d v ts:=by
 obtain⟨el,h1,h2⟩:=h;exact⟨el,h1.grown hg hn hS,h2⟩
theorem FC.open {w:World} {S:Nat->Prop} {d:Nat} {v:Value} {t:F} (h:FC w S d v t):∃ (b:Bool) (o:Option Addr) (l c:Nat) (ko:Option Addr) (kl kc:Nat),
  v=.agg #[.int .i64 t.op,.bool b,.slice o l c,.string t.name,.slice ko kl kc]/\(IR t.op/\CI w (.agg #[.bool b,.slice o l c]) t.num 600/\kl=t.kids.length/\kl<=kc/\kc<=maxLen)/\1<=d/\FL w S (d - 1) (.slice ko kl kc) t.kids:=by
 obtain⟨u,rfl,h⟩:=h
 cases d with
 | zero=>exact absurd h id
 | succ d =>
  obtain⟨⟨h1,h2,h3,h4⟩,h5,el,h6,⟨h7,h8,h9,h10⟩,h11,h12⟩:=h;have h13:u.kl=t.kids.length:=by rw[h7,<-h6,List.length_map]
  have h14:u.kl<=u.kc:=by rw[h7];exact h8
  refine⟨decide (u.n.z<0),u.n.o,u.n.l,u.n.c,u.ko,u.kl,u.kc,?_,⟨by rw[<-h1];exact h2,?_,h13,h14,h9⟩,Nat.succ_le_succ (Nat.zero_le _),el,⟨u.ko,u.kc,by rw[h7],⟨h8,h9,h10⟩,h11,h12⟩,h6⟩
  ·unfold fV;rw[h1,h4]
  rw[<-h3];exact h5
theorem FL.form {w:World} {S:Nat->Prop} {d:Nat} {v:Value} {ts:List F} (h:FL w S d v ts):∃ ko kc,v=.slice ko ts.length kc/\(ts.length<=kc/\kc<=maxLen/\(ko=none->kc=0)):=by
 obtain⟨el,⟨ko,kc,rfl,h1,-⟩,rfl⟩:=h;exact⟨ko,kc,by simp,by simpa using h1⟩
theorem FL.cells {w:World} {S:Nat->Prop} {d:Nat} {ko:Option Addr} {n kc:Nat} {ts:List F} (h:FL w S d (.slice ko n kc) ts) (i:Nat) (hi:i<ts.length):∃ (a:Addr) (b:Bool) (o:Option Addr) (l c:Nat) (po:Option Addr) (pl pc:Nat),ko=some a /\
  (w.cell? (a.add (i*5))=some (.int .i64 ts[i].op)/\w.cell? ⟨(a.add (i*5)).block,(a.add (i*5)).off+1,none⟩=some (.bool b)/\w.cell? ⟨(a.add (i*5)).block,(a.add (i*5)).off+2,none⟩=some (.slice o l c) /\
   w.cell? ⟨(a.add (i*5)).block,(a.add (i*5)).off+3,none⟩=some (.string ts[i].name)/\w.cell? ⟨(a.add (i*5)).block,(a.add (i*5)).off+4,none⟩=some (.slice po pl pc)) /\
  FC w S d (.agg #[.int .i64 ts[i].op,.bool b,.slice o l c,.string ts[i].name,.slice po pl pc]) ts[i]:=by
 obtain⟨el,⟨ko',kc',e,h1,h2,h3⟩,rfl⟩:=h;injection e with e1 e2 e3;subst e1;have hi':i<el.length:=by simpa using hi
 obtain⟨⟨a,ha,hc⟩,hT⟩:=h3 i hi';simp only[List.getElem_map]
 have hk:el[i].1.k=el[i].2.op/\el[i].1.nm=el[i].2.name:=by
  cases d with
  | zero=>exact absurd hT id
  | succ d=>obtain⟨⟨h1,h2,h3,h4⟩,-⟩:=hT;exact⟨h1,h4⟩
 refine⟨a,_,_,_,_,_,_,_,ha,⟨by have:=hc 0 _ rfl;rw[<-hk.1];exact this,hc 1 _ rfl,hc 2 _ rfl,by have:=hc 3 _ rfl;rw[<-hk.2];exact this,hc 4 _ rfl⟩,el[i].1,?_,hT⟩;unfold fV;rw[hk.1,hk.2]
theorem FC.mk {w:World} {S:Nat->Prop} {d:Nat} {b:Bool} {o:Option Addr} {l c:Nat} {nm:ByteArray} {ko:Option Addr} {kl kc:Nat} {op z:Int} {ks:List F} (hr:IR op) (hz:CI w (.agg #[.bool b,.slice o l c]) z 600)  (hk:FL w S d (.slice ko kl kc) ks) :
  FC w S (d+1) (.agg #[.int .i64 op,.bool b,.slice o l c,.string nm,.slice ko kl kc]) (.node op z nm ks):=by
 have hb:b=decide (z<0):=by
  obtain⟨va,e,_⟩:=hz;injection e with e;have e1:=congrArg (fun t:Array Value=>t[0]?) e;injection e1 with e1;injection e1 with e1
 subst hb;obtain⟨el,⟨ko',kc',e,h1,h2,h3⟩,rfl⟩:=hk;injection e with e1 e2 e3;subst e1;subst e3;exact⟨⟨op,⟨o,l,c,z⟩,nm,ko,kl,kc⟩,rfl,⟨rfl,hr,rfl,rfl⟩,hz,el,rfl,⟨e2,h1⟩,h2,h3⟩
theorem FL.nil (w:World) (S:Nat->Prop) (d:Nat):FL w S d (.slice none 0 0) []:=⟨[],⟨none,0,rfl,⟨Nat.le_refl _,Nat.zero_le _,fun _=>rfl⟩,fun h=>absurd rfl h,fun i hi=>absurd hi (Nat.not_lt_zero i)⟩,rfl⟩
theorem sort_p (o:Int) (b:Bool) (ao:Option Addr) (l c:Nat) (nm:ByteArray) (ko:Option Addr) (kl kc:Nat) (w:World) :
  Calls Try.prog 10 #[.agg #[.int .i64 o,.bool b,.slice ao l c,.string nm,.slice ko kl kc]] w fun e w'=>e=.returned (.int .i64 (srt o))/\Below w.heap.size w w':=by
 have hb:=(Below.refl w.heap.size w).alloc (Nat.le_refl _) (.cells #[.int .i64 o,.bool b,.slice ao l c,.string nm,.slice ko kl kc] 29);have HB:=Lib.hid hb;clear hb
 by_cases h1:8<=o/\o<=20
 ·have:o=8\/o=9\/o=10\/o=11\/o=12\/o=13\/o=14\/o=15\/o=16\/o=17\/o=18\/o=19\/o=20:=by omega
  clear h1;rcases this with rfl | rfl | rfl | rfl | rfl | rfl | rfl | rfl | rfl | rfl | rfl | rfl | rfl
  all_goals (go_enter Try.func10,Try.ntmps10;go_wp2_with fail;go_ret;exact⟨rfl,HB.out⟩)
 have hs:srt o=0:=by unfold srt;rw[if_neg (by omega),if_neg (by omega)]
 have n8:(o==8)=false:=beq_eq_false_iff_ne.2 (by omega);have n9:(o==9)=false:=beq_eq_false_iff_ne.2 (by omega);have n10:(o==10)=false:=beq_eq_false_iff_ne.2 (by omega);have n11:(o==11)=false:=beq_eq_false_iff_ne.2 (by omega);have n12:(o==12)=false:=beq_eq_false_iff_ne.2 (by omega);have n13:(o==13)=false:=beq_eq_false_iff_ne.2 (by omega);have n14:(o==14)=false:=beq_eq_false_iff_ne.2 (by omega);have n15:(o==15)=false:=beq_eq_false_iff_ne.2 (by omega);have n16:(o==16)=false:=beq_eq_false_iff_ne.2 (by omega);have n17:(o==17)=false:=beq_eq_false_iff_ne.2 (by omega);have n18:(o==18)=false:=beq_eq_false_iff_ne.2 (by omega);have n19:(o==19)=false:=beq_eq_false_iff_ne.2 (by omega);have n20:(o==20)=false:=beq_eq_false_iff_ne.2 (by omega);clear h1;go_enter Try.func10,Try.ntmps10
 go_wp2_with fail
 go_ret
 exact⟨by rw[hs];rfl,HB.out⟩
theorem are1_p (o:Int) (b:Bool) (ao:Option Addr) (l c:Nat) (nm:ByteArray) (ko:Option Addr) (kl kc:Nat) (s:Int) (w:World) :
  Calls Try.prog 74 #[.agg #[.int .i64 o,.bool b,.slice ao l c,.string nm,.slice ko kl kc],.int .i64 s] w fun e w'=>e=.returned (.bool (srt o==s))/\Below w.heap.size w w':=by
 have hb:=(Below.refl w.heap.size w).alloc (Nat.le_refl _) (.cells #[.int .i64 o,.bool b,.slice ao l c,.string nm,.slice ko kl kc] 29);have HB:=Lib.hid hb;clear hb;go_enter Try.func74,Try.ntmps74
 go_wp2_with fail
 refine (sort_p o b ao l c nm ko kl kc _).mono ?_;rintro e w2 ⟨rfl,hb⟩;have HW:=Lib.hid (HB.out.trans (hb.mono HB.out.size));clear hb;go_wp2_with fail
 go_ret
 exact⟨rfl,HW.out⟩
theorem areAll1_p (o:Int) (b:Bool) (ao:Option Addr) (l c:Nat) (nm:ByteArray) (ko:Option Addr) (kl kc:Nat) (s:Int) (kb:Nat) (w:World) (hB:w.heap[kb]?=some (.cells #[.int .i64 s] 32 (0,0))) :
  Calls Try.prog 76 #[.agg #[.int .i64 o,.bool b,.slice ao l c,.string nm,.slice ko kl kc],.pointer (some ⟨kb,0,none⟩)] w fun e w'=>e=.returned (.bool (srt o != s))/\Below w.heap.size w w':=by
 have HBb:=Lib.hid hB;clear hB;have HW:=Lib.hid (Below.refl w.heap.size w);go_enter Try.func76,Try.ntmps76
 obtain⟨x1,kf,ef,ekf,hbf,hkf,HBf⟩:=newV w #[.int .i64 o,.bool b,.slice ao l c,.string nm,.slice ko kl kc] 29;replace HBb:=kBV hbf.out HBb;replace HW:=Lib.hid (HW.out.trans (hbf.out.mono HW.out.size));have c0:=cell_at (v:=.int .i64 o) HBf.out 0 rfl;have fc0:=froz_at HBf.out 0;have c1:=cell_at (v:=.bool b) HBf.out 1 rfl;have fc1:=froz_at HBf.out 1;have c2:=cell_at (v:=.slice ao l c) HBf.out 2 rfl;have fc2:=froz_at HBf.out 2;have c3:=cell_at (v:=.string nm) HBf.out 3 rfl;have fc3:=froz_at HBf.out 3;have c4:=cell_at (v:=.slice ko kl kc) HBf.out 4 rfl;have fc4:=froz_at HBf.out 4;go_upto_region 1 with fail
 clear c0 fc0 c1 fc1 c2 fc2 c3 fc3 c4 fc4;have hlt_f:=lt_of_block HBf.out;have hlt_b:=lt_of_block HBb.out;have hog:Hid (∀ q,q<0->(fun q=>0) q<x1.heap.size):=Lib.hid (fun q h=>absurd h (Nat.not_lt_zero _));refine R7.region (by kernel_rfl) [[],[0],[],[0,1,2],[0,1,2,3]] [] [] (fun q=>0) 0 5 (by kernel_rfl) (by kernel_rfl) (by rfl) hog.out (fun q q' h h' hn=>absurd hn (by omega)) ?_;refine R7.Chain.det ?_ (by rfl) (fun T xs wr hA=>?_) ?_
 rotate_left 1
 ·have e2:=hA.pre 2 (by kernel_rfl);simp only[gsa,gsc,gsz] at e2;have hBq:wr.heap[kf]?=_:=(hA.bl _ hlt_f (fun q h=>absurd h (Nat.not_lt_zero _))).trans HBf.out;have q0:=cell_at (v:=.int .i64 o) hBq 0 rfl;have q1:=cell_at (v:=.bool b) hBq 1 rfl;have q2:=cell_at (v:=.slice ao l c) hBq 2 rfl;have q3:=cell_at (v:=.string nm) hBq 3 rfl;have q4:=cell_at (v:=.slice ko kl kc) hBq 4 rfl;clear hBq;clear hA;refine⟨(by rfl),?_⟩;go_simp<;>(try with_reducible rfl)
 refine R7.Chain.call (fun xs v w=>v=.int .i64 (srt o)) (fun _ _ _ _ h _=>h) (fun _ _ _ _ _ h _ _=>h) (by rfl) (fun T xs wr hA=>?_) ?_
 ·have hsw:=(hA.be 0 (Nat.zero_le _) (fun _ _=>Nat.zero_le _)).size;have e4:=hA.tm 0 4 (by rfl) (by rfl);have f4:xs 0=_:=hA.fa 0 (by rfl)
  (try simp (disch:=first | rfl | decide) only [R7.mask_in] at f4)
  rw[f4] at e4;clear f4;have hbw:=undrew (hA.be x1.heap.size (Nat.le_refl _) (fun q h=>absurd h (Nat.not_lt_zero q)));clear hA;refine⟨(by rfl),fun K hK=>?_⟩;go_simp
  refine (sort_p o b ao l c nm ko kl kc wr).mono ?_;rintro e w' ⟨rfl,hb'⟩;exact hK.out _ _ rfl hb'
 refine R7.Chain.det ?_ (by rfl) (fun T xs wr hA=>?_) ?_
 rotate_left 1
 ·have e1:=hA.pre 1 (by kernel_rfl);simp only[gsa,gsc,gsz] at e1;have hBq:wr.heap[kb]?=_:=(hA.bl _ hlt_b (fun q h=>absurd h (Nat.not_lt_zero _))).trans HBb.out;have q0:=cell_at (v:=.int .i64 s) hBq 0 rfl;clear hBq;clear hA;refine⟨(by rfl),?_⟩;go_simp<;>(try with_reducible rfl)
 refine R7.Chain.det ?_ (by rfl) (fun T xs wr hA=>?_) ?_
 rotate_left 1
 ·have e5:=hA.tm 1 5 (by rfl) (by rfl);have f5:xs 1=(.int .i64 (srt o)):=hA.fa 1 (by rfl);rw[f5] at e5;clear f5;have e6:=hA.tm 2 6 (by rfl) (by rfl);have f6:xs 2=_:=hA.fa 2 (by rfl)
  (try simp (disch:=first | rfl | decide) only [R7.mask_in] at f6)
  rw[f6] at e6;clear f6;clear hA;refine⟨(by rfl),?_⟩;go_simp<;>(try with_reducible rfl)
 refine R7.Chain.det ?_ (by rfl) (fun T xs wr hA=>?_) ?_
 rotate_left 1
 ·have e7:=hA.tm 3 7 (by rfl) (by rfl);have f7:xs 3=_:=hA.fa 3 (by rfl)
  (try simp (disch:=first | rfl | decide) only [R7.mask_in] at f7)
  rw[f7] at e7;clear f7;clear hA;refine⟨(by rfl),?_⟩;go_simp<;>(try with_reducible rfl)
 refine R7.Chain.done (fun xs x2 hL=>?_);obtain⟨⟨hbe,hbl⟩,hf,-,-⟩:=hL;have f0:xs 0=_:=hf 0 (by decide)
 (try simp (disch:=first | rfl | decide) only [R7.mask_in] at f0)
 have f1:xs 1=(.int .i64 (srt o)):=hf 1 (by decide);have f2:xs 2=_:=hf 2 (by decide)
 (try simp (disch:=first | rfl | decide) only [R7.mask_in] at f2)
 have f3:xs 3=_:=hf 3 (by decide)
 (try simp (disch:=first | rfl | decide) only [R7.mask_in] at f3)
 have f4:xs 4=_:=hf 4 (by decide)
 (try simp (disch:=first | rfl | decide) only [R7.mask_in] at f4)
 have hb0:Below 0 x1 x2:=undrew (hbe 0 (Nat.zero_le _) (fun _ _=>Nat.zero_le _));have hgr:∀ j,j<x1.heap.size->(∀ q,q<0->(fun q=>0) q≠j)->x2.heap[j]?=x1.heap[j]?:=hbl;clear hbe hbl hf;have hb:Below x1.heap.size x1 x2:=⟨hb0.os,hb0.tape,hb0.output,hb0.size,fun q hq=>hgr q hq (fun q h=>absurd h (Nat.not_lt_zero _))⟩
 refine R7.rest_done ?_;simp only[R7.fill,t5_,t6_,t7_,f0,f1,f2,f3,f4];clear hb0 hgr hog hlt_f hlt_b f0 f1 f2 f3 f4;replace HBb:=kBV hb HBb;replace HBf:=kBV hb HBf;replace HW:=Lib.hid (HW.out.trans (hb.mono HW.out.size));replace hb:=Lib.hid hb;go_wp2_with fail
 go_ret
 exact⟨rfl,HW.out⟩
def BL (w:World) (v:Value) (ss:List Int):Prop:=∃ ko kc,v=.slice ko ss.length kc/\(ss.length<=kc/\kc<=maxLen)/\∀ i (hi:i<ss.length),∃ a,ko=some a/\w.cell? (a.add i)=some (.int .i64 ss[i])
theorem BL.below {w w':World} {v:Value} {ss:List Int} (h:BL w v ss) (hb:Below w.heap.size w w'):BL w' v ss:=by
 obtain⟨ko,kc,rfl,h1,h2⟩:=h;refine⟨ko,kc,rfl,h1,fun i hi=>?_⟩;obtain⟨a,ha,hc⟩:=h2 i hi;exact⟨a,ha,by rw[hb.cell (World.block_lt_of_cell? w _ hc)];exact hc⟩
theorem BL.cells {w:World} {ko:Option Addr} {n kc:Nat} {ss:List Int} (h:BL w (.slice ko n kc) ss) (i:Nat) (hi:i<ss.length):∃ a,ko=some a/\w.cell? (a.add i)=some (.int .i64 ss[i]):=by
 obtain⟨ko',kc',e,h1,h2⟩:=h;injection e with e1 e2 e3;subst e1;exact h2 i hi
theorem BL.block {w:World} {g:Nat} {ss:List Int} {T:TypeId} (h:w.heap[g]?=some (.cells (ss.map (Value.int .i64)).toArray T (0,0))) (hl:ss.length<=maxLen):BL w (.slice (some ⟨g,0,none⟩) ss.length ss.length) ss:=
 ⟨_,_,rfl,⟨Nat.le_refl _,hl⟩,fun i hi=>⟨_,rfl,by rw[add_litV,Nat.zero_add,cell_of_row w g _ _ _ _ h];simp[hi]⟩⟩
theorem BL.nil (w:World):BL w (.slice none 0 0) []:=⟨none,0,rfl,⟨Nat.le_refl _,Nat.zero_le _⟩,fun i hi=>absurd hi (Nat.not_lt_zero i)⟩
theorem srts_len (ts:List F):(srts ts).length=ts.length:=by unfold srts;rw[List.length_map]
theorem srts_get (ts:List F) (i:Nat) (hi:i<ts.length) (hi':i<(srts ts).length):(srts ts)[i]=srt ts[i].op:=List.getElem_map (fun f:F=>srt f.op)
theorem equalS_p (va vb:Value) (ts:List F) (M:List Int) (d:Nat) (S:Nat->Prop) (w:World) (h1:FL w S d va ts) (h2:BL w vb M) :
  Calls Try.prog 73 #[va,vb,.func (.func 74) #[] #[]] w fun e w'=>e=.returned (.bool (decide (srts ts=M)))/\Below w.heap.size w w':=by
 obtain⟨ko,kc,rfl,⟨hq1,hq2,-⟩⟩:=h1.form;have h2':=h2;obtain⟨po,pc,rfl,⟨hr1,hr2⟩,-⟩:=h2';have hmx:kc<=9223372036854775807:=hq2;have hmy:pc<=9223372036854775807:=hr2;have HX:=Lib.hid h1;have HY:=Lib.hid h2;clear h1 h2 hq2 hr2
 by_cases hl:ts.length=M.length
 ·have hne:(((ts.length:Nat):Int) != ((M.length:Nat):Int))=false:=by rw[hl];exact bne_self_eq_false _
  have HL:=Lib.hid hl;obtain⟨n,hn⟩:∃ n,n=ts.length:=⟨_,rfl⟩
  rw[<-hn] at HL hne hq1 HX ⊢;obtain⟨n',hn'⟩:∃ n,n=M.length:=⟨_,rfl⟩
  rw[<-hn'] at HL hne hr1 HY ⊢;have HN:=Lib.hid hn;have HN':=Lib.hid hn';clear hl hn hn';go_enter Try.func73,Try.ntmps73
  go_wp2_with fail
  clear hne
  go_loopw [17] (fun i wr=>∃ j:Nat,i=.int .i64 (j:Nat)/\j<=n/\Hid ((srts ts).take j=M.take j)/\Hid (Below w.heap.size w wr)) (fun i _=>n - (intOf i).toNat)
  case atStart=>exact⟨0,rfl,Nat.zero_le _,Lib.hid rfl,Lib.hid (Below.refl _ _)⟩
  case round =>
   obtain⟨j,rfl,hj,HT,HW⟩:=hrel
   by_cases hlt:j<n
   ·have hz:j<ts.length:=by rw[<-HN.out];exact hlt
    have hz2:j<M.length:=by rw[<-HN'.out,<-HL.out];exact hlt
    have hlt2:j<n':=by rw[<-HL.out];exact hlt
    obtain⟨a,bb,ao,al,ac,qo,ql,qc,rfl,⟨c0,c1,c2,c3,c4⟩,-⟩:=(HX.out.below HW.out).cells j hz;obtain⟨b,rfl,d0⟩:=(HY.out.below HW.out).cells j hz2;obtain⟨x,hxx⟩:∃ x,x=ts[j].op:=⟨_,rfl⟩
    obtain⟨nm,hnm⟩:∃ x,x=ts[j].name:=⟨_,rfl⟩
    obtain⟨y,hyy⟩:∃ y,y=M[j]:=⟨_,rfl⟩
    rw[<-hxx] at c0;rw[<-hnm] at c3;rw[<-hyy] at d0;have HXX:=Lib.hid hxx;have HYY:=Lib.hid hyy;clear hxx hyy hnm;obtain⟨x1,k8,e8,ek8,hb8,hk8,HB8⟩:=newV wr #[.int .i64 x,.bool bb,.slice ao al ac,.string nm,.slice qo ql qc] 29;replace HW:=Lib.hid (HW.out.trans (hb8.out.mono HW.out.size));rw[<-hb8.out.cell (by have:=cell_lt d0;exact this)] at d0;have g0:=cell_at (v:=.int .i64 x) HB8.out 0 rfl;have fg0:=froz_at HB8.out 0;have g1:=cell_at (v:=.bool bb) HB8.out 1 rfl;have fg1:=froz_at HB8.out 1;have g2:=cell_at (v:=.slice ao al ac) HB8.out 2 rfl;have fg2:=froz_at HB8.out 2;have g3:=cell_at (v:=.string nm) HB8.out 3 rfl;have fg3:=froz_at HB8.out 3;have g4:=cell_at (v:=.slice qo ql qc) HB8.out 4 rfl;have fg4:=froz_at HB8.out 4
    by_cases he:srt x=y
    ·have hdd:(srt x==y)=true:=by simp[he]
     have HE:=Lib.hid he;clear he;go_wp2_with fail
     refine (are1_p x bb ao al ac nm qo ql qc y x1).mono ?_;rintro e w3 ⟨rfl,hb⟩;rw[hdd];replace HW:=Lib.hid (HW.out.trans (hb.mono HW.out.size));clear hb hdd;go_wp2_with fail
     go_roundw
     case rel=>exact⟨j+1,by go_num,hlt,Lib.hid (take_nextV HT.out (by rw[srts_len];exact hz) hz2 (by rw[srts_get ts j hz,<-HXX.out,<-HYY.out];exact HE.out)),HW⟩
     case measure=>simp[intOf];omega
    have hdd:(srt x==y)=false:=by simp[he]
    have HE:=Lib.hid he;clear he;go_wp2_with fail
    refine (are1_p x bb ao al ac nm qo ql qc y x1).mono ?_;rintro e w3 ⟨rfl,hb⟩;rw[hdd];replace HW:=Lib.hid (HW.out.trans (hb.mono HW.out.size));clear hb hdd;go_wp2_with fail
    go_ret
    refine⟨?_,HW.out⟩;rw[decide_eq_false (fun e=>HE.out (by rw[HXX.out,HYY.out];subst e;rw[srts_get ts j hz]))];rfl
   go_wp2_with fail
   go_ret
   refine⟨?_,HW.out⟩;have e:=HT.out;rw[show j=n by omega,HN.out,<-srts_len,List.take_length,srts_len,<-HN.out,HL.out,HN'.out,List.take_length] at e;rw[decide_eq_true e];rfl
 have hne:(((ts.length:Nat):Int) != ((M.length:Nat):Int))=true:=by rw[bne_iff_ne];omega
 have HL:=Lib.hid hl;clear hl;go_enter Try.func73,Try.ntmps73
 go_wp2_with fail
 go_ret
 refine⟨?_,Below.refl _ _⟩;rw[decide_eq_false (fun e=>HL.out (by rw[<-e,srts_len]))];rfl
theorem are_p (va vb:Value) (ts:List F) (M:List Int) (d:Nat) (S:Nat->Prop) (w:World) (h1:FL w S d va ts) (h2:BL w vb M) :
  Calls Try.prog 58 #[va,vb] w fun e w'=>e=.returned (.bool (decide (srts ts=M)))/\Below w.heap.size w w':=by
 have HX:=Lib.hid h1;have HY:=Lib.hid h2;clear h1 h2;go_enter Try.func58,Try.ntmps58
 go_wp2_with fail
 refine (equalS_p _ _ ts M d S w HX.out HY.out).mono ?_;rintro e w3 ⟨rfl,hb⟩;have HB:=Lib.hid hb;clear hb;go_wp2_with fail
 go_ret
 exact⟨rfl,HB.out⟩
theorem index_all (va:Value) (ts:List F) (P:F->Bool) (d:Nat) (S:Nat->Prop) (w:World) (kb:Nat) (h1:FL w S d va ts) (hc:∀ f ∈ ts,∀ (v:Value) (w':World),Below w.heap.size w w'->FC w' S d v f->Calls Try.prog 76 #[v,.pointer (some ⟨kb,0,none⟩)] w' fun e w''=>e=.returned (.bool (P f))/\Below w'.heap.size w' w'') :
  Calls Try.prog 85 #[va,.func (.func 76) #[] #[.pointer (some ⟨kb,0,none⟩)]] w fun e w'=>∃ r:Int,e=.returned (.int .i64 r)/\decide (0<=r)=ts.any P/\Below w.heap.size w w':=by
 obtain⟨ko,kc,rfl,⟨hq1,hq2,-⟩⟩:=h1.form;have hmx:kc<=9223372036854775807:=hq2;have HX:=Lib.hid h1;have HC:=Lib.hid hc;clear h1 hc hq2;obtain⟨n,hn⟩:∃ n,n=ts.length:=⟨_,rfl⟩
 rw[<-hn] at hq1 HX ⊢;have HN:=Lib.hid hn;clear hn;go_enter Try.func85,Try.ntmps85
 go_wp2_with fail
 go_loopw [8] (fun i wr=>∃ j:Nat,i=.int .i64 (j:Nat)/\j<=n/\Hid ((ts.take j).any P=false)/\Hid (Below w.heap.size w wr)) (fun i _=>n - (intOf i).toNat)
 case atStart=>exact⟨0,rfl,Nat.zero_le _,Lib.hid rfl,Lib.hid (Below.refl _ _)⟩
 case round =>
  obtain⟨j,rfl,hj,HT,HW⟩:=hrel
  by_cases hlt:j<n
  ·have hz:j<ts.length:=by rw[<-HN.out];exact hlt
   obtain⟨a,bb,ao,al,ac,qo,ql,qc,rfl,⟨c0,c1,c2,c3,c4⟩,hf⟩:=(HX.out.below HW.out).cells j hz;have HF:=Lib.hid (HC.out ts[j] (List.getElem_mem hz) _ wr HW.out hf);clear hf;obtain⟨x,hxx⟩:∃ x,x=ts[j].op:=⟨_,rfl⟩
   obtain⟨nm,hnm⟩:∃ x,x=ts[j].name:=⟨_,rfl⟩
   rw[<-hxx] at c0 HF;rw[<-hnm] at c3 HF;clear hxx hnm;have HT':Hid ((ts.take (j+1)).any P=P ts[j]):=Lib.hid (by rw[List.take_succ_eq_append_getElem hz,List.any_append,HT.out];simp);have HA:Hid (P ts[j]=true->ts.any P=true):=Lib.hid (fun h=>List.any_eq_true.2 ⟨_,List.getElem_mem hz,h⟩);obtain⟨p,hp⟩:∃ p,p=P ts[j]:=⟨_,rfl⟩
   rw[<-hp] at HF HT' HA;clear hp;go_wp2_with fail
   refine HF.out.mono ?_;rintro e w3 ⟨rfl,hb⟩;replace HW:=Lib.hid (HW.out.trans (hb.mono HW.out.size));clear hb HF
   cases p with
   | true =>
    go_wp2_with fail
    go_ret
    exact⟨j,rfl,by rw[HA.out (by trivial)];simp,HW.out⟩
   | false =>
    go_wp2_with fail
    go_roundw
    case rel=>exact⟨j+1,by go_num,hlt,HT',HW⟩
    case measure=>simp[intOf];omega
  go_wp2_with fail
  go_ret
  refine⟨-1,rfl,?_,HW.out⟩;have e:=HT.out;rw[show j=n by omega,HN.out,List.take_length] at e;rw[e];rfl
theorem contains_all (va:Value) (ts:List F) (P:F->Bool) (d:Nat) (S:Nat->Prop) (w:World) (kb:Nat) (h1:FL w S d va ts) (hc:∀ f ∈ ts,∀ (v:Value) (w':World),Below w.heap.size w w'->FC w' S d v f->Calls Try.prog 76 #[v,.pointer (some ⟨kb,0,none⟩)] w' fun e w''=>e=.returned (.bool (P f))/\Below w'.heap.size w' w'') :
  Calls Try.prog 75 #[va,.func (.func 76) #[] #[.pointer (some ⟨kb,0,none⟩)]] w fun e w'=>e=.returned (.bool (ts.any P))/\Below w.heap.size w w':=by
 have HI:=Lib.hid (index_all va ts P d S w kb h1 hc);clear h1 hc;go_enter Try.func75,Try.ntmps75
 go_wp2_with fail
 refine HI.out.mono ?_;rintro e w3 ⟨r,rfl,hr,hb⟩;have HB:=Lib.hid hb;have HR:=Lib.hid hr;clear hb hr HI;go_wp2_with fail
 go_ret
 exact⟨by rw[<-HR.out];rfl,HB.out⟩
theorem index_and (va:Value) (ts:List F) (P:F->Bool) (d:Nat) (S:Nat->Prop) (w:World) (kb:Nat) (h1:FL w S d va ts) (hc:∀ f ∈ ts,∀ (v:Value) (w':World),Below w.heap.size w w'->FC w' S d v f->Calls Try.prog 78 #[v,.pointer (some ⟨kb,0,none⟩)] w' fun e w''=>e=.returned (.bool (P f))/\Below w'.heap.size w' w'') :
  Calls Try.prog 85 #[va,.func (.func 78) #[] #[.pointer (some ⟨kb,0,none⟩)]] w fun e w'=>∃ r:Int,e=.returned (.int .i64 r)/\decide (0<=r)=ts.any P/\Below w.heap.size w w':=by
 obtain⟨ko,kc,rfl,⟨hq1,hq2,-⟩⟩:=h1.form;have hmx:kc<=9223372036854775807:=hq2;have HX:=Lib.hid h1;have HC:=Lib.hid hc;clear h1 hc hq2;obtain⟨n,hn⟩:∃ n,n=ts.length:=⟨_,rfl⟩
 rw[<-hn] at hq1 HX ⊢;have HN:=Lib.hid hn;clear hn;go_enter Try.func85,Try.ntmps85
 go_wp2_with fail
 go_loopw [8] (fun i wr=>∃ j:Nat,i=.int .i64 (j:Nat)/\j<=n/\Hid ((ts.take j).any P=false)/\Hid (Below w.heap.size w wr)) (fun i _=>n - (intOf i).toNat)
 case atStart=>exact⟨0,rfl,Nat.zero_le _,Lib.hid rfl,Lib.hid (Below.refl _ _)⟩
 case round =>
  obtain⟨j,rfl,hj,HT,HW⟩:=hrel
  by_cases hlt:j<n
  ·have hz:j<ts.length:=by rw[<-HN.out];exact hlt
   obtain⟨a,bb,ao,al,ac,qo,ql,qc,rfl,⟨c0,c1,c2,c3,c4⟩,hf⟩:=(HX.out.below HW.out).cells j hz;have HF:=Lib.hid (HC.out ts[j] (List.getElem_mem hz) _ wr HW.out hf);clear hf;obtain⟨x,hxx⟩:∃ x,x=ts[j].op:=⟨_,rfl⟩
   obtain⟨nm,hnm⟩:∃ x,x=ts[j].name:=⟨_,rfl⟩
   rw[<-hxx] at c0 HF;rw[<-hnm] at c3 HF;clear hxx hnm;have HT':Hid ((ts.take (j+1)).any P=P ts[j]):=Lib.hid (by rw[List.take_succ_eq_append_getElem hz,List.any_append,HT.out];simp);have HA:Hid (P ts[j]=true->ts.any P=true):=Lib.hid (fun h=>List.any_eq_true.2 ⟨_,List.getElem_mem hz,h⟩);obtain⟨p,hp⟩:∃ p,p=P ts[j]:=⟨_,rfl⟩
   rw[<-hp] at HF HT' HA;clear hp;go_wp2_with fail
   refine HF.out.mono ?_;rintro e w3 ⟨rfl,hb⟩;replace HW:=Lib.hid (HW.out.trans (hb.mono HW.out.size));clear hb HF
   cases p with
   | true =>
    go_wp2_with fail
    go_ret
    exact⟨j,rfl,by rw[HA.out (by trivial)];simp,HW.out⟩
   | false =>
    go_wp2_with fail
    go_roundw
    case rel=>exact⟨j+1,by go_num,hlt,HT',HW⟩
    case measure=>simp[intOf];omega
  go_wp2_with fail
  go_ret
  refine⟨-1,rfl,?_,HW.out⟩;have e:=HT.out;rw[show j=n by omega,HN.out,List.take_length] at e;rw[e];rfl
theorem contains_and (va:Value) (ts:List F) (P:F->Bool) (d:Nat) (S:Nat->Prop) (w:World) (kb:Nat) (h1:FL w S d va ts) (hc:∀ f ∈ ts,∀ (v:Value) (w':World),Below w.heap.size w w'->FC w' S d v f->Calls Try.prog 78 #[v,.pointer (some ⟨kb,0,none⟩)] w' fun e w''=>e=.returned (.bool (P f))/\Below w'.heap.size w' w'') :
  Calls Try.prog 75 #[va,.func (.func 78) #[] #[.pointer (some ⟨kb,0,none⟩)]] w fun e w'=>e=.returned (.bool (ts.any P))/\Below w.heap.size w w':=by
 have HI:=Lib.hid (index_and va ts P d S w kb h1 hc);clear h1 hc;go_enter Try.func75,Try.ntmps75
 go_wp2_with fail
 refine HI.out.mono ?_;rintro e w3 ⟨r,rfl,hr,hb⟩;have HB:=Lib.hid hb;have HR:=Lib.hid hr;clear hb hr HI;go_wp2_with fail
 go_ret
 exact⟨by rw[<-HR.out];rfl,HB.out⟩
theorem index_or (va:Value) (ts:List F) (P:F->Bool) (d:Nat) (S:Nat->Prop) (w:World) (ve:Value) (h1:FL w S d va ts) (hc:∀ f ∈ ts,∀ (v:Value) (w':World),Below w.heap.size w w'->FC w' S d v f->Calls Try.prog 60 #[ve,v] w' fun e w''=>e=.returned (.bool (P f))/\Below w'.heap.size w' w'') :
  Calls Try.prog 85 #[va,.func (.func 60) #[ve] #[]] w fun e w'=>∃ r:Int,e=.returned (.int .i64 r)/\decide (0<=r)=ts.any P/\Below w.heap.size w w':=by
 obtain⟨ko,kc,rfl,⟨hq1,hq2,-⟩⟩:=h1.form;have hmx:kc<=9223372036854775807:=hq2;have HX:=Lib.hid h1;have HC:=Lib.hid hc;clear h1 hc hq2;obtain⟨n,hn⟩:∃ n,n=ts.length:=⟨_,rfl⟩
 rw[<-hn] at hq1 HX ⊢;have HN:=Lib.hid hn;clear hn;go_enter Try.func85,Try.ntmps85
 go_wp2_with fail
 go_loopw [8] (fun i wr=>∃ j:Nat,i=.int .i64 (j:Nat)/\j<=n/\Hid ((ts.take j).any P=false)/\Hid (Below w.heap.size w wr)) (fun i _=>n - (intOf i).toNat)
 case atStart=>exact⟨0,rfl,Nat.zero_le _,Lib.hid rfl,Lib.hid (Below.refl _ _)⟩
 case round =>
  obtain⟨j,rfl,hj,HT,HW⟩:=hrel
  by_cases hlt:j<n
  ·have hz:j<ts.length:=by rw[<-HN.out];exact hlt
   obtain⟨a,bb,ao,al,ac,qo,ql,qc,rfl,⟨c0,c1,c2,c3,c4⟩,hf⟩:=(HX.out.below HW.out).cells j hz;have HF:=Lib.hid (HC.out ts[j] (List.getElem_mem hz) _ wr HW.out hf);clear hf;obtain⟨x,hxx⟩:∃ x,x=ts[j].op:=⟨_,rfl⟩
   obtain⟨nm,hnm⟩:∃ x,x=ts[j].name:=⟨_,rfl⟩
   rw[<-hxx] at c0 HF;rw[<-hnm] at c3 HF;clear hxx hnm;have HT':Hid ((ts.take (j+1)).any P=P ts[j]):=Lib.hid (by rw[List.take_succ_eq_append_getElem hz,List.any_append,HT.out];simp);have HA:Hid (P ts[j]=true->ts.any P=true):=Lib.hid (fun h=>List.any_eq_true.2 ⟨_,List.getElem_mem hz,h⟩);obtain⟨p,hp⟩:∃ p,p=P ts[j]:=⟨_,rfl⟩
   rw[<-hp] at HF HT' HA;clear hp;go_wp2_with fail
   refine HF.out.mono ?_;rintro e w3 ⟨rfl,hb⟩;replace HW:=Lib.hid (HW.out.trans (hb.mono HW.out.size));clear hb HF
   cases p with
   | true =>
    go_wp2_with fail
    go_ret
    exact⟨j,rfl,by rw[HA.out (by trivial)];simp,HW.out⟩
   | false =>
    go_wp2_with fail
    go_roundw
    case rel=>exact⟨j+1,by go_num,hlt,HT',HW⟩
    case measure=>simp[intOf];omega
  go_wp2_with fail
  go_ret
  refine⟨-1,rfl,?_,HW.out⟩;have e:=HT.out;rw[show j=n by omega,HN.out,List.take_length] at e;rw[e];rfl
theorem contains_or (va:Value) (ts:List F) (P:F->Bool) (d:Nat) (S:Nat->Prop) (w:World) (ve:Value) (h1:FL w S d va ts) (hc:∀ f ∈ ts,∀ (v:Value) (w':World),Below w.heap.size w w'->FC w' S d v f->Calls Try.prog 60 #[ve,v] w' fun e w''=>e=.returned (.bool (P f))/\Below w'.heap.size w' w'') :
  Calls Try.prog 75 #[va,.func (.func 60) #[ve] #[]] w fun e w'=>e=.returned (.bool (ts.any P))/\Below w.heap.size w w':=by
 have HI:=Lib.hid (index_or va ts P d S w ve h1 hc);clear h1 hc;go_enter Try.func75,Try.ntmps75
 go_wp2_with fail
 refine HI.out.mono ?_;rintro e w3 ⟨r,rfl,hr,hb⟩;have HB:=Lib.hid hb;have HR:=Lib.hid hr;clear hb hr HI;go_wp2_with fail
 go_ret
 exact⟨by rw[<-HR.out];rfl,HB.out⟩
theorem areAll_p (va:Value) (s:Int) (ts:List F) (d:Nat) (S:Nat->Prop) (w:World) (h1:FL w S d va ts) :
  Calls Try.prog 59 #[va,.int .i64 s] w fun e w'=>e=.returned (.bool ((srts ts).all fun q=>decide (q=s)))/\Below w.heap.size w w':=by
 have HX:=Lib.hid h1;clear h1;have HW:=Lib.hid (Below.refl w.heap.size w);go_enter Try.func59,Try.ntmps59
 obtain⟨x1,kb,eb,ekb,hbb,hkb,HBb⟩:=newV w #[.int .i64 s] 32;replace HW:=Lib.hid (HW.out.trans (hbb.out.mono HW.out.size));replace HX:=Lib.hid (HX.out.below hbb.out);go_wp2_with fail
 refine (contains_all va ts (fun f=>srt f.op != s) d S x1 kb HX.out (fun f hf v w' hb hv=>?_)).mono ?_
 ·obtain⟨b,ao,l,c,ko,kl,kc,rfl,-,-,-⟩:=hv.open;exact areAll1_p _ _ _ _ _ _ _ _ _ s kb w' ((hb.block _ (lt_of_block HBb.out)).trans HBb.out)
 rintro e w3 ⟨rfl,hb⟩;replace HW:=Lib.hid (HW.out.trans (hb.mono HW.out.size));clear hb;go_wp2_with fail
 go_ret
 refine⟨?_,HW.out⟩
 rw[show (srts ts).all (fun q=>decide (q=s)) = !ts.any (fun f=>srt f.op != s) by
  unfold srts;rw[List.all_map,List.not_any_eq_all_not];congr 1;funext f;by_cases h:srt f.op=s<;>simp[h]]
 rfl
theorem fits_p (v:Value) (t:F) (d:Nat) (S:Nat->Prop) (w:World) (h:FC w S d v t) :
  Calls Try.prog 35 #[v] w fun e w'=>e=.returned (.bool (fitF t.op t.num (srts t.kids)))/\Below w.heap.size w w':=by
 obtain⟨b,ao,l,c,ko,kl,kc,rfl,⟨hr,hz,-,-,-⟩,-,hk⟩:=h.open;obtain⟨o,z,nm,ks⟩:=t;simp only[F.op,F.num,F.name,F.kids] at hr hz hk ⊢;clear h hr;rcases ops21 o with h | h
 ·rcases h with rfl | rfl | rfl | rfl | rfl | rfl | rfl | rfl | rfl | rfl | rfl | rfl | rfl | rfl | rfl | rfl | rfl | rfl | rfl | rfl | rfl
  ·have HX:=Lib.hid hk;have HZ:=Lib.hid hz;clear hk hz;have HW:=Lib.hid (Below.refl w.heap.size w);go_enter Try.func35,Try.ntmps35
   obtain⟨x1,kf,ef,ekf,hbf,hkf,HBf⟩:=newV w #[.int .i64 0,.bool b,.slice ao l c,.string nm,.slice ko kl kc] 29;replace HX:=Lib.hid (HX.out.below hbf.out);replace HZ:=Lib.hid (HZ.out.below hbf.out);replace HW:=Lib.hid (HW.out.trans (hbf.out.mono HW.out.size));have c0:=cell_at (v:=.int .i64 0) HBf.out 0 rfl;have fc0:=froz_at HBf.out 0;have c1:=cell_at (v:=.bool b) HBf.out 1 rfl;have fc1:=froz_at HBf.out 1;have c2:=cell_at (v:=.slice ao l c) HBf.out 2 rfl;have fc2:=froz_at HBf.out 2;have c3:=cell_at (v:=.string nm) HBf.out 3 rfl;have fc3:=froz_at HBf.out 3;have c4:=cell_at (v:=.slice ko kl kc) HBf.out 4 rfl;have fc4:=froz_at HBf.out 4;go_wp2_with fail
   refine (are_p _ _ ks [] (d - 1) S x1 HX.out (BL.nil _)).mono ?_;rintro e x2 ⟨rfl,hb⟩;clear c0 fc0 c1 fc1 c2 fc2 c3 fc3 c4 fc4;replace HBf:=kBV hb HBf;replace HX:=Lib.hid (HX.out.below hb);replace HZ:=Lib.hid (HZ.out.below hb);replace HW:=Lib.hid (HW.out.trans (hb.mono HW.out.size));go_wp2_with fail
   go_ret
   exact⟨by simp[fitF,kidsOk],HW.out⟩
  ·have HX:=Lib.hid hk;have HZ:=Lib.hid hz;clear hk hz;have HW:=Lib.hid (Below.refl w.heap.size w);go_enter Try.func35,Try.ntmps35
   obtain⟨x1,kf,ef,ekf,hbf,hkf,HBf⟩:=newV w #[.int .i64 1,.bool b,.slice ao l c,.string nm,.slice ko kl kc] 29;replace HX:=Lib.hid (HX.out.below hbf.out);replace HZ:=Lib.hid (HZ.out.below hbf.out);replace HW:=Lib.hid (HW.out.trans (hbf.out.mono HW.out.size));have c0:=cell_at (v:=.int .i64 1) HBf.out 0 rfl;have fc0:=froz_at HBf.out 0;have c1:=cell_at (v:=.bool b) HBf.out 1 rfl;have fc1:=froz_at HBf.out 1;have c2:=cell_at (v:=.slice ao l c) HBf.out 2 rfl;have fc2:=froz_at HBf.out 2;have c3:=cell_at (v:=.string nm) HBf.out 3 rfl;have fc3:=froz_at HBf.out 3;have c4:=cell_at (v:=.slice ko kl kc) HBf.out 4 rfl;have fc4:=froz_at HBf.out 4;go_wp2_with fail
   refine (are_p _ _ ks [] (d - 1) S x1 HX.out (BL.nil _)).mono ?_;rintro e x2 ⟨rfl,hb⟩;clear c0 fc0 c1 fc1 c2 fc2 c3 fc3 c4 fc4;replace HBf:=kBV hb HBf;replace HX:=Lib.hid (HX.out.below hb);replace HZ:=Lib.hid (HZ.out.below hb);replace HW:=Lib.hid (HW.out.trans (hb.mono HW.out.size));go_wp2_with fail
   go_ret
   exact⟨by simp[fitF,kidsOk],HW.out⟩
  ·have HX:=Lib.hid hk;have HZ:=Lib.hid hz;clear hk hz;have HW:=Lib.hid (Below.refl w.heap.size w);go_enter Try.func35,Try.ntmps35
   obtain⟨x1,kf,ef,ekf,hbf,hkf,HBf⟩:=newV w #[.int .i64 2,.bool b,.slice ao l c,.string nm,.slice ko kl kc] 29;replace HX:=Lib.hid (HX.out.below hbf.out);replace HZ:=Lib.hid (HZ.out.below hbf.out);replace HW:=Lib.hid (HW.out.trans (hbf.out.mono HW.out.size));have c0:=cell_at (v:=.int .i64 2) HBf.out 0 rfl;have fc0:=froz_at HBf.out 0;have c1:=cell_at (v:=.bool b) HBf.out 1 rfl;have fc1:=froz_at HBf.out 1;have c2:=cell_at (v:=.slice ao l c) HBf.out 2 rfl;have fc2:=froz_at HBf.out 2;have c3:=cell_at (v:=.string nm) HBf.out 3 rfl;have fc3:=froz_at HBf.out 3;have c4:=cell_at (v:=.slice ko kl kc) HBf.out 4 rfl;have fc4:=froz_at HBf.out 4;obtain⟨x2,ky,ey,eky,hby,hky,HBy⟩:=newV x1 #[.int .i64 0,.int .i64 0] 32;replace HBf:=kBV hby.out HBf;replace HX:=Lib.hid (HX.out.below hby.out);replace HZ:=Lib.hid (HZ.out.below hby.out)
   replace HW:=Lib.hid (HW.out.trans (hby.out.mono HW.out.size));go_wp2_with fail
   refine (are_p _ _ ks [0,0] (d - 1) S x2 HX.out (BL.block (ss:=[0,0]) HBy.out (by decide))).mono ?_;rintro e x3 ⟨rfl,hb⟩;clear c0 fc0 c1 fc1 c2 fc2 c3 fc3 c4 fc4;replace HBf:=kBV hb HBf;replace HBy:=kBV hb HBy;replace HX:=Lib.hid (HX.out.below hb);replace HZ:=Lib.hid (HZ.out.below hb);replace HW:=Lib.hid (HW.out.trans (hb.mono HW.out.size));go_wp2_with fail
   go_ret
   exact⟨by simp[fitF,kidsOk],HW.out⟩
  ·have HX:=Lib.hid hk;have HZ:=Lib.hid hz;clear hk hz;have HW:=Lib.hid (Below.refl w.heap.size w);go_enter Try.func35,Try.ntmps35
   obtain⟨x1,kf,ef,ekf,hbf,hkf,HBf⟩:=newV w #[.int .i64 3,.bool b,.slice ao l c,.string nm,.slice ko kl kc] 29;replace HX:=Lib.hid (HX.out.below hbf.out);replace HZ:=Lib.hid (HZ.out.below hbf.out);replace HW:=Lib.hid (HW.out.trans (hbf.out.mono HW.out.size));have c0:=cell_at (v:=.int .i64 3) HBf.out 0 rfl;have fc0:=froz_at HBf.out 0;have c1:=cell_at (v:=.bool b) HBf.out 1 rfl;have fc1:=froz_at HBf.out 1;have c2:=cell_at (v:=.slice ao l c) HBf.out 2 rfl;have fc2:=froz_at HBf.out 2;have c3:=cell_at (v:=.string nm) HBf.out 3 rfl;have fc3:=froz_at HBf.out 3;have c4:=cell_at (v:=.slice ko kl kc) HBf.out 4 rfl;have fc4:=froz_at HBf.out 4;obtain⟨x2,ky,ey,eky,hby,hky,HBy⟩:=newV x1 #[.int .i64 0] 32;replace HBf:=kBV hby.out HBf;replace HX:=Lib.hid (HX.out.below hby.out);replace HZ:=Lib.hid (HZ.out.below hby.out)
   replace HW:=Lib.hid (HW.out.trans (hby.out.mono HW.out.size));go_wp2_with fail
   refine (are_p _ _ ks [0] (d - 1) S x2 HX.out (BL.block (ss:=[0]) HBy.out (by decide))).mono ?_;rintro e x3 ⟨rfl,hb⟩;clear c0 fc0 c1 fc1 c2 fc2 c3 fc3 c4 fc4;replace HBf:=kBV hb HBf;replace HBy:=kBV hb HBy;replace HX:=Lib.hid (HX.out.below hb);replace HZ:=Lib.hid (HZ.out.below hb);replace HW:=Lib.hid (HW.out.trans (hb.mono HW.out.size));go_wp2_with fail
   go_ret
   exact⟨by simp[fitF,kidsOk],HW.out⟩
  ·have HX:=Lib.hid hk;have HZ:=Lib.hid hz;clear hk hz;have HW:=Lib.hid (Below.refl w.heap.size w);go_enter Try.func35,Try.ntmps35
   obtain⟨x1,kf,ef,ekf,hbf,hkf,HBf⟩:=newV w #[.int .i64 4,.bool b,.slice ao l c,.string nm,.slice ko kl kc] 29;replace HX:=Lib.hid (HX.out.below hbf.out);replace HZ:=Lib.hid (HZ.out.below hbf.out);replace HW:=Lib.hid (HW.out.trans (hbf.out.mono HW.out.size));have c0:=cell_at (v:=.int .i64 4) HBf.out 0 rfl;have fc0:=froz_at HBf.out 0;have c1:=cell_at (v:=.bool b) HBf.out 1 rfl;have fc1:=froz_at HBf.out 1;have c2:=cell_at (v:=.slice ao l c) HBf.out 2 rfl;have fc2:=froz_at HBf.out 2;have c3:=cell_at (v:=.string nm) HBf.out 3 rfl;have fc3:=froz_at HBf.out 3;have c4:=cell_at (v:=.slice ko kl kc) HBf.out 4 rfl;have fc4:=froz_at HBf.out 4;obtain⟨x2,ky,ey,eky,hby,hky,HBy⟩:=newV x1 #[.int .i64 0,.int .i64 0] 32;replace HBf:=kBV hby.out HBf;replace HX:=Lib.hid (HX.out.below hby.out);replace HZ:=Lib.hid (HZ.out.below hby.out)
   replace HW:=Lib.hid (HW.out.trans (hby.out.mono HW.out.size));go_wp2_with fail
   refine (are_p _ _ ks [0,0] (d - 1) S x2 HX.out (BL.block (ss:=[0,0]) HBy.out (by decide))).mono ?_;rintro e x3 ⟨rfl,hb⟩;clear c0 fc0 c1 fc1 c2 fc2 c3 fc3 c4 fc4;replace HBf:=kBV hb HBf;replace HBy:=kBV hb HBy;replace HX:=Lib.hid (HX.out.below hb);replace HZ:=Lib.hid (HZ.out.below hb);replace HW:=Lib.hid (HW.out.trans (hb.mono HW.out.size));go_wp2_with fail
   go_ret
   exact⟨by simp[fitF,kidsOk],HW.out⟩
  ·have HX:=Lib.hid hk;have HZ:=Lib.hid hz;clear hk hz;have HW:=Lib.hid (Below.refl w.heap.size w);go_enter Try.func35,Try.ntmps35
   obtain⟨x1,kf,ef,ekf,hbf,hkf,HBf⟩:=newV w #[.int .i64 5,.bool b,.slice ao l c,.string nm,.slice ko kl kc] 29;replace HX:=Lib.hid (HX.out.below hbf.out);replace HZ:=Lib.hid (HZ.out.below hbf.out);replace HW:=Lib.hid (HW.out.trans (hbf.out.mono HW.out.size));have c0:=cell_at (v:=.int .i64 5) HBf.out 0 rfl;have fc0:=froz_at HBf.out 0;have c1:=cell_at (v:=.bool b) HBf.out 1 rfl;have fc1:=froz_at HBf.out 1;have c2:=cell_at (v:=.slice ao l c) HBf.out 2 rfl;have fc2:=froz_at HBf.out 2;have c3:=cell_at (v:=.string nm) HBf.out 3 rfl;have fc3:=froz_at HBf.out 3;have c4:=cell_at (v:=.slice ko kl kc) HBf.out 4 rfl;have fc4:=froz_at HBf.out 4;go_wp2_with fail
   refine (wsign_any _ z 600 x1 HZ.out.gi (by decide)).mono ?_;rintro e x2 ⟨rfl,hb⟩;replace HBf:=kBV hb HBf;replace HX:=Lib.hid (HX.out.below hb);replace HZ:=Lib.hid (HZ.out.below hb);replace HW:=Lib.hid (HW.out.trans (hb.mono HW.out.size));clear c0 fc0 c1 fc1 c2 fc2 c3 fc3 c4 fc4;clear hb;have c0:=cell_at (v:=.int .i64 5) HBf.out 0 rfl;have fc0:=froz_at HBf.out 0;have c1:=cell_at (v:=.bool b) HBf.out 1 rfl;have fc1:=froz_at HBf.out 1;have c2:=cell_at (v:=.slice ao l c) HBf.out 2 rfl;have fc2:=froz_at HBf.out 2;have c3:=cell_at (v:=.string nm) HBf.out 3 rfl;have fc3:=froz_at HBf.out 3;have c4:=cell_at (v:=.slice ko kl kc) HBf.out 4 rfl;have fc4:=froz_at HBf.out 4
   by_cases hs:z<1
   ·have hlt:decide (sgnZ z<1)=true:=by unfold sgnZ;(repeat' split)<;>first | rfl | (simp;omega) | (exfalso;omega)
    have hfit:fitF 5 z (srts ks)=false:=by simp[fitF,kidsOk];omega
    go_wp2_with fail
    go_ret
    exact⟨by rw[hfit];rfl,HW.out⟩
   have hlt:decide (sgnZ z<1)=false:=by unfold sgnZ;(repeat' split)<;>first | rfl | (simp;omega) | (exfalso;omega)
   have hz1:decide (1<=z)=true:=by simp;omega
   obtain⟨x3,ky,ey,eky,hby,hky,HBy⟩:=newV x2 #[.int .i64 0] 32;replace HBf:=kBV hby.out HBf;replace HX:=Lib.hid (HX.out.below hby.out);replace HZ:=Lib.hid (HZ.out.below hby.out);replace HW:=Lib.hid (HW.out.trans (hby.out.mono HW.out.size));go_wp2_with fail
   refine (are_p _ _ ks [0] (d - 1) S x3 HX.out (BL.block (ss:=[0]) HBy.out (by decide))).mono ?_;rintro e x4 ⟨rfl,hb⟩;clear c0 fc0 c1 fc1 c2 fc2 c3 fc3 c4 fc4;replace HBf:=kBV hb HBf;replace HBy:=kBV hb HBy;replace HX:=Lib.hid (HX.out.below hb);replace HZ:=Lib.hid (HZ.out.below hb);replace HW:=Lib.hid (HW.out.trans (hb.mono HW.out.size));go_wp2_with fail
   go_ret
   exact⟨by simp[fitF,kidsOk,hz1],HW.out⟩
  ·have HX:=Lib.hid hk;have HZ:=Lib.hid hz;clear hk hz;have HW:=Lib.hid (Below.refl w.heap.size w);go_enter Try.func35,Try.ntmps35
   obtain⟨x1,kf,ef,ekf,hbf,hkf,HBf⟩:=newV w #[.int .i64 6,.bool b,.slice ao l c,.string nm,.slice ko kl kc] 29;replace HX:=Lib.hid (HX.out.below hbf.out);replace HZ:=Lib.hid (HZ.out.below hbf.out);replace HW:=Lib.hid (HW.out.trans (hbf.out.mono HW.out.size));have c0:=cell_at (v:=.int .i64 6) HBf.out 0 rfl;have fc0:=froz_at HBf.out 0;have c1:=cell_at (v:=.bool b) HBf.out 1 rfl;have fc1:=froz_at HBf.out 1;have c2:=cell_at (v:=.slice ao l c) HBf.out 2 rfl;have fc2:=froz_at HBf.out 2;have c3:=cell_at (v:=.string nm) HBf.out 3 rfl;have fc3:=froz_at HBf.out 3;have c4:=cell_at (v:=.slice ko kl kc) HBf.out 4 rfl;have fc4:=froz_at HBf.out 4;obtain⟨x2,ky,ey,eky,hby,hky,HBy⟩:=newV x1 #[.int .i64 2] 32;replace HBf:=kBV hby.out HBf;replace HX:=Lib.hid (HX.out.below hby.out);replace HZ:=Lib.hid (HZ.out.below hby.out)
   replace HW:=Lib.hid (HW.out.trans (hby.out.mono HW.out.size));go_wp2_with fail
   refine (are_p _ _ ks [2] (d - 1) S x2 HX.out (BL.block (ss:=[2]) HBy.out (by decide))).mono ?_;rintro e x3 ⟨rfl,hb⟩;clear c0 fc0 c1 fc1 c2 fc2 c3 fc3 c4 fc4;replace HBf:=kBV hb HBf;replace HBy:=kBV hb HBy;replace HX:=Lib.hid (HX.out.below hb);replace HZ:=Lib.hid (HZ.out.below hb);replace HW:=Lib.hid (HW.out.trans (hb.mono HW.out.size));go_wp2_with fail
   go_ret
   exact⟨by simp[fitF,kidsOk],HW.out⟩
  ·have HX:=Lib.hid hk;have HZ:=Lib.hid hz;clear hk hz;have HW:=Lib.hid (Below.refl w.heap.size w);go_enter Try.func35,Try.ntmps35
   obtain⟨x1,kf,ef,ekf,hbf,hkf,HBf⟩:=newV w #[.int .i64 7,.bool b,.slice ao l c,.string nm,.slice ko kl kc] 29;replace HX:=Lib.hid (HX.out.below hbf.out);replace HZ:=Lib.hid (HZ.out.below hbf.out);replace HW:=Lib.hid (HW.out.trans (hbf.out.mono HW.out.size));have c0:=cell_at (v:=.int .i64 7) HBf.out 0 rfl;have fc0:=froz_at HBf.out 0;have c1:=cell_at (v:=.bool b) HBf.out 1 rfl;have fc1:=froz_at HBf.out 1;have c2:=cell_at (v:=.slice ao l c) HBf.out 2 rfl;have fc2:=froz_at HBf.out 2;have c3:=cell_at (v:=.string nm) HBf.out 3 rfl;have fc3:=froz_at HBf.out 3;have c4:=cell_at (v:=.slice ko kl kc) HBf.out 4 rfl;have fc4:=froz_at HBf.out 4;obtain⟨x2,ky,ey,eky,hby,hky,HBy⟩:=newV x1 #[.int .i64 2] 32;replace HBf:=kBV hby.out HBf;replace HX:=Lib.hid (HX.out.below hby.out);replace HZ:=Lib.hid (HZ.out.below hby.out)
   replace HW:=Lib.hid (HW.out.trans (hby.out.mono HW.out.size));go_wp2_with fail
   refine (are_p _ _ ks [2] (d - 1) S x2 HX.out (BL.block (ss:=[2]) HBy.out (by decide))).mono ?_;rintro e x3 ⟨rfl,hb⟩;clear c0 fc0 c1 fc1 c2 fc2 c3 fc3 c4 fc4;replace HBf:=kBV hb HBf;replace HBy:=kBV hb HBy;replace HX:=Lib.hid (HX.out.below hb);replace HZ:=Lib.hid (HZ.out.below hb);replace HW:=Lib.hid (HW.out.trans (hb.mono HW.out.size));go_wp2_with fail
   go_ret
   exact⟨by simp[fitF,kidsOk],HW.out⟩
  ·have HX:=Lib.hid hk;have HZ:=Lib.hid hz;clear hk hz;have HW:=Lib.hid (Below.refl w.heap.size w);go_enter Try.func35,Try.ntmps35
   obtain⟨x1,kf,ef,ekf,hbf,hkf,HBf⟩:=newV w #[.int .i64 8,.bool b,.slice ao l c,.string nm,.slice ko kl kc] 29;replace HX:=Lib.hid (HX.out.below hbf.out);replace HZ:=Lib.hid (HZ.out.below hbf.out);replace HW:=Lib.hid (HW.out.trans (hbf.out.mono HW.out.size));have c0:=cell_at (v:=.int .i64 8) HBf.out 0 rfl;have fc0:=froz_at HBf.out 0;have c1:=cell_at (v:=.bool b) HBf.out 1 rfl;have fc1:=froz_at HBf.out 1;have c2:=cell_at (v:=.slice ao l c) HBf.out 2 rfl;have fc2:=froz_at HBf.out 2;have c3:=cell_at (v:=.string nm) HBf.out 3 rfl;have fc3:=froz_at HBf.out 3;have c4:=cell_at (v:=.slice ko kl kc) HBf.out 4 rfl;have fc4:=froz_at HBf.out 4;go_wp2_with fail
   refine (are_p _ _ ks [] (d - 1) S x1 HX.out (BL.nil _)).mono ?_;rintro e x2 ⟨rfl,hb⟩;clear c0 fc0 c1 fc1 c2 fc2 c3 fc3 c4 fc4;replace HBf:=kBV hb HBf;replace HX:=Lib.hid (HX.out.below hb);replace HZ:=Lib.hid (HZ.out.below hb);replace HW:=Lib.hid (HW.out.trans (hb.mono HW.out.size));go_wp2_with fail
   go_ret
   exact⟨by simp[fitF,kidsOk],HW.out⟩
  ·have HX:=Lib.hid hk;have HZ:=Lib.hid hz;clear hk hz;have HW:=Lib.hid (Below.refl w.heap.size w);go_enter Try.func35,Try.ntmps35
   obtain⟨x1,kf,ef,ekf,hbf,hkf,HBf⟩:=newV w #[.int .i64 9,.bool b,.slice ao l c,.string nm,.slice ko kl kc] 29;replace HX:=Lib.hid (HX.out.below hbf.out);replace HZ:=Lib.hid (HZ.out.below hbf.out);replace HW:=Lib.hid (HW.out.trans (hbf.out.mono HW.out.size));have c0:=cell_at (v:=.int .i64 9) HBf.out 0 rfl;have fc0:=froz_at HBf.out 0;have c1:=cell_at (v:=.bool b) HBf.out 1 rfl;have fc1:=froz_at HBf.out 1;have c2:=cell_at (v:=.slice ao l c) HBf.out 2 rfl;have fc2:=froz_at HBf.out 2;have c3:=cell_at (v:=.string nm) HBf.out 3 rfl;have fc3:=froz_at HBf.out 3;have c4:=cell_at (v:=.slice ko kl kc) HBf.out 4 rfl;have fc4:=froz_at HBf.out 4;go_wp2_with fail
   refine (are_p _ _ ks [] (d - 1) S x1 HX.out (BL.nil _)).mono ?_;rintro e x2 ⟨rfl,hb⟩;clear c0 fc0 c1 fc1 c2 fc2 c3 fc3 c4 fc4;replace HBf:=kBV hb HBf;replace HX:=Lib.hid (HX.out.below hb);replace HZ:=Lib.hid (HZ.out.below hb);replace HW:=Lib.hid (HW.out.trans (hb.mono HW.out.size));go_wp2_with fail
   go_ret
   exact⟨by simp[fitF,kidsOk],HW.out⟩
  ·have HX:=Lib.hid hk;have HZ:=Lib.hid hz;clear hk hz;have HW:=Lib.hid (Below.refl w.heap.size w);go_enter Try.func35,Try.ntmps35
   obtain⟨x1,kf,ef,ekf,hbf,hkf,HBf⟩:=newV w #[.int .i64 10,.bool b,.slice ao l c,.string nm,.slice ko kl kc] 29;replace HX:=Lib.hid (HX.out.below hbf.out);replace HZ:=Lib.hid (HZ.out.below hbf.out);replace HW:=Lib.hid (HW.out.trans (hbf.out.mono HW.out.size));have c0:=cell_at (v:=.int .i64 10) HBf.out 0 rfl;have fc0:=froz_at HBf.out 0;have c1:=cell_at (v:=.bool b) HBf.out 1 rfl;have fc1:=froz_at HBf.out 1;have c2:=cell_at (v:=.slice ao l c) HBf.out 2 rfl;have fc2:=froz_at HBf.out 2;have c3:=cell_at (v:=.string nm) HBf.out 3 rfl;have fc3:=froz_at HBf.out 3;have c4:=cell_at (v:=.slice ko kl kc) HBf.out 4 rfl;have fc4:=froz_at HBf.out 4;obtain⟨x2,ky,ey,eky,hby,hky,HBy⟩:=newV x1 #[.int .i64 0,.int .i64 2] 32;replace HBf:=kBV hby.out HBf;replace HX:=Lib.hid (HX.out.below hby.out);replace HZ:=Lib.hid (HZ.out.below hby.out)
   replace HW:=Lib.hid (HW.out.trans (hby.out.mono HW.out.size));go_wp2_with fail
   refine (are_p _ _ ks [0,2] (d - 1) S x2 HX.out (BL.block (ss:=[0,2]) HBy.out (by decide))).mono ?_;rintro e x3 ⟨rfl,hb⟩;clear c0 fc0 c1 fc1 c2 fc2 c3 fc3 c4 fc4;replace HBf:=kBV hb HBf;replace HBy:=kBV hb HBy;replace HX:=Lib.hid (HX.out.below hb);replace HZ:=Lib.hid (HZ.out.below hb);replace HW:=Lib.hid (HW.out.trans (hb.mono HW.out.size));go_wp2_with fail
   go_ret
   exact⟨by simp[fitF,kidsOk],HW.out⟩
  ·have HX:=Lib.hid hk;have HZ:=Lib.hid hz;clear hk hz;have HW:=Lib.hid (Below.refl w.heap.size w);go_enter Try.func35,Try.ntmps35
   obtain⟨x1,kf,ef,ekf,hbf,hkf,HBf⟩:=newV w #[.int .i64 11,.bool b,.slice ao l c,.string nm,.slice ko kl kc] 29;replace HX:=Lib.hid (HX.out.below hbf.out);replace HZ:=Lib.hid (HZ.out.below hbf.out);replace HW:=Lib.hid (HW.out.trans (hbf.out.mono HW.out.size));have c0:=cell_at (v:=.int .i64 11) HBf.out 0 rfl;have fc0:=froz_at HBf.out 0;have c1:=cell_at (v:=.bool b) HBf.out 1 rfl;have fc1:=froz_at HBf.out 1;have c2:=cell_at (v:=.slice ao l c) HBf.out 2 rfl;have fc2:=froz_at HBf.out 2;have c3:=cell_at (v:=.string nm) HBf.out 3 rfl;have fc3:=froz_at HBf.out 3;have c4:=cell_at (v:=.slice ko kl kc) HBf.out 4 rfl;have fc4:=froz_at HBf.out 4;obtain⟨x2,ky,ey,eky,hby,hky,HBy⟩:=newV x1 #[.int .i64 2] 32;replace HBf:=kBV hby.out HBf;replace HX:=Lib.hid (HX.out.below hby.out);replace HZ:=Lib.hid (HZ.out.below hby.out)
   replace HW:=Lib.hid (HW.out.trans (hby.out.mono HW.out.size));go_wp2_with fail
   refine (are_p _ _ ks [2] (d - 1) S x2 HX.out (BL.block (ss:=[2]) HBy.out (by decide))).mono ?_;rintro e x3 ⟨rfl,hb⟩;clear c0 fc0 c1 fc1 c2 fc2 c3 fc3 c4 fc4;replace HBf:=kBV hb HBf;replace HBy:=kBV hb HBy;replace HX:=Lib.hid (HX.out.below hb);replace HZ:=Lib.hid (HZ.out.below hb);replace HW:=Lib.hid (HW.out.trans (hb.mono HW.out.size));go_wp2_with fail
   go_ret
   exact⟨by simp[fitF,kidsOk],HW.out⟩
  ·have HX:=Lib.hid hk;have HZ:=Lib.hid hz;clear hk hz;have HW:=Lib.hid (Below.refl w.heap.size w);go_enter Try.func35,Try.ntmps35
   obtain⟨x1,kf,ef,ekf,hbf,hkf,HBf⟩:=newV w #[.int .i64 12,.bool b,.slice ao l c,.string nm,.slice ko kl kc] 29;replace HX:=Lib.hid (HX.out.below hbf.out);replace HZ:=Lib.hid (HZ.out.below hbf.out);replace HW:=Lib.hid (HW.out.trans (hbf.out.mono HW.out.size));have c0:=cell_at (v:=.int .i64 12) HBf.out 0 rfl;have fc0:=froz_at HBf.out 0;have c1:=cell_at (v:=.bool b) HBf.out 1 rfl;have fc1:=froz_at HBf.out 1;have c2:=cell_at (v:=.slice ao l c) HBf.out 2 rfl;have fc2:=froz_at HBf.out 2;have c3:=cell_at (v:=.string nm) HBf.out 3 rfl;have fc3:=froz_at HBf.out 3;have c4:=cell_at (v:=.slice ko kl kc) HBf.out 4 rfl;have fc4:=froz_at HBf.out 4;go_wp2_with fail
   refine (are_p _ _ ks [] (d - 1) S x1 HX.out (BL.nil _)).mono ?_;rintro e x2 ⟨rfl,hb⟩;clear c0 fc0 c1 fc1 c2 fc2 c3 fc3 c4 fc4;replace HBf:=kBV hb HBf;replace HX:=Lib.hid (HX.out.below hb);replace HZ:=Lib.hid (HZ.out.below hb);replace HW:=Lib.hid (HW.out.trans (hb.mono HW.out.size));go_wp2_with fail
   go_ret
   exact⟨by simp[fitF,kidsOk],HW.out⟩
  ·have HX:=Lib.hid hk;have HZ:=Lib.hid hz;clear hk hz;have HW:=Lib.hid (Below.refl w.heap.size w);go_enter Try.func35,Try.ntmps35
   obtain⟨x1,kf,ef,ekf,hbf,hkf,HBf⟩:=newV w #[.int .i64 13,.bool b,.slice ao l c,.string nm,.slice ko kl kc] 29;replace HX:=Lib.hid (HX.out.below hbf.out);replace HZ:=Lib.hid (HZ.out.below hbf.out);replace HW:=Lib.hid (HW.out.trans (hbf.out.mono HW.out.size));have c0:=cell_at (v:=.int .i64 13) HBf.out 0 rfl;have fc0:=froz_at HBf.out 0;have c1:=cell_at (v:=.bool b) HBf.out 1 rfl;have fc1:=froz_at HBf.out 1;have c2:=cell_at (v:=.slice ao l c) HBf.out 2 rfl;have fc2:=froz_at HBf.out 2;have c3:=cell_at (v:=.string nm) HBf.out 3 rfl;have fc3:=froz_at HBf.out 3;have c4:=cell_at (v:=.slice ko kl kc) HBf.out 4 rfl;have fc4:=froz_at HBf.out 4;go_wp2_with fail
   refine (are_p _ _ ks [] (d - 1) S x1 HX.out (BL.nil _)).mono ?_;rintro e x2 ⟨rfl,hb⟩;clear c0 fc0 c1 fc1 c2 fc2 c3 fc3 c4 fc4;replace HBf:=kBV hb HBf;replace HX:=Lib.hid (HX.out.below hb);replace HZ:=Lib.hid (HZ.out.below hb);replace HW:=Lib.hid (HW.out.trans (hb.mono HW.out.size));go_wp2_with fail
   go_ret
   exact⟨by simp[fitF,kidsOk],HW.out⟩
  ·have HX:=Lib.hid hk;have HZ:=Lib.hid hz;clear hk hz;have HW:=Lib.hid (Below.refl w.heap.size w);go_enter Try.func35,Try.ntmps35
   obtain⟨x1,kf,ef,ekf,hbf,hkf,HBf⟩:=newV w #[.int .i64 14,.bool b,.slice ao l c,.string nm,.slice ko kl kc] 29;replace HX:=Lib.hid (HX.out.below hbf.out);replace HZ:=Lib.hid (HZ.out.below hbf.out);replace HW:=Lib.hid (HW.out.trans (hbf.out.mono HW.out.size));have c0:=cell_at (v:=.int .i64 14) HBf.out 0 rfl;have fc0:=froz_at HBf.out 0;have c1:=cell_at (v:=.bool b) HBf.out 1 rfl;have fc1:=froz_at HBf.out 1;have c2:=cell_at (v:=.slice ao l c) HBf.out 2 rfl;have fc2:=froz_at HBf.out 2;have c3:=cell_at (v:=.string nm) HBf.out 3 rfl;have fc3:=froz_at HBf.out 3;have c4:=cell_at (v:=.slice ko kl kc) HBf.out 4 rfl;have fc4:=froz_at HBf.out 4;go_wp2_with fail
   refine (are_p _ _ ks [] (d - 1) S x1 HX.out (BL.nil _)).mono ?_;rintro e x2 ⟨rfl,hb⟩;clear c0 fc0 c1 fc1 c2 fc2 c3 fc3 c4 fc4;replace HBf:=kBV hb HBf;replace HX:=Lib.hid (HX.out.below hb);replace HZ:=Lib.hid (HZ.out.below hb);replace HW:=Lib.hid (HW.out.trans (hb.mono HW.out.size));go_wp2_with fail
   go_ret
   exact⟨by simp[fitF,kidsOk],HW.out⟩
  ·have HX:=Lib.hid hk;have HZ:=Lib.hid hz;clear hk hz;have HW:=Lib.hid (Below.refl w.heap.size w);go_enter Try.func35,Try.ntmps35
   obtain⟨x1,kf,ef,ekf,hbf,hkf,HBf⟩:=newV w #[.int .i64 15,.bool b,.slice ao l c,.string nm,.slice ko kl kc] 29;replace HX:=Lib.hid (HX.out.below hbf.out);replace HZ:=Lib.hid (HZ.out.below hbf.out);replace HW:=Lib.hid (HW.out.trans (hbf.out.mono HW.out.size));have c0:=cell_at (v:=.int .i64 15) HBf.out 0 rfl;have fc0:=froz_at HBf.out 0;have c1:=cell_at (v:=.bool b) HBf.out 1 rfl;have fc1:=froz_at HBf.out 1;have c2:=cell_at (v:=.slice ao l c) HBf.out 2 rfl;have fc2:=froz_at HBf.out 2;have c3:=cell_at (v:=.string nm) HBf.out 3 rfl;have fc3:=froz_at HBf.out 3;have c4:=cell_at (v:=.slice ko kl kc) HBf.out 4 rfl;have fc4:=froz_at HBf.out 4;obtain⟨x2,ky,ey,eky,hby,hky,HBy⟩:=newV x1 #[.int .i64 0,.int .i64 0] 32;replace HBf:=kBV hby.out HBf;replace HX:=Lib.hid (HX.out.below hby.out);replace HZ:=Lib.hid (HZ.out.below hby.out)
   replace HW:=Lib.hid (HW.out.trans (hby.out.mono HW.out.size));go_wp2_with fail
   refine (are_p _ _ ks [0,0] (d - 1) S x2 HX.out (BL.block (ss:=[0,0]) HBy.out (by decide))).mono ?_;rintro e x3 ⟨rfl,hb⟩;clear c0 fc0 c1 fc1 c2 fc2 c3 fc3 c4 fc4;replace HBf:=kBV hb HBf;replace HBy:=kBV hb HBy;replace HX:=Lib.hid (HX.out.below hb);replace HZ:=Lib.hid (HZ.out.below hb);replace HW:=Lib.hid (HW.out.trans (hb.mono HW.out.size));go_wp2_with fail
   go_ret
   exact⟨by simp[fitF,kidsOk],HW.out⟩
  ·have HX:=Lib.hid hk;have HZ:=Lib.hid hz;clear hk hz;have HW:=Lib.hid (Below.refl w.heap.size w);go_enter Try.func35,Try.ntmps35
   obtain⟨x1,kf,ef,ekf,hbf,hkf,HBf⟩:=newV w #[.int .i64 16,.bool b,.slice ao l c,.string nm,.slice ko kl kc] 29;replace HX:=Lib.hid (HX.out.below hbf.out);replace HZ:=Lib.hid (HZ.out.below hbf.out);replace HW:=Lib.hid (HW.out.trans (hbf.out.mono HW.out.size));have c0:=cell_at (v:=.int .i64 16) HBf.out 0 rfl;have fc0:=froz_at HBf.out 0;have c1:=cell_at (v:=.bool b) HBf.out 1 rfl;have fc1:=froz_at HBf.out 1;have c2:=cell_at (v:=.slice ao l c) HBf.out 2 rfl;have fc2:=froz_at HBf.out 2;have c3:=cell_at (v:=.string nm) HBf.out 3 rfl;have fc3:=froz_at HBf.out 3;have c4:=cell_at (v:=.slice ko kl kc) HBf.out 4 rfl;have fc4:=froz_at HBf.out 4;obtain⟨x2,ky,ey,eky,hby,hky,HBy⟩:=newV x1 #[.int .i64 0,.int .i64 0] 32;replace HBf:=kBV hby.out HBf;replace HX:=Lib.hid (HX.out.below hby.out);replace HZ:=Lib.hid (HZ.out.below hby.out)
   replace HW:=Lib.hid (HW.out.trans (hby.out.mono HW.out.size));go_wp2_with fail
   refine (are_p _ _ ks [0,0] (d - 1) S x2 HX.out (BL.block (ss:=[0,0]) HBy.out (by decide))).mono ?_;rintro e x3 ⟨rfl,hb⟩;clear c0 fc0 c1 fc1 c2 fc2 c3 fc3 c4 fc4;replace HBf:=kBV hb HBf;replace HBy:=kBV hb HBy;replace HX:=Lib.hid (HX.out.below hb);replace HZ:=Lib.hid (HZ.out.below hb);replace HW:=Lib.hid (HW.out.trans (hb.mono HW.out.size));have c0:=cell_at (v:=.int .i64 16) HBf.out 0 rfl;have fc0:=froz_at HBf.out 0;have c1:=cell_at (v:=.bool b) HBf.out 1 rfl;have fc1:=froz_at HBf.out 1;have c2:=cell_at (v:=.slice ao l c) HBf.out 2 rfl;have fc2:=froz_at HBf.out 2;have c3:=cell_at (v:=.string nm) HBf.out 3 rfl;have fc3:=froz_at HBf.out 3;have c4:=cell_at (v:=.slice ko kl kc) HBf.out 4 rfl;have fc4:=froz_at HBf.out 4
   by_cases hs:srts ks=[0,0]
   ·rw[decide_eq_true hs];go_wp2_with fail
    go_ret
    exact⟨by simp[fitF,kidsOk,hs],HW.out⟩
   rw[decide_eq_false hs];obtain⟨x4,kt,et,ekt,hbt,hkt,HBt⟩:=newV x3 #[.int .i64 2,.int .i64 2] 32;replace HBf:=kBV hbt.out HBf;replace HBy:=kBV hbt.out HBy;replace HX:=Lib.hid (HX.out.below hbt.out);replace HZ:=Lib.hid (HZ.out.below hbt.out);replace HW:=Lib.hid (HW.out.trans (hbt.out.mono HW.out.size));go_wp2_with fail
   refine (are_p _ _ ks [2,2] (d - 1) S x4 HX.out (BL.block (ss:=[2,2]) HBt.out (by decide))).mono ?_;rintro e x5 ⟨rfl,hb⟩;clear c0 fc0 c1 fc1 c2 fc2 c3 fc3 c4 fc4;replace HBf:=kBV hb HBf;replace HBy:=kBV hb HBy;replace HBt:=kBV hb HBt;replace HX:=Lib.hid (HX.out.below hb);replace HZ:=Lib.hid (HZ.out.below hb);replace HW:=Lib.hid (HW.out.trans (hb.mono HW.out.size));go_wp2_with fail
   go_ret
   exact⟨by simp[fitF,kidsOk,hs],HW.out⟩
  ·have HX:=Lib.hid hk;have HZ:=Lib.hid hz;clear hk hz;have HW:=Lib.hid (Below.refl w.heap.size w);go_enter Try.func35,Try.ntmps35
   obtain⟨x1,kf,ef,ekf,hbf,hkf,HBf⟩:=newV w #[.int .i64 17,.bool b,.slice ao l c,.string nm,.slice ko kl kc] 29;replace HX:=Lib.hid (HX.out.below hbf.out);replace HZ:=Lib.hid (HZ.out.below hbf.out);replace HW:=Lib.hid (HW.out.trans (hbf.out.mono HW.out.size));have c0:=cell_at (v:=.int .i64 17) HBf.out 0 rfl;have fc0:=froz_at HBf.out 0;have c1:=cell_at (v:=.bool b) HBf.out 1 rfl;have fc1:=froz_at HBf.out 1;have c2:=cell_at (v:=.slice ao l c) HBf.out 2 rfl;have fc2:=froz_at HBf.out 2;have c3:=cell_at (v:=.string nm) HBf.out 3 rfl;have fc3:=froz_at HBf.out 3;have c4:=cell_at (v:=.slice ko kl kc) HBf.out 4 rfl;have fc4:=froz_at HBf.out 4;obtain⟨x2,ky,ey,eky,hby,hky,HBy⟩:=newV x1 #[.int .i64 1] 32;replace HBf:=kBV hby.out HBf;replace HX:=Lib.hid (HX.out.below hby.out);replace HZ:=Lib.hid (HZ.out.below hby.out)
   replace HW:=Lib.hid (HW.out.trans (hby.out.mono HW.out.size));go_wp2_with fail
   refine (are_p _ _ ks [1] (d - 1) S x2 HX.out (BL.block (ss:=[1]) HBy.out (by decide))).mono ?_;rintro e x3 ⟨rfl,hb⟩;clear c0 fc0 c1 fc1 c2 fc2 c3 fc3 c4 fc4;replace HBf:=kBV hb HBf;replace HBy:=kBV hb HBy;replace HX:=Lib.hid (HX.out.below hb);replace HZ:=Lib.hid (HZ.out.below hb);replace HW:=Lib.hid (HW.out.trans (hb.mono HW.out.size));go_wp2_with fail
   go_ret
   exact⟨by simp[fitF,kidsOk],HW.out⟩
  ·have HX:=Lib.hid hk;have HZ:=Lib.hid hz;clear hk hz;have HW:=Lib.hid (Below.refl w.heap.size w);go_enter Try.func35,Try.ntmps35
   obtain⟨x1,kf,ef,ekf,hbf,hkf,HBf⟩:=newV w #[.int .i64 18,.bool b,.slice ao l c,.string nm,.slice ko kl kc] 29;replace HX:=Lib.hid (HX.out.below hbf.out);replace HZ:=Lib.hid (HZ.out.below hbf.out);replace HW:=Lib.hid (HW.out.trans (hbf.out.mono HW.out.size));have c0:=cell_at (v:=.int .i64 18) HBf.out 0 rfl;have fc0:=froz_at HBf.out 0;have c1:=cell_at (v:=.bool b) HBf.out 1 rfl;have fc1:=froz_at HBf.out 1;have c2:=cell_at (v:=.slice ao l c) HBf.out 2 rfl;have fc2:=froz_at HBf.out 2;have c3:=cell_at (v:=.string nm) HBf.out 3 rfl;have fc3:=froz_at HBf.out 3;have c4:=cell_at (v:=.slice ko kl kc) HBf.out 4 rfl;have fc4:=froz_at HBf.out 4;go_wp2_with fail
   refine (areAll_p _ 1 ks (d - 1) S x1 HX.out).mono ?_;rintro e x2 ⟨rfl,hb⟩;clear c0 fc0 c1 fc1 c2 fc2 c3 fc3 c4 fc4;replace HBf:=kBV hb HBf;replace HX:=Lib.hid (HX.out.below hb);replace HZ:=Lib.hid (HZ.out.below hb);replace HW:=Lib.hid (HW.out.trans (hb.mono HW.out.size));go_wp2_with fail
   go_ret
   exact⟨by simp[fitF,kidsOk],HW.out⟩
  ·have HX:=Lib.hid hk;have HZ:=Lib.hid hz;clear hk hz;have HW:=Lib.hid (Below.refl w.heap.size w);go_enter Try.func35,Try.ntmps35
   obtain⟨x1,kf,ef,ekf,hbf,hkf,HBf⟩:=newV w #[.int .i64 19,.bool b,.slice ao l c,.string nm,.slice ko kl kc] 29;replace HX:=Lib.hid (HX.out.below hbf.out);replace HZ:=Lib.hid (HZ.out.below hbf.out);replace HW:=Lib.hid (HW.out.trans (hbf.out.mono HW.out.size));have c0:=cell_at (v:=.int .i64 19) HBf.out 0 rfl;have fc0:=froz_at HBf.out 0;have c1:=cell_at (v:=.bool b) HBf.out 1 rfl;have fc1:=froz_at HBf.out 1;have c2:=cell_at (v:=.slice ao l c) HBf.out 2 rfl;have fc2:=froz_at HBf.out 2;have c3:=cell_at (v:=.string nm) HBf.out 3 rfl;have fc3:=froz_at HBf.out 3;have c4:=cell_at (v:=.slice ko kl kc) HBf.out 4 rfl;have fc4:=froz_at HBf.out 4;go_wp2_with fail
   refine (areAll_p _ 1 ks (d - 1) S x1 HX.out).mono ?_;rintro e x2 ⟨rfl,hb⟩;clear c0 fc0 c1 fc1 c2 fc2 c3 fc3 c4 fc4;replace HBf:=kBV hb HBf;replace HX:=Lib.hid (HX.out.below hb);replace HZ:=Lib.hid (HZ.out.below hb);replace HW:=Lib.hid (HW.out.trans (hb.mono HW.out.size));go_wp2_with fail
   go_ret
   exact⟨by simp[fitF,kidsOk],HW.out⟩
  have HX:=Lib.hid hk;have HZ:=Lib.hid hz;clear hk hz;have HW:=Lib.hid (Below.refl w.heap.size w);go_enter Try.func35,Try.ntmps35
  obtain⟨x1,kf,ef,ekf,hbf,hkf,HBf⟩:=newV w #[.int .i64 20,.bool b,.slice ao l c,.string nm,.slice ko kl kc] 29;replace HX:=Lib.hid (HX.out.below hbf.out);replace HZ:=Lib.hid (HZ.out.below hbf.out);replace HW:=Lib.hid (HW.out.trans (hbf.out.mono HW.out.size));have c0:=cell_at (v:=.int .i64 20) HBf.out 0 rfl;have fc0:=froz_at HBf.out 0;have c1:=cell_at (v:=.bool b) HBf.out 1 rfl;have fc1:=froz_at HBf.out 1;have c2:=cell_at (v:=.slice ao l c) HBf.out 2 rfl;have fc2:=froz_at HBf.out 2;have c3:=cell_at (v:=.string nm) HBf.out 3 rfl;have fc3:=froz_at HBf.out 3;have c4:=cell_at (v:=.slice ko kl kc) HBf.out 4 rfl;have fc4:=froz_at HBf.out 4;obtain⟨x2,ky,ey,eky,hby,hky,HBy⟩:=newV x1 #[.int .i64 1,.int .i64 1] 32;replace HBf:=kBV hby.out HBf;replace HX:=Lib.hid (HX.out.below hby.out);replace HZ:=Lib.hid (HZ.out.below hby.out)
  replace HW:=Lib.hid (HW.out.trans (hby.out.mono HW.out.size));go_wp2_with fail
  refine (are_p _ _ ks [1,1] (d - 1) S x2 HX.out (BL.block (ss:=[1,1]) HBy.out (by decide))).mono ?_;rintro e x3 ⟨rfl,hb⟩;clear c0 fc0 c1 fc1 c2 fc2 c3 fc3 c4 fc4;replace HBf:=kBV hb HBf;replace HBy:=kBV hb HBy;replace HX:=Lib.hid (HX.out.below hb);replace HZ:=Lib.hid (HZ.out.below hb);replace HW:=Lib.hid (HW.out.trans (hb.mono HW.out.size));go_wp2_with fail
  go_ret
  exact⟨by simp[fitF,kidsOk],HW.out⟩
 have n0:(o==0)=false:=beq_eq_false_iff_ne.2 (by omega);have n1:(o==1)=false:=beq_eq_false_iff_ne.2 (by omega);have n2:(o==2)=false:=beq_eq_false_iff_ne.2 (by omega);have n3:(o==3)=false:=beq_eq_false_iff_ne.2 (by omega);have n4:(o==4)=false:=beq_eq_false_iff_ne.2 (by omega);have n5:(o==5)=false:=beq_eq_false_iff_ne.2 (by omega);have n6:(o==6)=false:=beq_eq_false_iff_ne.2 (by omega);have n7:(o==7)=false:=beq_eq_false_iff_ne.2 (by omega);have n8:(o==8)=false:=beq_eq_false_iff_ne.2 (by omega);have n9:(o==9)=false:=beq_eq_false_iff_ne.2 (by omega);have n10:(o==10)=false:=beq_eq_false_iff_ne.2 (by omega);have n11:(o==11)=false:=beq_eq_false_iff_ne.2 (by omega);have n12:(o==12)=false:=beq_eq_false_iff_ne.2 (by omega);have n13:(o==13)=false:=beq_eq_false_iff_ne.2 (by omega)
 have n14:(o==14)=false:=beq_eq_false_iff_ne.2 (by omega);have n15:(o==15)=false:=beq_eq_false_iff_ne.2 (by omega);have n16:(o==16)=false:=beq_eq_false_iff_ne.2 (by omega);have n17:(o==17)=false:=beq_eq_false_iff_ne.2 (by omega);have n18:(o==18)=false:=beq_eq_false_iff_ne.2 (by omega);have n19:(o==19)=false:=beq_eq_false_iff_ne.2 (by omega);have n20:(o==20)=false:=beq_eq_false_iff_ne.2 (by omega)
 have hf:fitF o z (srts ks)=false:=by
  unfold fitF kidsOk;rw[if_neg (by omega),if_neg (by omega),if_neg (by omega),if_neg (by omega),if_neg (by omega),if_neg (by omega),if_neg (by omega),if_neg (by omega),if_neg (by omega)]
  rfl
 clear h;have HW:=Lib.hid ((Below.refl w.heap.size w).alloc (Nat.le_refl _) (.cells #[.int .i64 o,.bool b,.slice ao l c,.string nm,.slice ko kl kc] 29));clear hk hz;go_enter Try.func35,Try.ntmps35
 go_wp2_with fail
 go_ret
 exact⟨by rw[hf];rfl,HW.out⟩
theorem canon_p (v:Value) (z:Int) (k:Nat) (w:World) (h:CI w v z k) :
  Calls Try.prog 36 #[v] w fun e w'=>e=.returned (.bool true)/\Below w.heap.size w w':=by
 obtain⟨va,rfl,h1,-⟩:=h;obtain⟨ao,cap,rfl,h2,h3,h4,h5⟩:=h1
 by_cases h0:z=0
 ·subst h0;have e0:(dig L32 (Int.natAbs 0)).length=0:=by rw[Int.natAbs_zero,dig_zero];rfl
  rw[e0] at h2 ⊢;rw[show decide ((0:Int)<0)=false from rfl];have HW:=Lib.hid ((Below.refl w.heap.size w).alloc (Nat.le_refl _) (.cells #[.bool false,.slice ao 0 cap] 26));clear h5;go_enter Try.func36,Try.ntmps36
  go_wp2_with fail
  go_ret
  exact⟨rfl,HW.out⟩
 have hp:0<(dig L32 z.natAbs).length:=dig_len_pos (by omega);have hl:=dig_last (B:=L32) (by decide) hp;obtain⟨a,rfl,hc⟩:=h5 ((dig L32 z.natAbs).length - 1) (by omega);clear h5;have hl2:nth (dig L32 z.natAbs) ((dig L32 z.natAbs).length - 1)≠0:=by unfold nth;simpa using hl
 clear hl;generalize nth (dig L32 z.natAbs) ((dig L32 z.natAbs).length - 1)=x at hc hl2;generalize (dig L32 z.natAbs).length=n at *;generalize decide (z<0)=sg at *;have hne:(x != 0)=true:=by rw[bne_iff_ne];omega
 have hn0:(((n:Nat):Int)==0)=false:=beq_eq_false_iff_ne.2 (by omega);have hcap:cap<=9223372036854775807:=h3;have hb:=(Below.refl w.heap.size w).alloc (Nat.le_refl _) (.cells #[.bool sg,.slice (some a) n cap] 26);have HW:=Lib.hid hb;rw[<-hb.cell (World.block_lt_of_cell? w _ hc)] at hc;clear hl2 hb h0;have hsub:((n:Nat):Int) - 1=((n - 1:Nat):Int):=by omega
 go_enter Try.func36,Try.ntmps36
 go_wp2_with fail
 go_ret
 exact⟨rfl,HW.out⟩
theorem rts_take (ks:List F) (j:Nat) (h:j<ks.length):rts (ks.take (j+1))=(rts (ks.take j) && rt ks[j]):=by
 rw[List.take_succ_eq_append_getElem h,rts_all,List.all_append,rts_all];simp
theorem rts_false {ks:List F} {j:Nat} (h:j<ks.length) (hr:rt ks[j]=false):rts ks=false:=by
 rw[rts_all,List.all_eq_false];exact⟨_,List.getElem_mem h,by simp[hr]⟩
theorem right_p (d:Nat):∀ (v:Value) (t:F) (S:Nat->Prop) (w:World),FC w S d v t ->
  Calls Try.prog 9 #[v] w fun e w'=>e=.returned (.bool (rt t))/\Below w.heap.size w w':=by
 induction d with
 | zero=>intro v t S w h;obtain⟨_,_,_,_,_,_,_,_,_,h0,_⟩:=h.open;omega
 | succ d ih =>
  intro v t S w h;obtain⟨b,ao,l,c,ko,kl,kc,rfl,⟨hr,hz,hkl,hkc,hkm⟩,-,hk⟩:=h.open;obtain⟨o,z,nm,ks⟩:=t;simp only[F.op,F.num,F.name,F.kids] at hr hz hk hkl h ⊢;obtain⟨n,hn⟩:∃ n,n=ks.length:=⟨_,rfl⟩
  rw[<-hn] at hkl;subst hkl;have HN:=Lib.hid hn;clear hn hr;have HX:=Lib.hid hk;have HZ:=Lib.hid hz;have HF0:=Lib.hid h;have IH:=Lib.hid ih;clear hk hz h ih;have HW:=Lib.hid (Below.refl w.heap.size w);have hkm':kc<=9223372036854775807:=hkm;go_enter Try.func9,Try.ntmps9
  obtain⟨x1,kf,ef,ekf,hbf,hkf,HBf⟩:=newV w #[.int .i64 o,.bool b,.slice ao l c,.string nm,.slice ko kl kc] 29;replace HX:=Lib.hid (HX.out.below hbf.out);replace HZ:=Lib.hid (HZ.out.below hbf.out);replace HF0:=Lib.hid (HF0.out.below hbf.out);replace HW:=Lib.hid (HW.out.trans (hbf.out.mono HW.out.size));have c0:=cell_at (v:=.int .i64 o) HBf.out 0 rfl;have fc0:=froz_at HBf.out 0;have c1:=cell_at (v:=.bool b) HBf.out 1 rfl;have fc1:=froz_at HBf.out 1;have c2:=cell_at (v:=.slice ao l c) HBf.out 2 rfl;have fc2:=froz_at HBf.out 2;have c3:=cell_at (v:=.string nm) HBf.out 3 rfl;have fc3:=froz_at HBf.out 3;have c4:=cell_at (v:=.slice ko kl kc) HBf.out 4 rfl;have fc4:=froz_at HBf.out 4;go_wp2_with fail
  refine (fits_p _ (.node o z nm ks) (d+1) S x1 HF0.out).mono ?_;rintro e x2 ⟨rfl,hb⟩;clear c0 fc0 c1 fc1 c2 fc2 c3 fc3 c4 fc4;replace HBf:=kBV hb HBf;replace HX:=Lib.hid (HX.out.below hb);replace HZ:=Lib.hid (HZ.out.below hb);replace HF0:=Lib.hid (HF0.out.below hb);replace HW:=Lib.hid (HW.out.trans (hb.mono HW.out.size));simp only[F.op,F.num,F.kids];have hrt:rt (.node o z nm ks)=(fitF o z (srts ks) && rts ks):=by rw[rt]
  generalize fitF o z (srts ks)=p at hrt ⊢;have c0:=cell_at (v:=.int .i64 o) HBf.out 0 rfl;have fc0:=froz_at HBf.out 0;have c1:=cell_at (v:=.bool b) HBf.out 1 rfl;have fc1:=froz_at HBf.out 1;have c2:=cell_at (v:=.slice ao l c) HBf.out 2 rfl;have fc2:=froz_at HBf.out 2;have c3:=cell_at (v:=.string nm) HBf.out 3 rfl;have fc3:=froz_at HBf.out 3;have c4:=cell_at (v:=.slice ko kl kc) HBf.out 4 rfl;have fc4:=froz_at HBf.out 4
  cases p with
  | false =>
   go_wp2_with fail
   go_ret
   exact⟨by rw[hrt];rfl,HW.out⟩
  | true =>
   go_wp2_with fail
   refine (canon_p _ z 600 x2 HZ.out).mono ?_;rintro e x3 ⟨rfl,hb⟩;clear c0 fc0 c1 fc1 c2 fc2 c3 fc3 c4 fc4;replace HBf:=kBV hb HBf;replace HX:=Lib.hid (HX.out.below hb);replace HZ:=Lib.hid (HZ.out.below hb);replace HF0:=Lib.hid (HF0.out.below hb);replace HW:=Lib.hid (HW.out.trans (hb.mono HW.out.size));have c0:=cell_at (v:=.int .i64 o) HBf.out 0 rfl;have fc0:=froz_at HBf.out 0;have c1:=cell_at (v:=.bool b) HBf.out 1 rfl;have fc1:=froz_at HBf.out 1;have c2:=cell_at (v:=.slice ao l c) HBf.out 2 rfl;have fc2:=froz_at HBf.out 2;have c3:=cell_at (v:=.string nm) HBf.out 3 rfl;have fc3:=froz_at HBf.out 3;have c4:=cell_at (v:=.slice ko kl kc) HBf.out 4 rfl;have fc4:=froz_at HBf.out 4;go_wp2_with fail
   clear c0 fc0 c1 fc1 c2 fc2 c3 fc3 c4 fc4
   go_loopw [17] (fun i wr=>∃ j:Nat,i=.int .i64 (j:Nat)/\j<=kl/\Hid (rts (ks.take j)=true)/\Hid (Below x3.heap.size x3 wr)) (fun i _=>kl - (intOf i).toNat)
   case atStart=>exact⟨0,rfl,Nat.zero_le _,Lib.hid rfl,Lib.hid (Below.refl _ _)⟩
   case round =>
    obtain⟨j,rfl,hj,HT,HB⟩:=hrel;replace HX:=Lib.hid (HX.out.below HB.out);replace HW:=Lib.hid (HW.out.trans (HB.out.mono HW.out.size))
    by_cases hlt:j<kl
    ·have hz:j<ks.length:=by rw[<-HN.out];exact hlt
     obtain⟨a,bb,qo,ql,qc,po,pl,pc,rfl,⟨c0,c1,c2,c3,c4⟩,hf⟩:=HX.out.cells j hz;have HFC:=Lib.hid hf;clear hf;obtain⟨x,hxx⟩:∃ x,x=ks[j].op:=⟨_,rfl⟩
     obtain⟨ym,hnm⟩:∃ x,x=ks[j].name:=⟨_,rfl⟩
     rw[<-hxx] at c0 HFC;rw[<-hnm] at c3 HFC;clear hxx hnm;obtain⟨x4,k8,e8,ek8,hb8,hk8,HB8⟩:=newV wr #[.int .i64 x,.bool bb,.slice qo ql qc,.string ym,.slice po pl pc] 29;replace HW:=Lib.hid (HW.out.trans (hb8.out.mono HW.out.size));replace HB:=Lib.hid (HB.out.trans (hb8.out.mono HB.out.size));replace HFC:=Lib.hid (HFC.out.below hb8.out);have g0:=cell_at (v:=.int .i64 x) HB8.out 0 rfl;have fg0:=froz_at HB8.out 0;have g1:=cell_at (v:=.bool bb) HB8.out 1 rfl;have fg1:=froz_at HB8.out 1;have g2:=cell_at (v:=.slice qo ql qc) HB8.out 2 rfl;have fg2:=froz_at HB8.out 2;have g3:=cell_at (v:=.string ym) HB8.out 3 rfl;have fg3:=froz_at HB8.out 3;have g4:=cell_at (v:=.slice po pl pc) HB8.out 4 rfl;have fg4:=froz_at HB8.out 4;go_wp2_with fail
     refine (IH.out _ ks[j] S x4 HFC.out).mono ?_;rintro e x5 ⟨rfl,hb⟩;clear g0 fg0 g1 fg1 g2 fg2 g3 fg3 g4 fg4;replace HB8:=kBV hb HB8;replace HW:=Lib.hid (HW.out.trans (hb.mono HW.out.size));replace HB:=Lib.hid (HB.out.trans (hb.mono HB.out.size));replace HFC:=Lib.hid (HFC.out.below hb);clear hb HFC;have HT1:=Lib.hid (rts_take ks j hz);have HT2:=Lib.hid (rts_false hz);rw[HT.out] at HT1;generalize rt ks[j]=p at HT1 HT2 ⊢
     cases p with
     | true =>
      go_wp2_with fail
      go_roundw
      case rel=>exact⟨j+1,by go_num,hlt,HT1,HB⟩
      case measure=>simp[intOf];omega
     | false =>
      go_wp2_with fail
      go_ret
      exact⟨by rw[hrt,HT2.out (by trivial)];rfl,HW.out⟩
    go_wp2_with fail
    go_ret
    have e:=HT.out;rw[show j=kl by omega,HN.out,List.take_length] at e;exact⟨by rw[hrt,e];rfl,HW.out⟩
end Go.Proofs.Ytdkfnbbebpbhaaa
namespace Go.Proofs.Ytdkfnbbebpbhaaa
open Go.RowKit Go.Shelf
set_option maxRecDepth 100000
set_option linter.unusedVariables false
set_option linter.unusedSimpArgs false
attribute [local go_sem] Oper.semAt_some
theorem infoBind:(Try.prog.info? 59).map (fun i=>(i.zero,i.size,i.bytes))=some (some (.agg #[.string ⟨#[]⟩,.int .i64 0,.bool false,.slice none 0 0,.bool false,.slice none 0 0]),6,88):=by kernel_rfl
structure BU where
 nm:ByteArray
 u:VU
def bC (b:BU):List Value:=.string b.nm::vC b.u
def bV (b:BU):Value:=.agg #[.string b.nm,.int .i64 b.u.k,.bool (decide (b.u.n.z<0)),.slice b.u.n.o b.u.n.l b.u.n.c,.bool b.u.b,.slice b.u.lo b.u.ll b.u.lc]
def bE:El BU where
 e:=59
 t:=34
 n:=6
 b:=88
 z:=.agg #[.string ⟨#[]⟩,.int .i64 0,.bool false,.slice none 0 0,.bool false,.slice none 0 0]
 f:=bC
 R w b:=VR w b.u
 ok e':=26≠e'
 pos:=by decide
 by_:=by decide
 zs:=rfl
 z32:=by intro u hu z;simp only[Value.cells,List.mem_cons,List.not_mem_nil,or_false] at hu;rcases hu with rfl | rfl | rfl | rfl | rfl | rfl<;>(intro h;cases h)
 ht:=Try.underlying34
 info:=infoBind
 len _:=rfl
 one n:=by
  intro u hu;simp only[bC,vC,List.mem_cons,List.not_mem_nil,or_false] at hu;rcases hu with rfl | rfl | rfl | rfl | rfl | rfl<;>rfl
 n32 n:=by
  intro u hu z;simp only[bC,vC,List.mem_cons,List.not_mem_nil,or_false] at hu;rcases hu with rfl | rfl | rfl | rfl | rfl | rfl<;>(intro h;cases h)
 fr ok f h:=VR.fr h ok f
 own:=by decide
def envOf (us:List BU):List (ByteArray × V):=us.map fun b=>(b.nm,b.u.x)
def EL (w:World) (v:Value) (env:List (ByteArray × V)):Prop:=∃ us,bE.At w v us/\envOf us=env
theorem EL.below {w w':World} {v:Value} {env:List (ByteArray × V)} (h:EL w v env) (hb:Below w.heap.size w w'):EL w' v env:=by
 obtain⟨us,h1,h2⟩:=h;exact⟨us,h1.below hb,h2⟩
theorem bAt_cells {w:World} {v:Value} {us:List BU} (h:bE.At w v us):∃ ko kc,v=.slice ko us.length kc/\us.length<=kc/\kc<=maxLen/\∀ i (hi:i<us.length),∃ a,ko=some a /\
  w.cell? (a.add (i*6))=some (.string us[i].nm)/\w.cell? ⟨(a.add (i*6)).block,(a.add (i*6)).off+1,none⟩=some (.int .i64 us[i].u.k)/\w.cell? ⟨(a.add (i*6)).block,(a.add (i*6)).off+2,none⟩=some (.bool (decide (us[i].u.n.z<0))) /\
  w.cell? ⟨(a.add (i*6)).block,(a.add (i*6)).off+3,none⟩=some (.slice us[i].u.n.o us[i].u.n.l us[i].u.n.c)/\w.cell? ⟨(a.add (i*6)).block,(a.add (i*6)).off+4,none⟩=some (.bool us[i].u.b)/\w.cell? ⟨(a.add (i*6)).block,(a.add (i*6)).off+5,none⟩=some (.slice us[i].u.lo us[i].u.ll us[i].u.lc)/\VR w us[i].u:=by
 obtain⟨ko,kc,rfl,⟨h1,h2,h3⟩,h4⟩:=h;refine⟨ko,kc,rfl,h1,h2,fun i hi=>?_⟩;obtain⟨a,ha,-,h5,h6⟩:=h4 i hi;have g:∀ j q,(bC us[i])[j]?=some q->w.cell? ((a.add (i*6)).add j)=some q:=fun j q hj=>by rw[add_addV];exact h5 j q hj
 exact⟨a,ha,g 0 _ rfl,g 1 _ rfl,g 2 _ rfl,g 3 _ rfl,g 4 _ rfl,g 5 _ rfl,h6⟩
abbrev YI:=Nat × BU
def yI (x:YI):Array Value:=#[.int .i64 (x.1:Nat),bV x.2]
theorem drop_rev {α:Type} (l:List α) (k:Nat) (h:k<l.length):(l.drop k).reverse=(l.drop (k+1)).reverse++[l[k]]:=by
 rw[List.drop_eq_getElem_cons h,List.reverse_cons]
theorem back_stops (F:Fence) (hd:F.depth=none) (hF:∀ f,F.fn f) (hro:F.round=none) (n Bt:Nat) (ve:Value) (us:List BU) (w:World) (hB:w.heap[Bt]?=some (.cells #[ve] 72 (0,0))) (hu:bE.At w ve us) :
  SeqStopsK F n Try.prog 91 #[.pointer (some ⟨Bt,0,none⟩)] yI (Below w.heap.size) (fun xs=>xs.map (·.2)=us.reverse) (fun pre=>∃ k,pre.map (·.2)=(us.drop k).reverse/\k<=us.length) us.length w:=by
 intro l J Jx W hW hJ hJx hY h0;obtain⟨ko,kc,rfl,hk1,hk2,hk3⟩:=bAt_cells hu;have hkc:kc<=9223372036854775807:=hk2;have hB2:W.heap[Bt]?=some (.cells #[.slice ko us.length kc] 72 (0,0)):=(hW.block _ (lt_of_block hB)).trans hB;have HB:=Lib.hid hB;have HU:=Lib.hid hu;have HW:=Lib.hid hW;have HY:=Lib.hid hY;have c0:=cell_at (v:=.slice ko us.length kc) hB2 0 rfl;obtain⟨N,hN⟩:∃ N,N=us.length:=⟨_,rfl⟩
 have HN:=Lib.hid hN;rw[<-hN] at c0 hk1 HB HU HY ⊢;have J0:=Lib.hid h0;clear hW hJ hJx hY h0 hu hB hB2 hk3 hk2 hN;refine callsIn_of_wp Try.func91 rfl (hF _) ?_ hro;simp only[Try.ntmps91,List.size_toArray,lsc,lsn,Nat.reduceAdd,Nat.reduceSub,Array.replicate_succ,Array.replicate_zero,List.push_toArray,List.append_toArray,List.nil_append,List.cons_append]
 gi_wp2_with fail
 gi_loopw [3] (fun p wr=>∃ (j:Nat) (pre:List YI),p=.int .i64 ((j:Int) - 1)/\j<=N/\Hid (pre.map (·.2)=(us.drop j).reverse)/\Hid (pre.length+j=N)/\Hid (J pre wr)/\Hid (Below w.heap.size w wr)) (fun p _=>(intOf p+1).toNat)
 case atStart=>exact⟨N,[],rfl,Nat.le_refl _,Lib.hid (by rw[HN.out,List.drop_length];rfl),Lib.hid (by simp),J0,HW⟩
 case round =>
  obtain⟨wl,hwl⟩:∃ q,q=wr:=⟨_,rfl⟩
  subst hwl;clear c0;obtain⟨j,pre,rfl,hj,HP,HL,HJ,HBW⟩:=hrel;have hBl:wl.heap[Bt]?=some (.cells #[.slice ko N kc] 72 (0,0)):=(HBW.out.block _ (lt_of_block HB.out)).trans HB.out;have c0:=cell_at (v:=.slice ko N kc) hBl 0 rfl;clear hBl
  cases j with
  | zero =>
   rw[show ((0:Nat):Int) - 1 = -1 by decide]
   gi_wp2_with fail
   go_end0
   exact⟨⟨_,rfl⟩,.inl ⟨pre,by rw[HP.out,List.drop_zero],HJ.out⟩⟩
  | succ k =>
   rw[show ((k+1:Nat):Int) - 1=((k:Nat):Int) by omega];have hkn:k<us.length:=by have:=HN.out;omega
   obtain⟨ko',kc',e,-,-,hcs⟩:=bAt_cells (HU.out.below HBW.out);injection e with e1 e2 e3;subst e1;obtain⟨a,rfl,d0,d1,d2,d3,d4,d5,-⟩:=hcs k hkn;obtain⟨y,hyy⟩:∃ y,y=us[k]:=⟨_,rfl⟩
   rw[<-hyy] at d0 d1 d2 d3 d4 d5;have HYK:=Lib.hid hyy;have hlen1:pre.length<N:=by have:=HL.out;omega
   obtain⟨fn,tmps,assign,body,hy,hR⟩:=HY.out pre (k,y) wl HJ.out hlen1;simp only[yI,bV] at hy;clear hcs e2 e3 hyy hlen1
   gi_wp2_with fail
   refine hR.mono ?_;clear hR hy c0 d0 d1 d2 d3 d4 d5;rintro e W2 (⟨rfl,hJ2,hk2⟩ | ⟨rfl,hx2⟩)
   ·have HJ2:=Lib.hid hJ2;replace HBW:=Lib.hid (HBW.out.trans hk2);clear hJ2 hk2
    gi_wp2_with fail
    go_roundw
    case rel=>exact⟨k,pre++[(k,y)],rfl,by omega,Lib.hid (by rw[drop_rev us k hkn,List.map_append,HP.out,HYK.out];rfl),Lib.hid (by have:=HL.out;simp only[lsa,lsc,lsn];omega),HJ2,HBW⟩
    case measure=>simp[intOf]
   have HX2:=Lib.hid hx2;clear hx2
   gi_wp2_with fail
   (try simp only[Exit.inBlock,Exit.then])
   refine bodyPost_ret (results_none rfl _ _ _) rfl ?_;exact⟨⟨_,rfl⟩,.inr ⟨_,⟨k,by rw[drop_rev us k hkn,List.map_append,HP.out,HYK.out];rfl,by omega⟩,HX2.out⟩⟩
theorem back_p (ko:Option Addr) (n kc:Nat) (w:World):Calls Try.prog 86 #[.slice ko n kc] w fun e w'=>e=.returned (.func (.func 91) #[] #[.pointer (some ⟨w.heap.size,0,none⟩)])/\w'=w.alloc (.cells #[.slice ko n kc] 72):=by
 go_enter Try.func86,Try.ntmps86
 go_wp2_with fail
 go_ret
 exact⟨rfl,rfl⟩
attribute [local go_sem] Oper.semAt_some
theorem bs_no {a b:ByteArray} (h:a≠b):(a.toList==b.toList)=false:=beq_eq_false_iff_ne.2 (fun e=>h (by
 rw[ByteArray.toList_eq,ByteArray.toList_eq] at e
 exact ByteArray.ext (Array.toList_inj.1 e)))
theorem bs_yes {a b:ByteArray} (h:a=b):(a.toList==b.toList)=true:=by subst h;exact beq_self_eq_true _
theorem zip_two (T:Array Value) (k l:Nat) (v u:Value):(#[k,l].zip #[v,u]).foldl (fun t (x:Nat × Value)=>t.setIfInBounds x.1 x.2) T=(T.setIfInBounds k v).setIfInBounds l u:=by simp
theorem set5_same {w:World} {g:Nat} {T:TypeId} {a0 a1 a2 a3 a4:Value} (h:w.heap[g]?=some (.cells #[a0,a1,a2,a3,a4] T (0,0))) (v0 v1 v2 v3 v4:Value) :
  (((((w.setCell ⟨g,0,none⟩ v0).setCell ⟨g,1,none⟩ v1).setCell ⟨g,2,none⟩ v2).setCell ⟨g,3,none⟩ v3).setCell ⟨g,4,none⟩ v4).heap[g]?=some (.cells #[v0,v1,v2,v3,v4] T (0,0)):=by
 have h0:(w.setCell ⟨g,0,none⟩ v0).heap[g]?=some (.cells #[v0,a1,a2,a3,a4] T (0,0)):=heap_setCell_same _ g 0 _ T v0 h;have h1:((w.setCell ⟨g,0,none⟩ v0).setCell ⟨g,1,none⟩ v1).heap[g]?=some (.cells #[v0,v1,a2,a3,a4] T (0,0)):=heap_setCell_same _ g 1 _ T v1 h0;have h2:(((w.setCell ⟨g,0,none⟩ v0).setCell ⟨g,1,none⟩ v1).setCell ⟨g,2,none⟩ v2).heap[g]?=some (.cells #[v0,v1,v2,a3,a4] T (0,0)):=heap_setCell_same _ g 2 _ T v2 h1;have h3:((((w.setCell ⟨g,0,none⟩ v0).setCell ⟨g,1,none⟩ v1).setCell ⟨g,2,none⟩ v2).setCell ⟨g,3,none⟩ v3).heap[g]?=some (.cells #[v0,v1,v2,v3,a4] T (0,0)):=heap_setCell_same _ g 3 _ T v3 h2;exact heap_setCell_same _ g 4 _ T v4 h3
def lkV (x:V) (b:Int):V:=if sortOf x=b then x else .I 0
theorem VR.sort {w:World} {u:VU} (h:VR w u):u.k=sortOf u.x:=by
 unfold VR at h
 cases hx:u.x<;>rw[hx] at h<;>exact h.1
theorem fold_none {nm:ByteArray}:∀ (l:List (ByteArray × V)) (a:V),(∀ p ∈ l,p.1≠nm)->l.foldl (fun a p=>if p.1=nm then p.2 else a) a=a
 | [],_,_=>rfl
 | q::l,a,h=>by rw[List.foldl_cons,if_neg (h q (by simp))];exact fold_none l a (fun p hp=>h p (by simp[hp]))
theorem rho_none {env:List (ByteArray × V)} {nm:ByteArray} (h:∀ p ∈ env,p.1≠nm):rho env nm=.I 0:=fold_none env _ h
theorem rho_hit {env:List (ByteArray × V)} {nm:ByteArray} {k:Nat} (hk:k<env.length) (h1:env[k].1=nm) (h2:∀ p ∈ env.drop (k+1),p.1≠nm):rho env nm=env[k].2:=by
 have key:rho (env.take (k+1)++env.drop (k+1)) nm=rho (env.take (k+1)) nm:=by
  unfold rho;rw[List.foldl_append];exact fold_none _ _ h2
 rw[List.take_append_drop] at key;rw[key,rho_take env nm k hk,if_pos h1]
def LkI (w4:World) (nm:ByteArray) (pre:List YI) (W:World):Prop:=Below w4.heap.size w4 W/\∀ x ∈ pre,x.2.nm≠nm
theorem LkI.own (w4:World) (nm:ByteArray):OwnFrom w4.heap.size (LkI w4 nm):=by
 rintro pre W W' row ⟨h1,h2⟩ hg hr;exact⟨⟨hg.os.trans h1.os,hg.tape.trans h1.tape,hg.output.trans h1.output,Nat.le_trans h1.size hg.size,fun k hk=>(hg.block k (by have:=h1.size;omega) (fun e=>by have:=(hr k e.symm).1;omega)).trans (h1.block k hk)⟩,h2⟩
def LkX (w w4:World) (kr:Nat) (nm:ByteArray) (b:Int) (c:Code) (pre:List YI) (W:World):Prop:=
 ∃ pre' x,pre=pre'++[x]/\(∀ y ∈ pre',y.2.nm≠nm)/\x.2.nm=nm/\Below w.heap.size w W/\w4.heap.size<=W.heap.size /\
  ((c=.ret/\x.2.u.k=b/\W.heap[kr]?=some (.cells #[.int .i64 x.2.u.k,.bool (decide (x.2.u.n.z<0)),.slice x.2.u.n.o x.2.u.n.l x.2.u.n.c,.bool x.2.u.b,.slice x.2.u.lo x.2.u.ll x.2.u.lc] 41 (0,0))) \/
   (c=.exit 0/\x.2.u.k≠b/\W.heap[kr]?=some (.cells #[.int .i64 0,.bool false,.slice none 0 0,.bool false,.slice none 0 0] 41 (0,0))))
theorem LkX.own (w w4:World) (kr:Nat) (nm:ByteArray) (b:Int) (c:Code) (hw:w.heap.size<=w4.heap.size) (hkr:kr<w4.heap.size):OwnFrom w4.heap.size (LkX w w4 kr nm b c):=by
 rintro pre W W' row ⟨pre',x,h1,h2,h3,h4,h6,h5⟩ hg hr;have hkb:W'.heap[kr]?=W.heap[kr]?:=hg.block kr (by omega) (fun e=>by have:=(hr kr e.symm).1;omega);refine⟨pre',x,h1,h2,h3,⟨hg.os.trans h4.os,hg.tape.trans h4.tape,hg.output.trans h4.output,Nat.le_trans h4.size hg.size,fun k hk=>(hg.block k (by have:=h4.size;omega) (fun e=>by have:=(hr k e.symm).1;omega)).trans (h4.block k hk)⟩,Nat.le_trans h6 hg.size,?_⟩;rw[hkb];exact h5
theorem put_belowL {n₀:Nat} {W:World} {l:Nat} {o o':Obj} (hn:n₀<=l) (h:W.heap[l]?=some o):Below n₀ W (W.putObj l o'):=
 (Below.refl n₀ W).grown (grownBy_putObj' W l o') (by have:=lt_of_block h;omega) (fun k e=>by cases e;exact hn)
theorem ext_below {w W W':World} {g:Nat} (h:Below w.heap.size w W) (hg:W.grownBy W' (some g)) (hk:w.heap.size<=g):Below w.heap.size w W':=
 ⟨hg.os.trans h.os,hg.tape.trans h.tape,hg.output.trans h.output,Nat.le_trans h.size hg.size,fun k hk2=>(hg.block k (by have:=h.size;omega) (fun e=>by injection e with e;omega)).trans (h.block k hk2)⟩
theorem lookup_p (ve:Value) (env:List (ByteArray × V)) (nm:ByteArray) (b:Int) (w:World) (h:EL w ve env) :
  Calls Try.prog 77 #[ve,.string nm,.int .i64 b] w fun e w'=>∃ v,e=.returned v/\VC w' v (lkV (rho env nm) b)/\Below w.heap.size w w':=by
 obtain⟨us,hu,rfl⟩:=h;have hu0:=hu;obtain⟨ko,kc,rfl,-,-,-⟩:=bAt_cells hu0;obtain⟨N,hN⟩:∃ N,N=us.length:=⟨_,rfl⟩
 rw[<-hN];rw[<-hN] at hu;have HN:=Lib.hid hN;have HU:=Lib.hid hu;have HU0:=Lib.hid hu;clear hN hu hu0;have HW:=Lib.hid (Below.refl w.heap.size w);obtain⟨x1,kn,en,ekn,hbn,hkn,HBn⟩:=newV w #[.string nm] 9;replace HU:=Lib.hid (El.At.below HU.out hbn.out);replace HW:=Lib.hid (HW.out.trans (hbn.out.mono HW.out.size));have hkn:Hid (w.heap.size<=kn):=Lib.hid (by rw[<-ekn];exact Nat.le_refl _);obtain⟨x2,kb,eb,ekb,hbb,hkb,HBb⟩:=newV x1 #[.int .i64 b] 32;replace HBn:=kBV hbb.out HBn;replace HU:=Lib.hid (El.At.below HU.out hbb.out);replace HW:=Lib.hid (HW.out.trans (hbb.out.mono HW.out.size));obtain⟨x3,kr,er,ekr,hbr,hkr,HBr⟩:=newV x2 #[.int .i64 0,.bool false,.slice none 0 0,.bool false,.slice none 0 0] 41;replace HBn:=kBV hbr.out HBn;replace HBb:=kBV hbr.out HBb;replace HU:=Lib.hid (El.At.below HU.out hbr.out)
 replace HW:=Lib.hid (HW.out.trans (hbr.out.mono HW.out.size));have HRK:Hid (w.heap.size<=kr):=Lib.hid (by rw[<-ekr];exact Nat.le_trans (hbn.out.size) (hbb.out.size));obtain⟨x4,kt,et,ekt,hbt,hkt,HBt⟩:=newV x3 #[.slice ko N kc] 72;replace HBn:=kBV hbt.out HBn;replace HBb:=kBV hbt.out HBb;replace HBr:=kBV hbt.out HBr;replace HU:=Lib.hid (El.At.below HU.out hbt.out);replace HW:=Lib.hid (HW.out.trans (hbt.out.mono HW.out.size));have HSZ:Hid (kr<x4.heap.size/\kn<x4.heap.size/\kb<x4.heap.size):=Lib.hid ⟨lt_of_block HBr.out,lt_of_block HBn.out,lt_of_block HBb.out⟩;refine callsIn_wide.1 (callsIn_of_wp_marks (F:=Fence.wide) (n:=9) Try.func77 rfl trivial ?_ rfl)
 simp only[Try.ntmps77,List.size_toArray,lsc,lsn,Nat.reduceAdd,Nat.reduceSub,Array.replicate_succ,Array.replicate_zero,List.push_toArray,List.append_toArray,List.nil_append,List.cons_append];refine wpIn_wide.2 ?_;go_wp2_with (first | (refine (back_p ko N kc _).mono ?_;rintro e w' ⟨rfl,rfl⟩;rw[et,ekt]) | fail)
 refine (wpIn_wide (n:=9)).1 ?_
 refine wpIn_rangeFunc_ownH rfl (by decide) (gf:=91) (lb:=#[.pointer (some ⟨kt,0,none⟩)]) rfl trivial (enters_of Try.func91 (by kernel_rfl) rfl) (back_stops Fence.wide rfl (fun _=>trivial) rfl 8 kt _ us x4 HBt.out HU.out) (fun h k=>h.trans k) (fun W l o o' hl h hc _=>put_belowL hl h) (Below.refl _ _) (fun _=>rfl)
  (LkI x4 nm) (LkX w x4 kr nm b) (LkI.own _ _) (fun c=>LkX.own _ _ _ _ _ _ HW.out.size HSZ.out.1) ⟨Below.refl _ _,fun x h=>by cases h⟩
  (fun y a' W=>∃ kp,W.heap[kp]?=some (.cells #[.string y.2.nm,.int .i64 y.2.u.k,.bool (decide (y.2.u.n.z<0)),.slice y.2.u.n.o y.2.u.n.l y.2.u.n.c,.bool y.2.u.b,.slice y.2.u.lo y.2.u.ll y.2.u.lc] 59 (0,0))/\a'=⟨#[.slice ko N kc,.string nm,.int .i64 b,undef,.pointer (some ⟨kn,0,none⟩),.pointer (some ⟨kb,0,none⟩),.pointer (some ⟨kr,0,none⟩),undef,.pointer (some ⟨kp,0,none⟩),.slice ko N kc,.func (.func 91) #[] #[.pointer (some ⟨kt,0,none⟩)],.int .i64 (y.1:Nat),bV y.2,undef,undef,undef,undef,undef,undef,undef,undef,undef,undef,undef,undef],[]⟩) ?hax ?assign ?body ?done ?stop
 case hax =>
  rintro y a' _ W W' row ⟨kp,h1,h2⟩ hg hr;exact⟨kp,(hg.block kp (lt_of_block h1) (fun e=>by obtain⟨-,o,ho,hc⟩:=hr kp e.symm;rw[h1] at ho;injection ho with ho;subst ho;cases hc)).trans h1,h2⟩
 case assign =>
  rintro l pre y W K hI hK;have HK0:=Lib.hid hK;have HI0:=Lib.hid hI;clear hK hI;rw[show yI y=#[.int .i64 (y.1:Nat),bV y.2] from rfl,zip_two];simp only[bV,List.setIfInBounds_toArray,List.set_cons_succ,List.set_cons_zero]
  gi_wp2_with fail
  refine HK0.out _ _ ((KeepsOthers.alloc _ _).from _) (((Below.refl _ _).alloc (Nat.le_refl _) _).mono HI0.out.1.size) ((LkI.own _ _).alloc _ HI0.out) ⟨W.heap.size,made_at W _ _ rfl,?_⟩
  rfl
 case body =>
  rintro l pre y a' W hl - ⟨hI,hpre⟩ ⟨kp,hB,rfl⟩ hlen;obtain⟨i,y⟩:=y;simp only[bV];simp only at hB;have HI:=Lib.hid hI;have HPRE:=Lib.hid hpre;have HBp:=Lib.hid hB;have HBn2:=kBV hI HBn;have HBb2:=kBV hI HBb;have HBr2:=kBV hI HBr;clear hI hpre hB hlen;have c0:=cell_at (v:=.string y.nm) HBp.out 0 rfl;have fc0:=froz_at HBp.out 0;have c1:=cell_at (v:=.int .i64 y.u.k) HBp.out 1 rfl;have fc1:=froz_at HBp.out 1;have c2:=cell_at (v:=.bool (decide (y.u.n.z<0))) HBp.out 2 rfl;have fc2:=froz_at HBp.out 2;have c3:=cell_at (v:=.slice y.u.n.o y.u.n.l y.u.n.c) HBp.out 3 rfl;have fc3:=froz_at HBp.out 3;have c4:=cell_at (v:=.bool y.u.b) HBp.out 4 rfl;have fc4:=froz_at HBp.out 4;have c5:=cell_at (v:=.slice y.u.lo y.u.ll y.u.lc) HBp.out 5 rfl;have fc5:=froz_at HBp.out 5;have d0:=cell_at (v:=.string nm) HBn2.out 0 rfl
  have e0:=cell_at (v:=.int .i64 b) HBb2.out 0 rfl
  by_cases hnm:y.nm=nm
  ·have hne:(y.nm.toList==nm.toList)=true:=bs_yes hnm;have HNM:=Lib.hid hnm;clear hnm
   by_cases hkb:y.u.k=b
   ·have hkk:(y.u.k==b)=true:=by rw[hkb];exact beq_self_eq_true _
    have HKB:=Lib.hid hkb;clear hkb;have f0:=froz_at HBr2.out 0;have r0:=cell_at (v:=.int .i64 0) HBr2.out 0 rfl;have f1:=froz_at HBr2.out 1;have r1:=cell_at (v:=.bool false) HBr2.out 1 rfl;have f2:=froz_at HBr2.out 2;have r2:=cell_at (v:=.slice none 0 0) HBr2.out 2 rfl;have f3:=froz_at HBr2.out 3;have r3:=cell_at (v:=.bool false) HBr2.out 3 rfl;have f4:=froz_at HBr2.out 4;have r4:=cell_at (v:=.slice none 0 0) HBr2.out 4 rfl
    gi_wp2_with fail
    refine⟨KeepsFrom.of_grownBy (row:=some kr) (grown5V _ _ _ _ _) (fun j e=>by injection e with e;have:=HSZ.out.1;omega),pre,(i,y),rfl,HPRE.out,HNM.out,ext_below (HW.out.trans (HI.out.mono HW.out.size)) (grown5V _ _ _ _ _) HRK.out,Nat.le_trans HI.out.size (grown5V (k:=kr) _ _ _ _ _).size,.inl ⟨rfl,HKB.out,set5_same HBr2.out _ _ _ _ _⟩⟩
   have hkk:(y.u.k==b)=false:=by rw[beq_eq_false_iff_ne];exact hkb
   have HKB:=Lib.hid hkb;clear hkb
   gi_wp2_with fail
   exact⟨KeepsFrom.refl _ _,pre,(i,y),rfl,HPRE.out,HNM.out,HW.out.trans (HI.out.mono HW.out.size),HI.out.size,.inr ⟨rfl,HKB.out,HBr2.out⟩⟩
  have hne:(y.nm.toList==nm.toList)=false:=bs_no hnm;have HNM:=Lib.hid hnm;clear hnm
  gi_wp2_with fail
  refine⟨KeepsFrom.refl _ _,Below.refl _ _,HI.out,fun x hx=>?_⟩;rcases List.mem_append.1 hx with hx | hx
  ·exact HPRE.out x hx
  rw[List.mem_singleton] at hx;subst hx;exact HNM.out
 case done =>
  rintro D xs W hD hS ⟨hI,hx⟩ hDW
  have hno:rho (envOf us) nm=.I 0:=rho_none (fun p hp=>by
   obtain⟨q,hq,rfl⟩:=List.mem_map.1 hp;have:q ∈ us.reverse:=by simpa using hq
   rw[<-hS] at this;obtain⟨x,hx1,rfl⟩:=List.mem_map.1 this
   exact hx x hx1)
  have HNO:=Lib.hid hno;have HI:=Lib.hid hI;have HDW:=Lib.hid hDW;have HD:=Lib.hid hD;have HBr2:=kBV hI HBr;clear hno hI hDW hD hx hS;have f0:=froz_at HBr2.out 0;have r0:=cell_at (v:=.int .i64 0) HBr2.out 0 rfl;have f1:=froz_at HBr2.out 1;have r1:=cell_at (v:=.bool false) HBr2.out 1 rfl;have f2:=froz_at HBr2.out 2;have r2:=cell_at (v:=.slice none 0 0) HBr2.out 2 rfl;have f3:=froz_at HBr2.out 3;have r3:=cell_at (v:=.bool false) HBr2.out 3 rfl;have f4:=froz_at HBr2.out 4;have r4:=cell_at (v:=.slice none 0 0) HBr2.out 4 rfl;go_wp2_with fail
  have hg:W.grownBy (((((W.setCell ⟨kr,0,none⟩ (.int .i64 0)).setCell ⟨kr,1,none⟩ (.bool false)).setCell ⟨kr,2,none⟩ (.slice none 0 0)).setCell ⟨kr,3,none⟩ (.bool false)).setCell ⟨kr,4,none⟩ (.slice none 0 0)) (some kr):=grown5V _ _ _ _ _;have hs:=set5_same HBr2.out (.int .i64 0) (.bool false) (.slice none 0 0) (.bool false) (.slice none 0 0);obtain⟨W5,hW5⟩:∃ q,q=((((W.setCell ⟨kr,0,none⟩ (.int .i64 0)).setCell ⟨kr,1,none⟩ (.bool false)).setCell ⟨kr,2,none⟩ (.slice none 0 0)).setCell ⟨kr,3,none⟩ (.bool false)).setCell ⟨kr,4,none⟩ (.slice none 0 0):=⟨_,rfl⟩
  rw[<-hW5] at hg hs ⊢;have hD5:=(hg.block D (lt_of_block HDW.out) (fun e=>by injection e with e;have:=HSZ.out.1;have:=HD.out;omega)).trans HDW.out;refine⟨by simp,.inl ⟨_,_,rfl,run_takeDeferred hD5,?_⟩⟩;have hp:Below w.heap.size w (W5.putObj D (.deferred none)):=(ext_below (HW.out.trans (HI.out.mono HW.out.size)) hg HRK.out).trans (put_belowL (Nat.le_trans HW.out.size HD.out) hD5)
  have hs6:(W5.putObj D (.deferred none)).heap[kr]?=some (.cells #[.int .i64 0,.bool false,.slice none 0 0,.bool false,.slice none 0 0] 41 (0,0)):=by
   rw[World.putObj_heap_other (by have:=HSZ.out.1;have:=HD.out;omega)];exact hs
  obtain⟨⟨q0,q1,q2,q3,q4⟩,-⟩:=cells5V hs6;exact⟨.agg #[.int .i64 0,.bool false,.slice none 0 0,.bool false,.slice none 0 0],by simp[results,Try.results77,go_sem,q0,q1,q2,q3,q4],_,rfl,by rw[show lkV (rho (envOf us) nm) b=V.I 0 from by unfold lkV;rw[HNO.out];split<;>rfl];exact⟨v0,rfl,rfl,vr0 _⟩,(by first | exact hp | (rw[<-ekn];exact hp))⟩
 case stop =>
  rintro D c pre W hD ⟨m,hm,hmn⟩ ⟨pre',x,rfl,h2,h3,h4,h6,h5⟩ hDW
  obtain⟨k,hk,hxk,hlk⟩:∃ k,∃ (hk:k<us.length),x.2=us[k]/\∀ p ∈ us.drop (k+1),p.nm≠nm:=by
   rw[List.map_append] at hm
   have hml:m<us.length:=by
    have:=congrArg List.length hm
    simp at this;omega
   rw[drop_rev us m hml] at hm;have hsplit:=List.append_inj' hm rfl;refine⟨m,hml,by simpa using hsplit.2,fun p hp=>?_⟩;have hp2:p ∈ (us.drop (m+1)).reverse:=by simpa using hp
   rw[<-hsplit.1] at hp2;obtain⟨q,hq1,rfl⟩:=List.mem_map.1 hp2;exact h2 q hq1
  have hrho:rho (envOf us) nm=x.2.u.x:=by
   rw[rho_hit (k:=k) (by unfold envOf;simpa using hk) (by unfold envOf;simp only[List.getElem_map];rw[<-hxk];exact h3) (fun p hp=>by
    unfold envOf at hp;rw[<-List.map_drop] at hp;obtain⟨q,hq,rfl⟩:=List.mem_map.1 hp
    exact hlk q hq)]
   unfold envOf;simp only[List.getElem_map];rw[<-hxk]
  obtain⟨_,_,_,_,_,hcs⟩:=bAt_cells HU0.out;obtain⟨_,_,_,_,_,_,_,_,hvr⟩:=hcs k hk;rw[<-hxk] at hvr;have hsrt:=hvr.sort;have HVR:=Lib.hid hvr;have HNO:=Lib.hid hrho;have HI:=Lib.hid h4;have HDW:=Lib.hid hDW;have HD:=Lib.hid hD;have H6:=Lib.hid h6;clear hvr hrho h4 hDW hD h6 hcs hxk hlk hm hmn h2;rcases h5 with ⟨rfl,hkb,hbr⟩ | ⟨rfl,hkb,hbr⟩
  ·refine (wpIn_wide (n:=9)).2 ?_;go_wp2_with fail
   have hD5:=HDW.out;refine⟨by simp,.inl ⟨_,_,rfl,run_takeDeferred hD5,?_⟩⟩;have hp:Below w.heap.size w (W.putObj D (.deferred none)):=HI.out.trans (put_belowL (Nat.le_trans HW.out.size HD.out) hD5);have hs6:(W.putObj D (.deferred none)).heap[kr]?=_:=(World.putObj_heap_other (by have:=HSZ.out.1;have:=HD.out;omega)).trans hbr;obtain⟨⟨q0,q1,q2,q3,q4⟩,-⟩:=cells5V hs6;refine⟨vV x.2.u,by simp[results,Try.results77,go_sem,q0,q1,q2,q3,q4,vV],_,rfl,⟨x.2.u,rfl,?_,?_⟩,(by first | exact hp | (rw[<-ekn];exact hp))⟩
   ·rw[HNO.out];unfold lkV;rw[if_pos (by rw[<-hsrt];exact hkb)]
   exact HVR.out.below hp
  refine (wpIn_wide (n:=9)).2 ?_;have HBr2:=Lib.hid hbr;have hnb:sortOf x.2.u.x≠b:=by rw[<-hsrt];exact hkb
  have HNB:=Lib.hid hnb;clear hbr hkb hsrt hnb h3;have f0:=froz_at HBr2.out 0;have r0:=cell_at (v:=.int .i64 0) HBr2.out 0 rfl;have f1:=froz_at HBr2.out 1;have r1:=cell_at (v:=.bool false) HBr2.out 1 rfl;have f2:=froz_at HBr2.out 2;have r2:=cell_at (v:=.slice none 0 0) HBr2.out 2 rfl;have f3:=froz_at HBr2.out 3;have r3:=cell_at (v:=.bool false) HBr2.out 3 rfl;have f4:=froz_at HBr2.out 4;have r4:=cell_at (v:=.slice none 0 0) HBr2.out 4 rfl;go_wp2_with fail
  have hg:W.grownBy (((((W.setCell ⟨kr,0,none⟩ (.int .i64 0)).setCell ⟨kr,1,none⟩ (.bool false)).setCell ⟨kr,2,none⟩ (.slice none 0 0)).setCell ⟨kr,3,none⟩ (.bool false)).setCell ⟨kr,4,none⟩ (.slice none 0 0)) (some kr):=grown5V _ _ _ _ _;have hs:=set5_same HBr2.out (.int .i64 0) (.bool false) (.slice none 0 0) (.bool false) (.slice none 0 0);obtain⟨W5,hW5⟩:∃ q,q=((((W.setCell ⟨kr,0,none⟩ (.int .i64 0)).setCell ⟨kr,1,none⟩ (.bool false)).setCell ⟨kr,2,none⟩ (.slice none 0 0)).setCell ⟨kr,3,none⟩ (.bool false)).setCell ⟨kr,4,none⟩ (.slice none 0 0):=⟨_,rfl⟩
  rw[<-hW5] at hg hs ⊢;have hD5:=(hg.block D (lt_of_block HDW.out) (fun e=>by injection e with e;have:=HSZ.out.1;have:=HD.out;omega)).trans HDW.out;refine⟨by simp,.inl ⟨_,_,rfl,run_takeDeferred hD5,?_⟩⟩;have hp:Below w.heap.size w (W5.putObj D (.deferred none)):=(ext_below (HI.out) hg HRK.out).trans (put_belowL (Nat.le_trans HW.out.size HD.out) hD5)
  have hs6:(W5.putObj D (.deferred none)).heap[kr]?=some (.cells #[.int .i64 0,.bool false,.slice none 0 0,.bool false,.slice none 0 0] 41 (0,0)):=by
   rw[World.putObj_heap_other (by have:=HSZ.out.1;have:=HD.out;omega)];exact hs
  obtain⟨⟨q0,q1,q2,q3,q4⟩,-⟩:=cells5V hs6;exact⟨.agg #[.int .i64 0,.bool false,.slice none 0 0,.bool false,.slice none 0 0],by simp[results,Try.results77,go_sem,q0,q1,q2,q3,q4],_,rfl,by rw[show lkV (rho (envOf us) nm) b=V.I 0 from by unfold lkV;rw[HNO.out,if_neg HNB.out]];exact⟨v0,rfl,rfl,vr0 _⟩,(by first | exact hp | (rw[<-ekn];exact hp))⟩
end Go.Proofs.Ytdkfnbbebpbhaaa
namespace Go.Proofs.Ytdkfnbbebpbhaaa
open Go.RowKit
set_option maxRecDepth 100000
set_option linter.unusedVariables false
set_option linter.unusedSimpArgs false
def NumC (d:Nat):Prop:=∀ (ve v:Value) (env:List (ByteArray × V)) (t:F) (S:Nat->Prop) (w:World),FC w S d v t->EL w ve env->rt t=true->srt t.op=0->Sm (rho env) t ->
 Calls Try.prog 62 #[ve,v] w fun e w'=>∃ x,e=.returned x/\CI w' x (asI (ev (rho env) t)) 600/\Below w.heap.size w w'
def LstC (d:Nat):Prop:=∀ (ve v:Value) (env:List (ByteArray × V)) (t:F) (S:Nat->Prop) (w:World),FC w S d v t->EL w ve env->rt t=true->srt t.op=2->Sm (rho env) t ->
 Calls Try.prog 61 #[ve,v] w fun e w'=>∃ x,e=.returned x/\NL w' x (asL (ev (rho env) t))/\Below w.heap.size w w'
def TruC (d:Nat):Prop:=∀ (ve v:Value) (env:List (ByteArray × V)) (t:F) (S:Nat->Prop) (w:World),FC w S d v t->EL w ve env->rt t=true->srt t.op=1->Sm (rho env) t ->
 Calls Try.prog 60 #[ve,v] w fun e w'=>e=.returned (.bool (asB (ev (rho env) t)))/\Below w.heap.size w w'
def ValC (d:Nat):Prop:=∀ (ve v:Value) (env:List (ByteArray × V)) (t:F) (S:Nat->Prop) (w:World),FC w S d v t->EL w ve env->rt t=true->Sm (rho env) t ->
 Calls Try.prog 39 #[ve,v] w fun e w'=>∃ x,e=.returned x/\VC w' x (ev (rho env) t)/\Below w.heap.size w w'
theorem fieldV0 (k:Int) (b:Bool) (o:Option Addr) (l c:Nat) (d:Bool) (p:Option Addr) (m q:Nat) (w:World) :
  (Instr.field 41 (.agg #[.int .i64 k,.bool b,.slice o l c,.bool d,.slice p m q]) 0).run Try.prog w=.ok (.int .i64 k) w:=by
 unfold Instr.field;simp[go_sem,asAgg]
theorem fieldV1 (k:Int) (b:Bool) (o:Option Addr) (l c:Nat) (d:Bool) (p:Option Addr) (m q:Nat) (w:World) :
  (Instr.field 41 (.agg #[.int .i64 k,.bool b,.slice o l c,.bool d,.slice p m q]) 1).run Try.prog w=.ok (.agg #[.bool b,.slice o l c]) w:=by
 unfold Instr.field;simp[go_sem,asAgg]
theorem fieldV2 (k:Int) (b:Bool) (o:Option Addr) (l c:Nat) (d:Bool) (p:Option Addr) (m q:Nat) (w:World) :
  (Instr.field 41 (.agg #[.int .i64 k,.bool b,.slice o l c,.bool d,.slice p m q]) 2).run Try.prog w=.ok (.bool d) w:=by
 unfold Instr.field;simp[go_sem,asAgg]
theorem fieldV3 (k:Int) (b:Bool) (o:Option Addr) (l c:Nat) (d:Bool) (p:Option Addr) (m q:Nat) (w:World) :
  (Instr.field 41 (.agg #[.int .i64 k,.bool b,.slice o l c,.bool d,.slice p m q]) 3).run Try.prog w=.ok (.slice p m q) w:=by
 unfold Instr.field;simp[go_sem,asAgg]
theorem CI.tight {w:World} {v:Value} {z:Int} {k:Nat} (h:CI w v z k) (hz:z.natAbs<L32 ^ 600):CI w v z 600:=by
 obtain⟨va,h1,h2,_⟩:=h;exact⟨va,h1,h2,hz⟩
theorem EL.shape {w:World} {v:Value} {env:List (ByteArray × V)} (h:EL w v env):∃ eo en ec,v=.slice eo en ec:=by
 obtain⟨us,⟨ko,kc,rfl,-⟩,-⟩:=h;exact⟨_,_,_,rfl⟩
theorem lk0 (x:V):lkV x 0=.I (asI x):=by cases x<;>rfl
theorem VC.lk1 {w:World} {v:Value} {x:V} (h:VC w v (lkV x 1)):∃ k b o l c p m q,v=.agg #[.int .i64 k,.bool b,.slice o l c,.bool (asB x),.slice p m q]:=by
 cases x with
 | I z=>obtain⟨o,l,c,rfl,-⟩:=VC.int (z:=0) h;exact⟨_,_,_,_,_,_,_,_,rfl⟩
 | B b=>have:=VC.bool (b:=b) h;subst this;exact⟨_,_,_,_,_,_,_,_,rfl⟩
 | L l=>obtain⟨o,l',c,rfl,-⟩:=VC.int (z:=0) h;exact⟨_,_,_,_,_,_,_,_,rfl⟩
theorem NL.nil (w:World):NL w (.slice none 0 0) []:=⟨[],El.At.nil w,rfl⟩
theorem VC.lk2 {w:World} {v:Value} {x:V} (h:VC w v (lkV x 2)):∃ k b o l c d p m q,v=.agg #[.int .i64 k,.bool b,.slice o l c,.bool d,.slice p m q]/\NL w (.slice p m q) (asL x):=by
 cases x with
 | I z=>obtain⟨o,l,c,rfl,-⟩:=VC.int (z:=0) h;exact⟨_,_,_,_,_,_,_,_,_,rfl,NL.nil w⟩
 | B b=>obtain⟨o,l,c,rfl,-⟩:=VC.int (z:=0) h;exact⟨_,_,_,_,_,_,_,_,_,rfl,NL.nil w⟩
 | L l=>obtain⟨o,l',c,rfl,hn⟩:=VC.list (zs:=l) h;exact⟨_,_,_,_,_,_,_,_,_,rfl,hn⟩
theorem rt_node {o z:Int} {nm:ByteArray} {ks:List F} (h:rt (.node o z nm ks)=true):fitF o z (srts ks)=true/\∀ f ∈ ks,rt f=true:=by
 rw[rt,Bool.and_eq_true,rts_all,List.all_eq_true] at h;exact h
theorem srts_one {ks:List F} {s:Int} (h:srts ks=[s]):∃ p,ks=[p]/\srt p.op=s:=by
 unfold srts at h
 match ks,h with
 | [p],h=>exact⟨p,rfl,by simpa using h⟩
 | [],h=>simp at h
 | _::_::_,h=>simp at h
theorem srts_two {ks:List F} {s r:Int} (h:srts ks=[s,r]):∃ p q,ks=[p,q]/\srt p.op=s/\srt q.op=r:=by
 unfold srts at h
 match ks,h with
 | [p,q],h=>exact⟨p,q,rfl,by simpa using h⟩
 | [],h=>simp at h
 | [_],h=>simp at h
 | _::_::_::_,h=>simp at h
theorem fit_range {o z:Int} {ss:List Int} (h:fitF o z ss=true):0<=o/\o<=20:=by
 rcases ops21 o with h1 | h1
 ·omega
 exfalso
 unfold fitF kidsOk at h;rw[if_neg (by omega),if_neg (by omega),if_neg (by omega),if_neg (by omega),if_neg (by omega),if_neg (by omega),if_neg (by omega),if_neg (by omega),if_neg (by omega)] at h
 simp at h
def At5 (w:World) (p:Addr) (o:Int) (b:Bool) (ao:Option Addr) (l c:Nat) (nm:ByteArray) (ko:Option Addr) (kl kc:Nat):Prop:=
 w.cell? p=some (.int .i64 o)/\w.cell? ⟨p.block,p.off+1,none⟩=some (.bool b)/\w.cell? ⟨p.block,p.off+2,none⟩=some (.slice ao l c)/\w.cell? ⟨p.block,p.off+3,none⟩=some (.string nm)/\w.cell? ⟨p.block,p.off+4,none⟩=some (.slice ko kl kc)
theorem At5.below {w w':World} {p:Addr} {o:Int} {b:Bool} {ao:Option Addr} {l c:Nat} {nm:ByteArray} {ko:Option Addr} {kl kc:Nat} (h:At5 w p o b ao l c nm ko kl kc) (hb:Below w.heap.size w w'):At5 w' p o b ao l c nm ko kl kc:=by
 obtain⟨h0,h1,h2,h3,h4⟩:=h;have key:∀ q v,w.cell? q=some v->w'.cell? q=some v:=fun q v h=>by rw[hb.cell (World.block_lt_of_cell? w _ h)];exact h
 exact⟨key _ _ h0,key _ _ h1,key _ _ h2,key _ _ h3,key _ _ h4⟩
theorem FL.first {w:World} {S:Nat->Prop} {d:Nat} {ko:Option Addr} {n kc:Nat} {p:F} {l:List F} (h:FL w S d (.slice ko n kc) (p::l)):∃ (a:Addr) (b:Bool) (o:Option Addr) (l c:Nat) (po:Option Addr) (pl pc:Nat),ko=some a /\
  (w.cell? a=some (.int .i64 p.op)/\w.cell? ⟨a.block,a.off+1,none⟩=some (.bool b)/\w.cell? ⟨a.block,a.off+2,none⟩=some (.slice o l c) /\
   w.cell? ⟨a.block,a.off+3,none⟩=some (.string p.name)/\w.cell? ⟨a.block,a.off+4,none⟩=some (.slice po pl pc)) /\
  FC w S d (.agg #[.int .i64 p.op,.bool b,.slice o l c,.string p.name,.slice po pl pc]) p:=by
 have:=h.cells 0 (by simp)
 simpa [Addr.add] using this
theorem FL.second {w:World} {S:Nat->Prop} {d:Nat} {ko:Option Addr} {n kc:Nat} {p q:F} {l:List F} (h:FL w S d (.slice ko n kc) (p::q::l)):∃ (a:Addr) (b:Bool) (o:Option Addr) (l c:Nat) (po:Option Addr) (pl pc:Nat),ko=some a /\
  (w.cell? ⟨a.block,a.off+5,none⟩=some (.int .i64 q.op)/\w.cell? ⟨a.block,a.off+5+1,none⟩=some (.bool b)/\w.cell? ⟨a.block,a.off+5+2,none⟩=some (.slice o l c) /\
   w.cell? ⟨a.block,a.off+5+3,none⟩=some (.string q.name)/\w.cell? ⟨a.block,a.off+5+4,none⟩=some (.slice po pl pc)) /\
  FC w S d (.agg #[.int .i64 q.op,.bool b,.slice o l c,.string q.name,.slice po pl pc]) q:=by
 have:=h.cells 1 (by simp)
 simpa [Addr.add] using this
end Go.Proofs.Ytdkfnbbebpbhaaa
