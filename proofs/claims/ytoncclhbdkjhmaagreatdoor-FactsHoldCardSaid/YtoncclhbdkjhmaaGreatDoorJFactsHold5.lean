/-
 Joined texts: FaTd,FaP,FaM,FaA,LgX,LgY,LgZ,LgZa.
-/
import Derived.Maps.OwnSet
import Derived.Laws.IdiomStrings
import Derived.Test.YtoncclhbdkjhmaaGreatDoorJFactsHold3
import Derived.Test.YtoncclhbdkjhmaaGreatDoorJFactsHold4
set_option maxHeartbeats 32000000
open Bool renaming and_eq_true→cV
open Go renaming lt_of_block→ae,World→ag,Value→aq,heap_setCell_same→aC,bodyPost_ret→aD,TypeId→bn,maxLen→bI,Addr→cB
open Go.Exit renaming inBlock→aK,«then»→aT
open Go.Instr renaming index→qC
open Go.Lib renaming hid→aa
open Go.Proofs.Tryz renaming prog→aj,results13→bf
open Go.RowKit renaming Below→aA
open Go.RowKit.Below renaming refl→ax
open Go.Value renaming ownBlock→eZ
open Go.World.grownBy renaming refl→aI
open Int renaming ofNat_tmod→sQ,tmod_eq_emod_of_nonneg→DE
open List renaming not_mem_nil→aU,length_take→aX,mem_singleton→aZ,append_assoc→bg,mem_cons→bz
open Nat renaming le_trans→ah,le_refl→ai,zero_le→au,not_lt_zero→ay,lt_of_lt_of_le→az,mod_lt→dZ
namespace Go.Proofs.YtoncclhbdkjhmaaGreatDoor
open Go.RowKit
set_option maxRecDepth 100000
set_option linter.unusedVariables false
set_option linter.unusedSimpArgs false
theorem MR:uy:=by
 intro nm h w ht;refine (Tryz.yJ Lib.goPrintTabs nm w ?_ ht.WA ht.Wo).mono ?_
 ·have:=h.sz;have e:nm.size=nm.data.toList.length:=by rw[Array.length_toList];rfl
  rw[e];omega
 rintro e w' ⟨rfl,hb⟩;exact⟨by rw[MQ _ nm h.pl],hb⟩
theorem Mw (d:Nat) (v:aq) (t:F) (S:Nat->Prop) (w:ag) (h:FC w S d v t) (qg:rt t=true) (BP:Tg d t) (htl:(mz t).length<=900000) (ht:AA w) :
  Calls aj 19 #[v] w fun e w'=>e=.returned (.string ⟨(mz t).toArray⟩)/\aA w.heap.size w w':=by
 have HF:=aa (h.mono (S':=tS) (fun _ _=>trivial));obtain⟨b,ao,l,c,ko,kl,kc,rfl,-,-,-⟩:=h.open;obtain⟨o,IU⟩:∃ o,o=t.op:=⟨_,rfl⟩;obtain⟨nm,hnm⟩:∃ o,o=t.name:=⟨_,rfl⟩;rw[<-IU,<-hnm] at HF ⊢;have I5:=aa qg;have RL:=aa BP;have HT:=aa ht;have Ff:Hid (([]:Bs).length+(mz t).length<=1000000):=aa (by simp only[uA];omega);clear h qg BP ht htl IU hnm;have HW:=aa (ax w.heap.size w);go_enter Tryz.func19,Tryz.ntmps19;obtain⟨x1,kf,ef,jK,bL,jc,aE⟩:=aM w #[.int .i64 o,.bool b,.slice ao l c,.string nm,.slice ko kl kc] 29;replace HW:=aa (HW.out.trans (bL.out.mono HW.out.size));obtain⟨x2,ku,eu,XW,RF,ZF,Mj⟩:=aM x1 #[.pointer none,.slice none 0 0] 109;replace aE:=aS RF.out aE
 replace HW:=aa (HW.out.trans (RF.out.mono HW.out.size));have YB:Hid (w.heap.size<=ku):=aa (ah bL.out.size ZF.out);have gb:Hid (uE ku ku [] x2):=aa (by rw[<-eu,<-XW];exact uE.fresh x1);have cr:Hid (ku<=x2.heap.size):=aa (Nat.le_of_lt (ae Mj.out));obtain⟨⟨c0,c1,c2,c3,c4⟩,cA,cG,cF,cE,cC⟩:=ak aE.out;go_wp2_with fail;refine (yx MR d w x2 _ t ku ku [] HF.out HT.out I5.out RL.out YB.out HW.out gb.out cr.out Ff.out).mono ?_;rintro e x3 ⟨⟨v,rfl⟩,dw,hb,-⟩;clear c0 cA c1 cG c2 cF c3 cE c4 cC;rw[List.nil_append] at dw;have YO:=aa dw;have Ya:=aa (HW.out.trans (hb.mono YB.out));clear dw hb;go_wp2_with fail;refine (IA ku ku (mz t) x3 YO.out (R8 I5.out)).mono ?_;rintro e x4 ⟨rfl,hb⟩
 have HW4:=aa (Ya.out.trans (hb.mono YB.out));clear hb;go_wp2_with fail;go_ret;exact⟨rfl,HW4.out⟩
end Go.Proofs.YtoncclhbdkjhmaaGreatDoor

namespace Go.Proofs.YtoncclhbdkjhmaaGreatDoor
open Go.RowKit Go.Maps Go.MapKept Go.ChangeMaps Go.WideShapes Go.WideMaps
open Go.WideElems (Fit rd rg pl rd_val rd_key rg_of elemAt)
set_option maxRecDepth 100000
set_option linter.unusedVariables false
def JE (v:aq):Option (DataW aq × List MemPlace):=some (.held v,[])
def O3 (s:Bs):aq:=.string ⟨s.toArray⟩
def kP (P:Program) (k:bn) (w:ag) (b:Nat) (m:Bs->Option aq):Prop:=
 ∃ n D,w.ownsMap P k JE b n D/\∀ s:Bs,s.length<=bI->(m s=none->has D (.string s)=false)/\∀ v,m s=some v->has D (.string s)=true/\∀ z,D.atKey (.string s) z=.held v
def On (m:Bs->Option aq) (n:Nat):Prop:=∃ L:List Bs,L.length<=n/\∀ x,(m x).isSome->x ∈ L
section
variable {P:Program} {k:bn} {w:ag} {b:Nat} {m:Bs->Option aq}
theorem Kj (hk:P.underlying k=some .string) {s:Bs} (hs:s.length<=bI):keyOf P k (O3 s)=some (.string s):=by
 unfold O3;rw[keyOf_string_mk hk (show (⟨s.toArray⟩:ByteArray).size<=bI from hs)]
theorem zg (s:Bs):WideAt.IsKeyLit (.string s):=trivial
theorem D5 {s t:Bs} (h:t≠s):(Lit.string t)≠(Lit.string s):=fun e=>h (by injection e)
theorem kP.keep {w':ag} (h:kP P k w b m) (hb:w'.heap[b]?=w.heap[b]?):kP P k w' b m:=by
 obtain⟨n,D,⟨es,clock,h1,h2⟩,h3⟩:=h;exact⟨n,D,⟨es,clock,hb.trans h1,h2⟩,h3⟩
theorem kP.lt (h:kP P k w b m):b<w.heap.size:=by obtain⟨n,D,h1,-⟩:=h;exact h1.lt
theorem kP.made (w:ag) (P:Program) (k:bn):kP P k (w.alloc (.map #[] 0)) w.heap.size (fun _=>none):=
 ⟨0,_,World.ownsMap_made w P k JE,fun s hs=>⟨fun _=>rfl,fun v h=>by cases h⟩⟩
theorem kP.look_ok {t e:bn} (h:kP P k w b m) (hk:P.underlying k=some .string) (ht:P.underlying t=some (.map k e)) {z:aq} (hz:(zeroValue e).run P w=.ok z w) {s:Bs} (hs:s.length<=bI) :
  (Instr.lookup t (.map (some b)) (O3 s) true).run P w=.ok (.tuple #[(m s).getD z,.bool (m s).isSome]) w:=by
 obtain⟨n,D,h1,h3⟩:=h;obtain⟨v,ps,hr,hv⟩:=h1.look_ok (string_keyed hk) ht hz (zd:=.held z) (zp:=[]) rfl (Kj hk hs);rw[hr];obtain⟨q1,q2⟩:=h3 s hs;unfold JE at hv;simp only[Option.some.injEq,Prod.mk.injEq] at hv;cases hm:m s with
 | none =>
  rw[q1 hm];have e1:=atKey_of_not_has (q1 hm) (.held z);rw[e1] at hv;obtain⟨hv,-⟩:=hv;injection hv with hv;rw[hv];rfl
 | some u =>
  obtain⟨a1,a2⟩:=q2 u hm;rw[a1];rw[a2] at hv;obtain⟨hv,-⟩:=hv;injection hv with hv;rw[hv];rfl
theorem AQ:∀ {A B:List Bs},A.Pairwise (· ≠ ·)->(∀ x ∈ A,x ∈ B)->A.length<=B.length
 | [],B,_,_=>au _
 | a::A,B,hp,hs=>by
  obtain⟨h1,h2⟩:=List.pairwise_cons.1 hp;have hB:a ∈ B:=hs a (by simp);have:=AQ (A:=A) (B:=B.erase a) h2 fun x hx=>(List.mem_erase_of_ne (fun e=>h1 x hx e.symm)).2 (hs x (by simp[hx]))
  rw[List.length_erase_of_mem hB] at this;have hpos:0<B.length:=List.length_pos_of_mem hB;simp only[mS];omega
theorem J_ {es:Array MapEntry} {clock n:Nat} {D:DataW aq} (hk:P.underlying k=some .string) (F:Fit P k JE es clock) (hD:D=.map ((es.toList.map (rg P k JE)).foldr DataW.insert [])) (hm:∀ s:Bs,s.length<=bI->(m s=none->has D (.string s)=false))
  (hd:On m n):es.size<=n:=by
 obtain⟨L,hL,hx⟩:=hd;have hkey:∀ x ∈ es.toList,∃ s:Bs,s.length<=bI/\x.key=O3 s/\(rg P k JE x).1=.string s:=by
  intro x hx;obtain⟨y,hy⟩:=F.reads x hx;have h1:=rd_key hy;rw[keyOf_string hk] at h1;rw[rg_of hy];cases hv:x.key<;>simp[mapKey,hk,hv] at h1
  rename_i s;refine⟨s.data.toList,h1.1,?_,h1.2.symm⟩;unfold O3;rfl
 have hin:∀ x ∈ es.toList,∀ s,(rg P k JE x).1=.string s->s.length<=bI->s ∈ L:=by
  intro x hxe s hs hl;refine hx s ?_;cases W8:m s with
  | some v=>rfl
  | none =>
   have h0:=hm s hl W8;rw[hD,has_eq] at h0;have hmem:rg P k JE x ∈ (es.toList.map (rg P k JE)).foldr DataW.insert []:=(WideShapes.sorted_perm _).mem_iff.2 (List.mem_map_of_mem hxe);have:=List.any_eq_false.1 h0 _ hmem;rw[hs,WideAt.sameKey_self (zg s)] at this;exact absurd rfl this
 have hp:=Maps.fit_apart (string_keyed hk) F;let g:MapEntry->Bs:=fun x=>match (rg P k JE x).1 with | .string s=>s | _=>[]
 have h1:(es.toList.map g).Pairwise (· ≠ ·):=by
  rw[List.pairwise_map] at hp ⊢;refine List.Pairwise.imp_of_mem ?_ hp;intro a c ha hc hne e;obtain⟨s,-,-,hs⟩:=hkey a ha;obtain⟨t,-,-,ht⟩:=hkey c hc;simp only[g,hs,ht] at e;exact hne (by rw[hs,ht,e])
 have h2:∀ x ∈ es.toList.map g,x ∈ L:=by
  intro x Nn;obtain⟨y,hy,rfl⟩:=List.mem_map.1 Nn;obtain⟨s,hl,-,hs⟩:=hkey y hy;simp only[g,hs];exact hin y hy s hs hl
 have:=AQ h1 h2;simp only[List.length_map,Array.length_toList] at this;omega
theorem kP.update {t e:bn} (h:kP P k w b m) (hk:P.underlying k=some .string) (ht:P.underlying t=some (.map k e)) {n:Nat} (hd:On m n) (hn:n<bI) {s:Bs} (hs:s.length<=bI) (v:aq) :
  ∃ w',(Instr.mapUpdate t (.map (some b)) (O3 s) v).run P w=.ok () w'/\kP P k w' b (fun x=>if x=s then some v else m x)/\w.grownBy w' (some b):=by
 obtain⟨n',D,⟨es,clock,hb,F,hsz,hD⟩,h3⟩:=h;have hle:=J_ hk F hD (fun s hs=>(h3 s hs).1) hd;have ho:w.ownsMap P k JE b n D:=⟨es,clock,hb,F,hle,hD⟩;obtain⟨w',h1,h2,h4⟩:=ho.update (string_keyed hk) ht hn (Kj hk hs) (d:=.held v) (ps:=[]) rfl;refine⟨w',h1,⟨_,_,h2,fun x hx=>?_⟩,h4⟩;dsimp only;by_cases hxs:x=s
 ·subst hxs;rw[if_pos rfl];refine⟨fun h=>(by cases h),fun u hu=>?_⟩;injection hu with hu;subst hu;exact⟨has_put_same ho.isMap (zg _) _,fun z=>atKey_put_same ho.isMap (zg _) _ z⟩
 rw[if_neg hxs];obtain⟨q1,q2⟩:=h3 x hx;refine⟨fun h=>by rw[has_put_other (D5 hxs)];exact q1 h,fun u hu=>?_⟩;rw[has_put_other (D5 hxs)];exact⟨(q2 u hu).1,fun z=>by rw[atKey_put_other (D5 hxs)];exact (q2 u hu).2 z⟩
end
section
variable {P:Program} (w:ag) {ops:Array Oper} {rest:List Oper} {o:Oper} {a:Act} {Q:Exit->Act->ag->Prop}
theorem yy (hg:o.guard=none) (m x:Operand) (t:bn) (hop:o.op=Op.lookup t m x true) (k e:bn) (hk:P.underlying k=some .string) (ht:P.underlying t=some (.map k e)) {z:aq} (hz:(zeroValue e).run P w=.ok z w) (b:Nat) (M:Bs->Option aq)
  (hm:a.eval m=.map (some b)) (h:kP P k w b M) (s:Bs) (hx:a.eval x=.string ⟨s.toArray⟩) (hs:s.length<=bI)
  (hK:wpList P ops Q rest (a.put o.dst (.tuple #[(M s).getD z,.bool (M s).isSome])) w):wpList P ops Q (o::rest) a w:=by
 refine wpList_plain hg fun K' XH=>?_
 have hrun:=h.look_ok hk ht hz hs;unfold O3 at hrun;unfold Oper.wp;simp[execOp,hop,hm,hx,hrun,Result.andThen];exact XH _ _ hK
theorem Gw (hg:o.guard=none) (m x v:Operand) (t:bn) (hop:o.op=Op.mapUpdate t m x v) (k e:bn) (hk:P.underlying k=some .string) (ht:P.underlying t=some (.map k e)) (b:Nat) (M:Bs->Option aq)
  (hm:a.eval m=.map (some b)) (h:kP P k w b M) {n:Nat} (hd:On M n) (hn:n<bI) (s:Bs) (hx:a.eval x=.string ⟨s.toArray⟩) (hs:s.length<=bI) (u:aq) (hv:a.eval v=u)
  (hK:∀ w',kP P k w' b (fun x=>if x=s then some u else M x)->w.grownBy w' (some b)->wpList P ops Q rest (a.put o.dst undef) w'):wpList P ops Q (o::rest) a w:=by
 refine wpList_plain hg fun K' XH=>?_
 obtain⟨w',hrun,r1,r2⟩:=h.update hk ht hd hn hs u;unfold O3 at hrun;unfold Oper.wp;simp[execOp,hop,hm,hx,hv,hrun,Result.andThen];exact XH _ _ (hK w' r1 r2)
end
end Go.Proofs.YtoncclhbdkjhmaaGreatDoor
namespace Go.Proofs.YtoncclhbdkjhmaaGreatDoor
open Go.RowKit
set_option maxRecDepth 100000
set_option linter.unusedVariables false
set_option linter.unusedSimpArgs false
def fo (o:Int) (ks:List F):F:=.node o 0 ⟨#[]⟩ ks
def nF (n:Int):F:=.node 0 n ⟨#[]⟩ []
def kd (x:F) (i:Nat):F:=x.kids.getD i (nF 0)
def cY (x:F):F:=fo 6 [x]
def xZ (x:F):F:=fo 7 [x]
def Mu (x:F):F:=fo 11 [x]
def qp (a b:F):F:=fo 10 [a,b]
def lS:F:=fo 9 []
def dV (a b:F):F:=fo 15 [a,b]
def b_ (a b:F):F:=fo 16 [a,b]
def bW (a:F):F:=fo 17 [a]
def gB (l:List F):F:=fo 19 l
def gE (a b:F):F:=fo 2 [a,b]
def Aa (k:Int) (x:F):F:=.node 3 k ⟨#[]⟩ [x]
def fO (x:F):List F:=
 dV (nF 0) (cY x)::(if x.op=9 then [b_ (cY x) (nF 0)] else if x.op=10 then [b_ (cY x) (gE (cY (kd x 1)) (nF 1))] else [])
def kN (x:F):F:=gB [bW (dV (cY x) (nF 0)),b_ x lS]
def gC (l:F):F:=dV (nF 1) (cY l)
def mY (x l:F):List F:=
 [gB [bW (gC l),b_ (cY l) (gE (cY x) (nF 1))],gB [gC l,b_ x lS],gB [bW (gC l),b_ l (qp (xZ l) x)]]
def nZ (x a b:F):List F:=
 [gB [bW (dV (nF 0) a),bW (dV (nF 0) b),dV (nF 0) x],gB [bW (dV a (nF 0)),bW (dV b (nF 0)),dV (nF 0) x],
  gB [bW (dV (nF 0) a),bW (dV b (nF 0)),dV x (nF 0)],gB [bW (dV a (nF 0)),bW (dV (nF 0) b),dV x (nF 0)],
  gB [bW (b_ a (nF 1)),b_ x b],gB [bW (b_ b (nF 1)),b_ x a]]
def cZ (x:F):List F:=
 if x.op=8 then fO x++[kN x]
 else if x.op=9 then fO x
 else if x.op=10 then fO x++[b_ (xZ x) (kd x 0),b_ (Mu x) (kd x 1)]
 else if x.op=11 then fO x++([kN x]++mY x (kd x 0))
 else if x.op=7 then [gB [gC (kd x 0),b_ x (nF 0)]]
 else if x.op=5 then [dV (Aa x.num x) (kd x 0),dV (kd x 0) (gE (Aa x.num x) (nF (x.num - 1)))]
 else if x.op=4 then nZ x (kd x 0) (kd x 1)
 else []
open Classical in
mutual
noncomputable def rD (s:List F):F->List F
 | .node o z nm ks=>if F.node o z nm ks ∈ s then s else hO (s++[.node o z nm ks]) ks
noncomputable def hO (s:List F):List F->List F
 | []=>s
 | k::l=>hO (rD s k) l
end
def nb (t:F):Bool:=decide (eI t.op≠1)
noncomputable def JR (x:F):List F:=
 let s1:=rD [] x
 let a1:=(s1.filter nb).flatMap cZ
 let s2:=hO s1 a1
 a1++((s2.drop s1.length).filter (fun t=>decide (eI t.op=2))).flatMap fO
mutual
def kK (P:F->Prop):F->Prop
 | .node o z nm ks=>P (.node o z nm ks)/\gH P ks
def gH (P:F->Prop):List F->Prop
 | []=>True
 | k::l=>kK P k/\gH P l
end
theorem kK.self {P:F->Prop}:∀ {t:F},kK P t->P t
 | .node o z nm ks,h=>by rw[kK] at h;exact h.1
theorem gH.of {P:F->Prop}:∀ {l:List F},(∀ t ∈ l,kK P t)->gH P l
 | [],_=>by rw[gH];trivial
 | k::l,h=>by rw[gH];exact⟨h k (by simp),gH.of fun t ht=>h t (by simp[ht])⟩
mutual
theorem Bo {P:F->Prop}:∀ (t:F) (s:List F),(∀ x ∈ s,P x)->kK P t->(∀ x ∈ rD s t,P x)/\∃ m,rD s t=s++m
 | .node o z nm ks,s,hs,ht=>by
  rw[kK] at ht;rw[rD]
  split
  ·exact⟨hs,[],by simp⟩
  obtain⟨h1,m,h2⟩:=uI ks (s++[.node o z nm ks]) (fun x hx=>by
   rcases List.mem_append.1 hx with hx | hx
   ·exact hs x hx
   rw[aZ] at hx;rw[hx];exact ht.1) ht.2
  exact⟨h1,[.node o z nm ks]++m,by rw[h2,bg]⟩
theorem uI {P:F->Prop}:∀ (l:List F) (s:List F),(∀ x ∈ s,P x)->gH P l->(∀ x ∈ hO s l,P x)/\∃ m,hO s l=s++m
 | [],s,hs,_=>by rw[hO];exact⟨hs,[],by simp⟩
 | k::l,s,hs,hl=>by
  rw[gH] at hl;rw[hO];obtain⟨h1,m1,h2⟩:=Bo k s hs hl.1;obtain⟨h3,m2,h4⟩:=uI l (rD s k) h1 hl.2;exact⟨h3,m1++m2,by rw[h4,h2,bg]⟩
end
theorem BY {ks:List F} {a:Int} (h:eR ks=[a]):∃ k,ks=[k]/\eI k.op=a:=by
 unfold eR at h;match ks,h with
 | [k],h=>exact⟨k,rfl,by simpa using h⟩
theorem qQ {ks:List F} {a b:Int} (h:eR ks=[a,b]):∃ k l,ks=[k,l]/\eI k.op=a/\eI l.op=b:=by
 unfold eR at h;match ks,h with
 | [k,l],h=>simp at h;exact⟨k,l,rfl,h.1,h.2⟩
theorem j_ {o z:Int} {nm:ByteArray} {ks:List F} (h:rt (.node o z nm ks)=true):bF o (eR ks)=true/\(o=5->1<=z)/\∀ k ∈ ks,rt k=true:=by
 rw[rt,cV,nr] at h;obtain⟨h1,h2⟩:=h;unfold dP at h1;rw[cV] at h1;refine⟨h1.1,fun e=>?_,List.all_eq_true.1 h2⟩;have:=h1.2;simp[e] at this;exact this
def lF (r:ByteArray->V) (y:F):Prop:=rt y=true/\eI y.op=1/\ev r y=.B true
theorem OZ (r:ByteArray->V) (n:Int):ev r (nF n)=.I n:=rfl
theorem tX (r:ByteArray->V) (x:F):ev r (cY x)=.I ((mN (ev r x)).length:Nat):=rfl
theorem TX (r:ByteArray->V) (x:F):ev r (xZ x)=.I ((mN (ev r x)).headD 0):=rfl
theorem XU (r:ByteArray->V) (x:F):ev r (Mu x)=.L (mN (ev r x)).tail:=rfl
theorem QF (r:ByteArray->V) (x y:F):ev r (qp x y)=.L (iq (ev r x)::mN (ev r y)):=rfl
theorem OY (r:ByteArray->V):ev r lS=.L []:=rfl
theorem Ip (r:ByteArray->V) (x y:F):ev r (dV x y)=.B (decide (iq (ev r x)<=iq (ev r y))):=rfl
theorem EO (r:ByteArray->V) (x y:F):ev r (b_ x y)=.B (decide (ev r x=ev r y)):=rfl
theorem F0 (r:ByteArray->V) (x:F):ev r (bW x)=.B (!gU (ev r x)):=rfl
theorem Lc (r:ByteArray->V) (x y:F):ev r (gE x y)=.I (iq (ev r x)+iq (ev r y)):=rfl
theorem TU (r:ByteArray->V) (k:Int) (x:F):ev r (Aa k x)=.I (k*iq (ev r x)):=rfl
theorem Dc (r:ByteArray->V) (x y:F):ev r (gB [x,y])=.B (gU (ev r x) || gU (ev r y)):=by simp[gB,fo,ev,oW,Ec]
theorem TW (r:ByteArray->V) (x y z:F):ev r (gB [x,y,z])=.B (gU (ev r x) || (gU (ev r y) || gU (ev r z))):=by simp[gB,fo,ev,oW,Ec]
theorem CH {o z:Int} {x:F} (h5:o≠5) (hk:bF o [eI x.op]=true) (hx:rt x=true):rt (.node o z ⟨#[]⟩ [x])=true:=by
 rw[rt,rts,rts,hx];have e:dP o z (eR [x])=true:=by unfold dP;rw[show eR [x]=[eI x.op] from rfl,hk];simp[h5]
 rw[e];rfl
theorem CJ {o z:Int} {x y:F} (h5:o≠5) (hk:bF o [eI x.op,eI y.op]=true) (hx:rt x=true) (hy:rt y=true):rt (.node o z ⟨#[]⟩ [x,y])=true:=by
 rw[rt,rts,rts,rts,hx,hy];have e:dP o z (eR [x,y])=true:=by unfold dP;rw[show eR [x,y]=[eI x.op,eI y.op] from rfl,hk];simp[h5]
 rw[e];rfl
theorem qF {x:F} (h:eI x.op=2) (hx:rt x=true):rt (cY x)=true:=CH (by decide) (by rw[h];rfl) hx
theorem Oy {x:F} (h:eI x.op=2) (hx:rt x=true):rt (xZ x)=true:=CH (by decide) (by rw[h];rfl) hx
theorem Sf {x:F} (h:eI x.op=2) (hx:rt x=true):rt (Mu x)=true:=CH (by decide) (by rw[h];rfl) hx
theorem vO {x:F} (h:eI x.op=1) (hx:rt x=true):rt (bW x)=true:=CH (by decide) (by rw[h];rfl) hx
theorem Ov {k:Int} {x:F} (h:eI x.op=0) (hx:rt x=true):rt (Aa k x)=true:=CH (by decide) (by rw[h];rfl) hx
theorem tU {x y:F} (h:eI x.op=0) (k:eI y.op=0) (hx:rt x=true) (hy:rt y=true):rt (dV x y)=true:=CJ (by decide) (by rw[h,k];rfl) hx hy
theorem D_ {x y:F} (h:eI x.op=0) (k:eI y.op=0) (hx:rt x=true) (hy:rt y=true):rt (gE x y)=true:=CJ (by decide) (by rw[h,k];rfl) hx hy
theorem MN {x y:F} (h:eI x.op=0) (k:eI y.op=2) (hx:rt x=true) (hy:rt y=true):rt (qp x y)=true:=CJ (by decide) (by rw[h,k];rfl) hx hy
theorem uh {x y:F} (h:eI x.op=0) (k:eI y.op=0) (hx:rt x=true) (hy:rt y=true):rt (b_ x y)=true:=CJ (by decide) (by rw[h,k];rfl) hx hy
theorem Bx {x y:F} (h:eI x.op=2) (k:eI y.op=2) (hx:rt x=true) (hy:rt y=true):rt (b_ x y)=true:=CJ (by decide) (by rw[h,k];rfl) hx hy
theorem Ox {l:List F} (h:∀ x ∈ l,eI x.op=1/\rt x=true):rt (gB l)=true:=by
 show (dP 19 0 (eR l) && rts l)=true
 rw[nr,cV];refine⟨?_,List.all_eq_true.2 fun x hx=>(h x hx).2⟩;unfold dP bF eR;simp;exact fun x hx=>(h x hx).1
theorem yN {x y:F} (h:eI x.op=1) (k:eI y.op=1) (hx:rt x=true) (hy:rt y=true):rt (gB [x,y])=true:=Ox fun z hz=>by
 simp only[bz,aU,or_false] at hz;rcases hz with rfl | rfl
 ·exact⟨h,hx⟩
 exact⟨k,hy⟩
theorem PD {x y z:F} (h:eI x.op=1) (k:eI y.op=1) (l:eI z.op=1) (hx:rt x=true) (hy:rt y=true) (hz:rt z=true):rt (gB [x,y,z])=true:=Ox fun u hu=>by
 simp only[bz,aU,or_false] at hu;rcases hu with rfl | rfl | rfl
 ·exact⟨h,hx⟩
 ·exact⟨k,hy⟩
 exact⟨l,hz⟩
section
variable {r:ByteArray->V}
theorem Ke {a b:F} (ha:eI a.op=0) (hb:eI b.op=0) (ra:rt a=true) (rb:rt b=true) (h:iq (ev r a)<=iq (ev r b)):lF r (dV a b):=
 ⟨tU ha hb ra rb,rfl,by rw[Ip];exact congrArg V.B (decide_eq_true h)⟩
theorem EP {a b:F} (ha:eI a.op=0) (hb:eI b.op=0) (ra:rt a=true) (rb:rt b=true) (h:iq (ev r a)=iq (ev r b)):lF r (b_ a b):=
 ⟨uh ha hb ra rb,rfl,by rw[EO,mo ha,mo hb,h];simp⟩
theorem QG {a b:F} (ha:eI a.op=2) (hb:eI b.op=2) (ra:rt a=true) (rb:rt b=true) (h:mN (ev r a)=mN (ev r b)):lF r (b_ a b):=
 ⟨Bx ha hb ra rb,rfl,by rw[EO,mC ha,mC hb,h];simp⟩
theorem uT {x:F} (hx:rt x=true) (hs:eI x.op=2):∀ y ∈ fO x,lF r y:=by
 obtain⟨o,z,nm,ks⟩:=x;have hp:=j_ hx;generalize ex:F.node o z nm ks=x at *;have eo:x.op=o:=by rw[<-ex];rfl
 have h1:lF r (dV (nF 0) (cY x)):=Ke rfl rfl rfl (qF hs hx) (by rw[OZ,tX];show (0:Int)<=_;simp only[iq];omega);intro y hy;unfold fO at hy;rcases List.mem_cons.1 hy with rfl | hy
 ·exact h1
 rw[eo] at hy;split at hy
 ·rename_i h9;subst h9;have e:ks=[]:=by have:=hp.1;simpa [bF,eR] using this
  rw[aZ] at hy;subst hy;refine EP rfl rfl (qF hs hx) rfl ?_;rw[tX,OZ,<-ex,ev];rfl
 split at hy
 ·rename_i h10;subst h10;obtain⟨a,b,e,ha,hb⟩:=qQ (by have:=hp.1;simpa [bF] using this);have hr:=hp.2.2;subst e;have BT:kd x 1=b:=by rw[<-ex];rfl
  rw[aZ,BT] at hy;subst hy;have rb:=hr b (by simp);refine EP rfl rfl (qF hs hx) (D_ rfl rfl (qF hb rb) rfl) ?_;rw[tX,Lc,tX,OZ,<-ex,ev];show iq (V.I ((iq (ev r a)::mN (ev r b)).length:Nat))=_
  simp[iq]
 cases hy
theorem F1 {x:F} (hx:rt x=true) (hs:eI x.op=2):lF r (kN x):=by
 refine⟨yN rfl rfl (vO rfl (tU rfl rfl (qF hs hx) rfl)) (Bx hs rfl hx rfl),rfl,?_⟩;unfold kN;rw[Dc,F0,Ip,EO,tX,OZ,OY,mC hs];cases mN (ev r x) with
 | nil=>rfl
 | cons a l =>
  have h:decide ((((a::l).length:Nat):Int)<=0)=false:=decide_eq_false (by rw[mS];omega);show V.B (!decide ((((a::l).length:Nat):Int)<=0) || _)=_
  rw[h];rfl
theorem MD {l x:F} (hl:rt l=true) (hs:eI l.op=2) (hx:rt x=true) (zk:eI x.op=2) (he:mN (ev r x)=(mN (ev r l)).tail):∀ y ∈ mY x l,lF r y:=by
 have rf:rt (gC l)=true:=tU rfl rfl rfl (qF hs hl);intro y hy;unfold mY at hy;simp only[bz,aU,or_false] at hy;rcases hy with rfl | rfl | rfl
 ·refine⟨yN rfl rfl (vO rfl rf) (uh rfl rfl (qF hs hl) (D_ rfl rfl (qF zk hx) rfl)),rfl,?_⟩;rw[Dc,F0,gC,Ip,EO,Lc,tX,tX,OZ,he];cases mN (ev r l) with
  | nil=>simp[gU,iq]
  | cons a l=>simp[gU,iq]
 ·refine⟨yN rfl rfl rf (Bx zk rfl hx rfl),rfl,?_⟩;rw[Dc,gC,Ip,EO,tX,OZ,OY,mC zk,he];cases mN (ev r l) with
  | nil=>simp[gU,iq]
  | cons a l =>
   have h:decide ((1:Int)<=(((a::l).length:Nat):Int))=true:=decide_eq_true (by rw[mS];omega);show V.B (decide ((1:Int)<=(((a::l).length:Nat):Int)) || _)=_
   rw[h];rfl
 refine⟨yN rfl rfl (vO rfl rf) (Bx hs rfl hl (MN rfl zk (Oy hs hl) hx)),rfl,?_⟩;rw[Dc,F0,gC,Ip,EO,QF,tX,TX,OZ,he,mC hs];cases mN (ev r l) with
 | nil=>simp[gU,iq,mN]
 | cons a l=>simp[gU,iq,mN]
theorem JH {a k:Int} (h:1<=k):k*Int.fdiv a k<=a/\a<=k*Int.fdiv a k+(k - 1):=by
 have h1:=Int.mul_fdiv_add_fmod a k;have h2:=Int.fmod_nonneg_of_pos a (show 0<k by omega);have h3:=Int.fmod_lt_of_pos a (show 0<k by omega)
 omega
theorem JJ {p q:F} (hp:eI p.op=1) (hq:eI q.op=1) (rp:rt p=true) (rq:rt q=true) (h:gU (ev r p)=true\/gU (ev r q)=true):lF r (gB [p,q]):=
 ⟨yN hp hq rp rq,rfl,by rw[Dc];rcases h with h | h<;>simp[h]⟩
theorem PL {p q s:F} (hp:eI p.op=1) (hq:eI q.op=1) (hs:eI s.op=1) (rp:rt p=true) (rq:rt q=true) (rs:rt s=true) (h:gU (ev r p)=true\/gU (ev r q)=true\/gU (ev r s)=true):lF r (gB [p,q,s]):=
 ⟨PD hp hq hs rp rq rs,rfl,by rw[TW];rcases h with h | h | h<;>simp[h]⟩
theorem Ug (a b:F):(gU (ev r (dV a b))=true)=(iq (ev r a)<=iq (ev r b)):=by rw[Ip];simp[gU]
theorem QT (a:F):(gU (ev r (bW a))=true)=¬ (gU (ev r a)=true):=by rw[F0];simp[gU]
theorem Lu {a b:F} (ha:eI a.op=0) (hb:eI b.op=0):(gU (ev r (b_ a b))=true)=(iq (ev r a)=iq (ev r b)):=by rw[EO,mo ha,mo hb];simp[gU,iq]
theorem MU {x a b:F} (hx:rt x=true) (zk:eI x.op=0) (ha:rt a=true) (RB:eI a.op=0) (hb:rt b=true) (RA:eI b.op=0) (he:iq (ev r x)=iq (ev r a)*iq (ev r b)):∀ y ∈ nZ x a b,lF r y:=by
 have z0:iq (ev r (nF 0))=0:=rfl;have z1:iq (ev r (nF 1))=1:=rfl;have L1:rt (dV (nF 0) a)=true:=tU rfl RB rfl ha;have L2:rt (dV (nF 0) b)=true:=tU rfl RA rfl hb;have L3:rt (dV (nF 0) x)=true:=tU rfl zk rfl hx;have L4:rt (dV a (nF 0))=true:=tU RB rfl ha rfl;have L5:rt (dV b (nF 0))=true:=tU RA rfl hb rfl;have L6:rt (dV x (nF 0))=true:=tU zk rfl hx rfl;have E1:rt (b_ a (nF 1))=true:=uh RB rfl ha rfl;have E2:rt (b_ b (nF 1))=true:=uh RA rfl hb rfl;have E3:rt (b_ x b)=true:=uh zk RA hx hb;have E4:rt (b_ x a)=true:=uh zk RB hx ha;have Vq:∀ {p q s:F},eI p.op=1->eI q.op=1->eI s.op=1->rt p=true->rt q=true->rt s=true->((gU (ev r p)=true)->(gU (ev r q)=true)->(gU (ev r s)=true))->lF r (gB [bW p,bW q,s]):=fun hp hq hs rp rq rs h =>
  PL rfl rfl hs (vO hp rp) (vO hq rq) rs (by
   rw[QT,QT];exact Classical.byCases (fun h1=>Classical.byCases (fun h2=>.inr (.inr (h h1 h2))) fun h2=>.inr (.inl h2)) fun h1=>.inl h1)
 have duo:∀ {p s:F},eI p.op=1->eI s.op=1->rt p=true->rt s=true->((gU (ev r p)=true)->(gU (ev r s)=true))->lF r (gB [bW p,s]):=fun hp hs rp rs h =>
  JJ rfl hs (vO hp rp) rs (by
   rw[QT];exact Classical.byCases (fun h1=>.inr (h h1)) fun h1=>.inl h1)
 intro y hy;unfold nZ at hy;simp only[bz,aU,or_false] at hy;rcases hy with rfl | rfl | rfl | rfl | rfl | rfl
 ·refine Vq rfl rfl rfl L1 L2 L3 fun h1 h2=>?_
  rw[Ug,z0] at h1 h2 ⊢;rw[he];exact Int.mul_nonneg h1 h2
 ·refine Vq rfl rfl rfl L4 L5 L3 fun h1 h2=>?_
  rw[Ug,z0] at h1 h2 ⊢;rw[he];exact Int.mul_nonneg_of_nonpos_of_nonpos h1 h2
 ·refine Vq rfl rfl rfl L1 L5 L6 fun h1 h2=>?_
  rw[Ug,z0] at h1 h2 ⊢;rw[he];exact Int.mul_nonpos_of_nonneg_of_nonpos h1 h2
 ·refine Vq rfl rfl rfl L4 L2 L6 fun h1 h2=>?_
  rw[Ug,z0] at h1 h2 ⊢;rw[he];exact Int.mul_nonpos_of_nonpos_of_nonneg h1 h2
 ·refine duo rfl rfl E1 E3 fun h1=>?_
  rw[Lu RB rfl,z1] at h1;rw[Lu zk RA,he,h1,Int.one_mul]
 refine duo rfl rfl E2 E4 fun h1=>?_
 rw[Lu RA rfl,z1] at h1;rw[Lu zk RB,he,h1,Int.mul_one]
theorem Da {x:F} (hx:rt x=true):∀ y ∈ cZ x,lF r y:=by
 obtain⟨o,z,nm,ks⟩:=x;have hp:=j_ hx;generalize ex:F.node o z nm ks=x at *;have eo:x.op=o:=by rw[<-ex];rfl
 have ez:x.num=z:=by rw[<-ex];rfl
 have TT:ev r x=Ec r o z nm (oW r ks):=by rw[<-ex,ev]
 intro y hy;unfold cZ at hy;rw[eo] at hy;by_cases h8:o=8
 ·rw[if_pos h8] at hy;have hs:eI x.op=2:=by rw[eo,h8];rfl
  rcases List.mem_append.1 hy with hy | hy
  ·exact uT hx hs y hy
  rw[aZ] at hy;rw[hy];exact F1 hx hs
 rw[if_neg h8] at hy;by_cases h9:o=9
 ·rw[if_pos h9] at hy;exact uT hx (by rw[eo,h9];rfl) y hy
 rw[if_neg h9] at hy;by_cases h10:o=10
 ·rw[if_pos h10] at hy;have hs:eI x.op=2:=by rw[eo,h10];rfl
  rcases List.mem_append.1 hy with hy | hy
  ·exact uT hx hs y hy
  subst h10;obtain⟨a,b,e,ha,hb⟩:=qQ (by have:=hp.1;simpa [bF] using this);have hr:=hp.2.2;subst e;have k0:kd x 0=a:=by rw[<-ex];rfl
  have k1:kd x 1=b:=by rw[<-ex];rfl
  have ra:=hr a (by simp);have rb:=hr b (by simp);have e2:ev r x=.L (iq (ev r a)::mN (ev r b)):=TT;rw[k0,k1] at hy;simp only[bz,aU,or_false] at hy;rcases hy with rfl | rfl
  ·exact EP rfl ha (Oy hs hx) ra (by rw[TX,e2];rfl)
  exact QG rfl hb (Sf hs hx) rb (by rw[XU,e2];rfl)
 rw[if_neg h10] at hy;have one:∀ s:Int,bF o (eR ks)=decide (eR ks=[s])->∃ k,ks=[k]/\eI k.op=s/\rt k=true/\kd x 0=k:=fun s h=>by
  obtain⟨k,e,hk⟩:=BY (a:=s) (by have:=hp.1;rw[h] at this;exact of_decide_eq_true this);exact⟨k,e,hk,hp.2.2 k (by rw[e];simp),by rw[<-ex,e];rfl⟩
 by_cases h11:o=11
 ·rw[if_pos h11] at hy;have hs:eI x.op=2:=by rw[eo,h11];rfl
  obtain⟨l,e,hl,rl,k0⟩:=one 2 (by rw[h11];rfl);have e2:mN (ev r x)=(mN (ev r l)).tail:=by rw[TT,h11,e];rfl
  rw[k0] at hy;rcases List.mem_append.1 hy with hy | hy
  ·exact uT hx hs y hy
  rcases List.mem_append.1 hy with hy | hy
  ·rw[aZ] at hy;rw[hy];exact F1 hx hs
  exact MD rl hl hx hs e2 y hy
 rw[if_neg h11] at hy;by_cases h7:o=7
 ·rw[if_pos h7] at hy;obtain⟨l,e,hl,rl,k0⟩:=one 2 (by rw[h7];rfl);have hs:eI x.op=0:=by rw[eo,h7];rfl
  have e2:iq (ev r x)=(mN (ev r l)).headD 0:=by rw[TT,h7,e];rfl
  rw[k0,aZ] at hy;subst hy;refine JJ rfl rfl (tU rfl rfl rfl (qF hl rl)) (uh hs rfl hx rfl) ?_;unfold gC;rw[Ug,Lu hs rfl,e2,tX];show (1:Int)<=((mN (ev r l)).length:Nat)\/_=(0:Int)
  cases mN (ev r l) with
  | nil=>exact .inr rfl
  | cons a q=>left;rw[mS];omega
 rw[if_neg h7] at hy;by_cases h5:o=5
 ·rw[if_pos h5] at hy;obtain⟨a,e,ha,ra,k0⟩:=one 0 (by rw[h5];rfl);have hs:eI x.op=0:=by rw[eo,h5];rfl
  have hz:=hp.2.1 h5;have e2:iq (ev r x)=Int.fdiv (iq (ev r a)) z:=by rw[TT,h5,e];rfl
  have hq:=JH (a:=iq (ev r a)) hz;rw[k0,ez] at hy;simp only[bz,aU,or_false] at hy;rcases hy with rfl | rfl
  ·exact Ke rfl ha (Ov hs hx) ra (by rw[TU,e2];exact hq.1)
  exact Ke ha rfl ra (D_ rfl rfl (Ov hs hx) rfl) (by rw[Lc,TU,OZ,e2];exact hq.2)
 rw[if_neg h5] at hy;by_cases h4:o=4
 ·rw[if_pos h4] at hy;subst h4;obtain⟨a,b,e,ha,hb⟩:=qQ (by have:=hp.1;simpa [bF] using this);have hr:=hp.2.2;subst e;have k0:kd x 0=a:=by rw[<-ex];rfl
  have k1:kd x 1=b:=by rw[<-ex];rfl
  rw[k0,k1] at hy;exact MU hx (by rw[eo];rfl) (hr a (by simp)) ha (hr b (by simp)) hb (by rw[TT];rfl) y hy
 rw[if_neg h4] at hy;cases hy
end
theorem Kr:(Tryz.prog.info? 167).map (fun i=>(i.zero,i.size,i.bytes))=some (some (.agg #[.int .i64 0,.bool false,.slice none 0 0,.string ⟨#[]⟩,.slice none 0 0,.slice none 0 0,.bool false]),7,112):=by kernel_rfl
structure Co where
 u:FU
 ko:Option cB
 kl:Nat
 kc:Nat
 b:Bool
def M5 (n:Co):List aq:=[.int .i64 n.u.k,.bool (decide (n.u.n.z<0)),.slice n.u.n.o n.u.n.l n.u.n.c,.string n.u.nm,.slice n.u.ko n.u.kl n.u.kc,.slice n.ko n.kl n.kc,.bool n.b]
def nR:El Co where
 e:=167
 t:=161
 n:=7
 b:=112
 z:=.agg #[.int .i64 0,.bool false,.slice none 0 0,.string ⟨#[]⟩,.slice none 0 0,.slice none 0 0,.bool false]
 f:=M5
 R _ _:=True
 ok _:=True
 pos:=by decide
 I2:=by decide
 zs:=rfl
 z32:=by intro u hu z;simp only[Value.cells,bz,aU,or_false] at hu;rcases hu with rfl | rfl | rfl | rfl | rfl | rfl | rfl<;>(intro h;cases h)
 ht:=Tryz.underlying161
 info:=Kr
 len _:=rfl
 one n:=by
  intro u hu;simp only[M5,bz,aU,or_false] at hu;rcases hu with rfl | rfl | rfl | rfl | rfl | rfl | rfl<;>rfl
 n32 n:=by
  intro u hu z;simp only[M5,bz,aU,or_false] at hu;rcases hu with rfl | rfl | rfl | rfl | rfl | rfl | rfl<;>(intro h;cases h)
 fr _ _ _:=trivial
 own:=trivial
def zP (k:Nat) (w:ag) (g:Nat):Prop:=k<g/\∃ a v,w.heap[k]?=some (.cells #[a,v] 163 (0,0))/\v.ownBlock=some g
def Own (B k:Nat) (w:ag) (g:Nat):Prop:=
 B<=g/\((∃ es cl,w.heap[g]?=some (.map es cl))\/∃ c T,w.heap[g]?=some (.cells c T (0,0))/\(T=163\/(T=167/\zP k w g))/\pQ c.toList)
structure dz (B k:Nat) (w w':ag):Prop where
 os:w'.os=w.os
 tape:w'.tape=w.tape
 output:w'.output=w.output
 size:w.heap.size<=w'.heap.size
 block:∀ g,g<w.heap.size->¬ Own B k w g->w'.heap[g]?=w.heap[g]?
 row:∀ g,g<w.heap.size->zP k w' g->zP k w g
theorem dz.refl (B k:Nat) (w:ag):dz B k w w:=⟨rfl,rfl,rfl,ai _,fun _ _ _=>rfl,fun _ _ h=>h⟩
theorem dz.no {B k:Nat} {w w':ag} (h:dz B k w w') {g:Nat} (hg:g<w.heap.size) (hn:¬ Own B k w g):¬ Own B k w' g:=by
 rintro⟨hB,o⟩;refine hn ⟨hB,?_⟩;rw[h.block g hg hn] at o;rcases o with o | ⟨c,T,h1,h2 | ⟨h2,h3⟩,h4⟩
 ·exact .inl o
 ·exact .inr ⟨c,T,h1,.inl h2,h4⟩
 exact .inr ⟨c,T,h1,.inr ⟨h2,h.row g hg h3⟩,h4⟩
theorem dz.trans {B k0:Nat} {a b c:ag} (h:dz B k0 a b) (k:dz B k0 b c):dz B k0 a c:=
 ⟨k.os.trans h.os,k.tape.trans h.tape,k.output.trans h.output,ah h.size k.size,
  fun g hg hn=>(k.block g (az hg h.size) (h.no hg hn)).trans (h.block g hg hn),
  fun g hg hr=>h.row g hg (k.row g (az hg h.size) hr)⟩
theorem rU {k:Nat} {w w':ag} (h:k<w.heap.size->w'.heap[k]?=w.heap[k]?):∀ g,g<w.heap.size->zP k w' g->zP k w g:=by
 rintro g hg ⟨h1,a,v,h2,h3⟩;exact⟨h1,a,v,by rw[<-h (Nat.lt_trans h1 hg)];exact h2,h3⟩
theorem dz.aN {B k:Nat} {w w':ag} (h:aA w.heap.size w w'):dz B k w w':=
 ⟨h.os,h.tape,h.output,h.size,fun g hg _=>h.block g hg,rU fun hk=>h.block k hk⟩
theorem dz.below {B k:Nat} {w w':ag} (h:dz B k w w') (hB:B<=w.heap.size):aA B w w':=
 ⟨h.os,h.tape,h.output,h.size,fun g hg=>h.block g (az hg hB) (fun o=>by have:=o.1;omega)⟩
theorem dz.aL {B k:Nat} {w w':ag} {r:Option Nat} (h:w.grownBy w' r) (ho:∀ g,r=some g->Own B k w g) (hk:some k≠r):dz B k w w':=
 ⟨h.os,h.tape,h.output,h.size,fun q hq hn=>h.block q hq (fun e=>hn (ho q e.symm)),rU fun hl=>h.block k hl hk⟩
theorem dz.kn {B k:Nat} {w w':ag} (h:dz B k w w'):KN w w':=by
 intro a z hc;have hl:=World.block_lt_of_cell? w a hc;by_cases ho:Own B k w a.block
 ·exfalso;rcases ho.2 with ⟨es,cl,hm⟩ | ⟨c,T,hm,-,h32⟩
  ·unfold World.cell? at hc;rw[hm] at hc;simp at hc
  exact vj hm h32 rfl z hc
 rw[dU (h.block _ hl ho)];exact hc
def NO (B k:Nat) (w:ag) (g:Nat):Prop:=¬ Own B k w g
def NS (B k:Nat) (E:Nat->Prop) (w:ag) (g:Nat):Prop:=NO B k w g/\¬ E g
theorem FT.wM {B k:Nat} {E:Nat->Prop} {w w':ag} {d:Nat} {u:FU} {t:F} (h:FT w (NS B k E w) d u t) (hk:dz B k w w'):FT w' (NS B k E w') d u t:=
 ((h.lt).keep (fun g hg=>hk.block g hg.2 hg.1.1) hk.kn).mono fun g hg=>⟨hk.no hg.2 hg.1.1,hg.1.2⟩
theorem FT.MZ {k:Nat} {E:Nat->Prop} {S:Nat->Prop} {w0 w:ag} {d:Nat} {u:FU} {t:F} (h:FT w0 S d u t) (hb:aA w0.heap.size w0 w) (hE:∀ g,E g->w0.heap.size<=g):FT w (NS w0.heap.size k E w) d u t:=
 ((h.lt).keep (fun g hg=>hb.block g hg.2) (KN.aN hb)).mono fun g hg=>⟨fun o=>by have:=o.1;omega,fun he=>by have:=hE g he;omega⟩
def IL (B k:Nat) (E:Nat->Prop) (w:ag) (v:aq) (l:List Nat):Prop:=∃ ko kc,v=.slice ko l.length kc/\(l.length<=kc/\kc<=bI/\(ko=none->kc=0))/\∀ j (h:j<l.length),∃ a,ko=some a/\(NS B k E w a.block/\∃ c,w.heap[a.block]?=some (.cells c 116 (0,0)))/\w.cell? (a.add j)=some (.int .i64 ((l[j]:Nat):Int))
theorem IL.wM {B k:Nat} {E:Nat->Prop} {w w':ag} {v:aq} {l:List Nat} (h:IL B k E w v l) (hk:dz B k w w'):IL B k E w' v l:=by
 obtain⟨ko,kc,e,h1,h2⟩:=h;refine⟨ko,kc,e,h1,fun j hj=>?_⟩;obtain⟨a,ha,hn,hc⟩:=h2 j hj;have hl:=World.block_lt_of_cell? w _ hc;rw[cI] at hl;have hs:=hk.block _ hl hn.1.1;exact⟨a,ha,⟨⟨hk.no hl hn.1.1,hn.1.2⟩,by obtain⟨c,qB⟩:=hn.2;exact⟨c,hs.trans qB⟩⟩,by rw[dU (w:=w) (by rw[cI];exact hs)];exact hc⟩
theorem IL.nil (B k:Nat) (E:Nat->Prop) (w:ag):IL B k E w (.slice none 0 0) []:=⟨none,0,rfl,⟨ai _,au _,fun _=>rfl⟩,fun j hj=>absurd hj (ay j)⟩
theorem IL.block {B k g:Nat} {E:Nat->Prop} {T:bn} {w:ag} {cs:List aq} {l:List Nat} (h:w.heap[g]?=some (.cells cs.toArray T (0,0))) (hT:T=116/\T≠163/\T≠167) (hE:¬ E g) (hl:l.length<=bI) (hc:cs=l.map fun i=>.int .i64 ((i:Nat):Int)):IL B k E w (.slice (some ⟨g,0,none⟩) l.length l.length) l:=by
 refine⟨_,_,rfl,⟨ai _,hl,fun h=>by cases h⟩,fun j hj=>⟨_,rfl,⟨⟨?_,hE⟩,⟨_,by rw[<-hT.1];exact h⟩⟩,?_⟩⟩
 ·rintro⟨-,⟨es,cl,e⟩ | ⟨c,T',e,OU,-⟩⟩
  ·rw[show (⟨g,0,none⟩:cB).block=g from rfl,h] at e;cases e
  rw[show (⟨g,0,none⟩:cB).block=g from rfl,h] at e;injection e with e;injection e with _ e;rcases OU with rfl | ⟨rfl,-⟩
  ·exact hT.2.1 e
  exact hT.2.2 e
 rw[lD,Nat.zero_add,cell_of_row w g _ _ _ _ h,hc,g_,List.getElem?_map,List.getElem?_eq_getElem hj];rfl
theorem pg.pC {w:ag} {d:Nat} {x:RU} (h:pg w (d+1) x) (i:Nat) (hi:i<x.kl):∃ (a:cB) (y:RU),x.ko=some a/\(w.cell? (a.add (i*5))=some (.int .i64 y.o)/\w.cell? ⟨(a.add (i*5)).block,(a.add (i*5)).off+1,none⟩=some (.bool y.b)/\w.cell? ⟨(a.add (i*5)).block,(a.add (i*5)).off+2,none⟩=some (.slice y.ao y.l y.c) /\
  w.cell? ⟨(a.add (i*5)).block,(a.add (i*5)).off+3,none⟩=some (.string y.nm)/\w.cell? ⟨(a.add (i*5)).block,(a.add (i*5)).off+4,none⟩=some (.slice y.ko y.kl y.kc))/\pg w d y:=by
 obtain⟨-,-,-,-,h5⟩:=h;obtain⟨y,⟨a,ha,hc⟩,hy⟩:=h5 i hi;exact⟨a,y,ha,⟨hc 0 _ rfl,hc 1 _ rfl,hc 2 _ rfl,hc 3 _ rfl,hc 4 _ rfl⟩,hy⟩
theorem iQ (us:List FU) (y:FU) {n:Nat} (hn:n=us.length):(us++[I_]).set n y=us++[y]:=by
 subst hn;rw[List.set_append_right _ _ (ai _)];simp
theorem CK {w W:ag} {B g n cap ko:Nat} {us:List FU} (h:fR.Row w B (.slice (some ⟨g,0,none⟩) (n+1) cap) (us++[I_])) (hn:n=us.length) (ik:ko≠g) (hW:∀ k,k<w.heap.size->k≠ko->W.heap[k]?=w.heap[k]?) :
  (W.cell? ⟨g,n*5,none⟩=some (.int .i64 0)/\W.cell? ⟨g,n*5+1,none⟩=some (.bool false)/\W.cell? ⟨g,n*5+2,none⟩=some (.slice none 0 0)/\W.cell? ⟨g,n*5+3,none⟩=some (.string ⟨#[]⟩)/\W.cell? ⟨g,n*5+4,none⟩=some (.slice none 0 0)) /\
  W.frozen? ⟨g,n*5,none⟩=false/\W.frozen? ⟨g,n*5+1,none⟩=false/\W.frozen? ⟨g,n*5+2,none⟩=false/\W.frozen? ⟨g,n*5+3,none⟩=false/\W.frozen? ⟨g,n*5+4,none⟩=false:=by
 have hi:n<(us++[I_]).length:=by rw[hn];simp
 have e:(us++[I_])[n]=I_:=by subst hn;rw[List.getElem_append_right (ai _)];simp
 obtain⟨⟨c0,c1,c2,c3,c4⟩,-⟩:=Row.N3 h (by simp[hn]) hi;rw[e] at c0 c1 c2 c3 c4;obtain⟨cc,hc,-⟩:=h.n32 g rfl;have hg:=(hW g (ae hc) (fun e=>ik e.symm)).trans hc;have key:∀ j v,w.cell? ⟨g,j,none⟩=some v->W.cell? ⟨g,j,none⟩=some v:=fun j v h=>by rw[World.cell?_of_block (w:=w) (hW g (ae hc) (fun e=>ik e.symm))];exact h
 exact⟨⟨key _ _ c0,key _ _ c1,key _ _ c2,key _ _ c3,key _ _ c4⟩,aP hg _,aP hg _,aP hg _,aP hg _,aP hg _⟩
def xF (d:Nat):Prop:=∀ (s o:Int) (b:Bool) (ao:Option cB) (l c:Nat) (nm:ByteArray) (ko:Option cB) (kl kc:Nat) (w:ag),s=0\/s=1\/s=2->pg w d ⟨o,b,ao,l,c,nm,ko,kl,kc⟩ ->
 Calls aj 13 #[.agg #[.int .i64 o,.bool b,.slice ao l c,.string nm,.slice ko kl kc],.int .i64 s,.int .i64 (d:Nat)] w (mO d s w)
theorem jM (d:Nat) (hd:d<=100) (IT:xF d) (w wr:ag) (B kf kd kr ko:Nat) (x:RU) (hx:pg w (d+1) x) (op:Int) (sg:Bool) (ao:Option cB) (l c:Nat) (nm:ByteArray) (z:Int) (ts:List F) (v:aq) (us:List FU) (i:Nat) (s:Int) (hs:s=0\/s=1\/s=2) (hi:i<=100)
  (h:iA w B kf kd kr ko x ((d:Nat)+1:Int) op sg ao l c nm z d ts v us wr) (hl:us.length<=100) :
  Calls aj 57 #[.int .i64 (i:Nat),.int .i64 s,.pointer (some ⟨kf,0,none⟩),.pointer (some ⟨ko,0,none⟩),.pointer (some ⟨kd,0,none⟩)] wr fun e w'=>(∃ q,e=.returned q)/\∃ t v' us',eI t.op=s/\iA w B kf kd kr ko x ((d:Nat)+1:Int) op sg ao l c nm z d (ts++[t]) v' us' w':=by
 obtain⟨xo,xb,fZ,xl,xc,fY,gu,fT,fU⟩:=x;obtain⟨vo,vc,rfl,WO,SJ,-⟩:=h.row.form;have oX:=aa h;have aE:=aa h.hf;have bU:=aa h.ho;have cg:=aa h.hd;simp only at aE;have HXR:=aa hx;have wH:=aa IT;have HSS:=aa hs;obtain⟨Z4,Z3⟩:=hx.2.2.2.1;have Nn:fU<=9223372036854775807:=Z3;have PY:fT<=fU:=Z4;have hvm:vc<=9223372036854775807:=SJ;obtain⟨n,hn⟩:∃ n,n=us.length:=⟨_,rfl⟩;rw[<-hn] at bU hl WO;have HN:=aa hn;have hsub:((d:Nat)+1:Int) - 1=((d:Nat):Int):=by omega
 have hwd:IntKind.i64.wrap ((d:Nat):Int)=((d:Nat):Int):=IntWalk.i64_in _ (by omega);clear h hx hs IT Z4 Z3 SJ hn;have qw:=aE;have kR:=bU;have qx:=cg;have HW:=aa (ax wr.heap.size wr);go_enter Tryz.func57,Tryz.ntmps57;go_upto_region 1 with fail;obtain⟨x1,kx,ex,Z9,dK,ZE,LK⟩:=aM wr #[.int .i64 0,.bool false,.slice none 0 0,.string ⟨#[]⟩,.slice none 0 0] 29;replace aE:=aS dK.out aE;replace bU:=aS dK.out bU;replace cg:=aS dK.out cg;replace HW:=aa (HW.out.trans (dK.out.mono HW.out.size));rw[ex,Z9];have UW:Hid (wr.heap.size<=kx):=ZE;obtain⟨⟨f0,f1,f2,f3,f4⟩,oV,oU,oS,oQ,oP⟩:=ak aE.out;by_cases hlt:i<fT
 ·obtain⟨a,y,Zg,⟨g0,g1,g2,g3,g4⟩,Vv⟩:=HXR.out.pC i hlt;obtain⟨yo,yb,Vo,yl,yc,Vk,Vl,Vm,Vn⟩:=y;simp only at Zg g0 g1 g2 g3 g4;subst Zg;have kV:=aa oX.out.be;have X':=aa Vv;clear Vv;rw[<-((kV.out.trans (HW.out.mono kV.out.size)).cell (World.block_lt_of_cell? w _ g0))] at g0;rw[<-((kV.out.trans (HW.out.mono kV.out.size)).cell (World.block_lt_of_cell? w _ g1))] at g1;rw[<-((kV.out.trans (HW.out.mono kV.out.size)).cell (World.block_lt_of_cell? w _ g2))] at g2;rw[<-((kV.out.trans (HW.out.mono kV.out.size)).cell (World.block_lt_of_cell? w _ g3))] at g3;rw[<-((kV.out.trans (HW.out.mono kV.out.size)).cell (World.block_lt_of_cell? w _ g4))] at g4;have qO:((i:Nat):Int)<((fT:Nat):Int):=by omega
  obtain⟨⟨e0,e1,e2,e3,e4⟩,XT,fe1,fe2,fe3,fe4⟩:=ak LK.out;go_upto_region 3 with fail;clear f0 oV f1 oU f2 oS f3 oQ f4 oP e0 XT e1 fe1 e2 fe2 e3 fe3 e4 fe4 g0 g1 g2 g3 g4;have fg:=bR (w:=x1) (k:=kx) (.int .i64 yo) (.bool yb) (.slice Vo yl yc) (.string Vk) (.slice Vl Vm Vn);have eH:=gZ LK.out (.int .i64 yo) (.bool yb) (.slice Vo yl yc) (.string Vk) (.slice Vl Vm Vn);obtain⟨W1,nN⟩:∃ q,q=((((x1.setCell ⟨kx,0,none⟩ (.int .i64 yo)).setCell ⟨kx,1,none⟩ (.bool yb)).setCell ⟨kx,2,none⟩ (.slice Vo yl yc)).setCell ⟨kx,3,none⟩ (.string Vk)).setCell ⟨kx,4,none⟩ (.slice Vl Vm Vn):=⟨_,rfl⟩;rw[<-nN] at fg eH ⊢;replace HW:=aa (bA HW.out fg UW.out);replace LK:=aa eH
  replace bU:=aa ((HW.out.block _ (ae kR.out)).trans kR.out);replace cg:=aa ((HW.out.block _ (ae qx.out)).trans qx.out);clear fg eH nN;have C4:=ae bU.out;have C3:=ae LK.out;have C5:=ae cg.out;have ik:Hid (∀ q,q<0->(fun q=>0) q<W1.heap.size):=aa (fun q h=>absurd h (ay _));refine R7.region (by kernel_rfl) [[],[0],[],[],[],[4],[2,3,4,5],[0,1],[],[0,1,2,3,4,5,6,7,8],[0,1,2,3,4,5,6,7,8,9],[0,1,2,3,4,5,6,7,8,9,10],[0,1,2,3,4,5,6,7,8,9],[0,1,2,3,4,5,6,7,8,9,12]] [] [] (fun q=>0) 0 9 (by kernel_rfl) (by kernel_rfl) (by rfl) ik.out (fun q q' h h' hn=>absurd hn (by omega)) ?_;refine R7.aB.da ?_ (by rfl) (fun T xs wr hA=>?_) ?_;rotate_left 1
  ·have e3:=hA.pre 3 (by kernel_rfl);simp only[g_,iC,iz] at e3;clear hA;refine⟨(by rfl),?_⟩;go_simp<;>(try with_reducible rfl)
  refine R7.aB.da ?_ (by rfl) (fun T xs wr hA=>?_) ?_;rotate_left 1
  ·have Dh:=hA.tm 0 19 (by rfl) (by rfl);have f19:xs 0=_:=hA.fa 0 (by rfl);(try simp (disch:=first | rfl | decide) only [R7.an] at f19);rw[f19] at Dh;clear f19;have bx:wr.heap[ko]?=_:=(hA.bl _ C4 (fun q h=>absurd h (ay _))).trans bU.out;have q0:=af (v:=.int .i64 op) bx 0 rfl;have q1:=af (v:=.bool sg) bx 1 rfl;have q2:=af (v:=.slice ao l c) bx 2 rfl;have q3:=af (v:=.string nm) bx 3 rfl;have q4:=af (v:=.slice vo n vc) bx 4 rfl;clear bx;clear hA;refine⟨(by rfl),?_⟩;go_simp<;>(try with_reducible rfl)
  refine R7.aB.da ?_ (by rfl) (fun T xs wr hA=>?_) ?_;rotate_left 1
  ·have e7:=hA.pre 7 (by kernel_rfl);simp only[g_,iC,iz] at e7;have bx:wr.heap[kx]?=_:=(hA.bl _ C3 (fun q h=>absurd h (ay _))).trans LK.out;have q0:=af (v:=.int .i64 yo) bx 0 rfl;have q1:=af (v:=.bool yb) bx 1 rfl;have q2:=af (v:=.slice Vo yl yc) bx 2 rfl;have q3:=af (v:=.string Vk) bx 3 rfl;have q4:=af (v:=.slice Vl Vm Vn) bx 4 rfl;clear bx;clear hA;refine⟨(by rfl),?_⟩;go_simp<;>(try with_reducible rfl)
  refine R7.aB.da ?_ (by rfl) (fun T xs wr hA=>?_) ?_;rotate_left 1
  ·have e1:=hA.pre 1 (by kernel_rfl);simp only[g_,iC,iz] at e1;clear hA;refine⟨(by rfl),?_⟩;go_simp<;>(try with_reducible rfl)
  refine R7.aB.da ?_ (by rfl) (fun T xs wr hA=>?_) ?_;rotate_left 1
  ·have e4:=hA.pre 4 (by kernel_rfl);simp only[g_,iC,iz] at e4;have bx:wr.heap[kd]?=_:=(hA.bl _ C5 (fun q h=>absurd h (ay _))).trans cg.out;have q0:=af (v:=.int .i64 ((d:Nat)+1:Int)) bx 0 rfl;clear bx;clear hA;refine⟨(by rfl),?_⟩;go_simp<;>(try with_reducible rfl)
  refine R7.aB.da ?_ (by rfl) (fun T xs wr hA=>?_) ?_;rotate_left 1
  ·have Li:=hA.tm 4 23 (by rfl) (by rfl);have f23:xs 4=_:=hA.fa 4 (by rfl);(try simp (disch:=first | rfl | decide) only [R7.an] at f23);rw[f23] at Li;clear f23;clear hA;refine⟨(by rfl),?_⟩;go_simp<;>(try with_reducible rfl)
  refine R7.aB.call (fun xs v w=>∃ y t,v=fV y/\FT w (fun b=>W1.heap.size<=b) d y t/\rt t=true/\eI t.op=s/\Tm d t) (fun _ _ _ _ h hb=>by obtain⟨y,t,h1,h2,h3⟩:=h;exact⟨y,t,h1,h2.below hb,h3⟩) (fun _ _ _ _ _ _ h _=>by obtain⟨q,hq,_⟩:=h;exact absurd hq (ay _)) (by rfl) (fun T xs wr hA=>?_) ?_
  ·have th:=(hA.be 0 (au _) (fun _ _=>au _)).size;have L_:=hA.tm 2 21 (by rfl) (by rfl);have f21:xs 2=_:=hA.fa 2 (by rfl);(try simp (disch:=first | rfl | decide) only [R7.an] at f21);rw[f21] at L_;clear f21;have L9:=hA.tm 3 22 (by rfl) (by rfl);have f22:xs 3=_:=hA.fa 3 (by rfl);(try simp (disch:=first | rfl | decide) only [R7.an] at f22);rw[f22] at L9;clear f22;have I1:=hA.tm 5 24 (by rfl) (by rfl);have f24:xs 5=_:=hA.fa 5 (by rfl);(try simp (disch:=first | rfl | decide) only [R7.an] at f24);rw[f24] at I1;clear f24;have kD:=cm (hA.be W1.heap.size (ai _) (fun q h=>absurd h (ay q)));have P8:=X'.out.below ((kV.out.trans (HW.out.mono kV.out.size)).trans (kD.mono (ah kV.out.size HW.out.size)));clear hA
   refine⟨(by rfl),fun K hK=>?_⟩;go_simp;refine (wH.out s _ _ _ _ _ _ _ _ _ _ HSS.out P8).mono ?_;rintro e w' ⟨q,t,rfl,⟨y,rfl,hy⟩,h2,h3,h4,hb'⟩;exact hK.out _ _ ⟨y,t,rfl,hy.mono (fun b hb=>ah kD.size hb),h2,h3,h4⟩ hb'
  refine R7.aB.da ?_ (by rfl) (fun T xs wr hA=>?_) ?_;rotate_left 1
  ·have Lj:=hA.tm 1 20 (by rfl) (by rfl);have f20:xs 1=_:=hA.fa 1 (by rfl);(try simp (disch:=first | rfl | decide) only [R7.an] at f20);rw[f20] at Lj;clear f20;clear hA;refine⟨(by rfl),?_⟩;go_simp<;>(try with_reducible rfl)
  refine R7.aB.call (fun xs v w=>∃ g,v=.slice (some ⟨g,0,none⟩) 1 1/\W1.heap.size<=g/\w.heap[g]?=some (.cells #[.int .i64 0,.bool false,.slice none 0 0,.string ⟨#[]⟩,.slice none 0 0] 29 (0,0))) (fun _ _ _ _ ⟨g,hv,hl,hg⟩ hb=>⟨g,hv,hl,by rw[hb.block g (Array.getElem?_eq_some_iff.1 hg).1];exact hg⟩) (fun _ _ _ _ _ ⟨g,hv,hl,hg⟩ ⟨q,hq,e⟩ hp=>⟨g,hv,hl,by rw[hp.block g (Array.getElem?_eq_some_iff.1 hg).1 (fun h=>by have:=ik.out q hq;omega)];exact hg⟩) (by rfl) (fun T xs wr hA=>?_) ?_
  ·have th:=(hA.be 0 (au _) (fun _ _=>au _)).size;clear hA;refine⟨(by rfl),fun K hK=>?_⟩;go_simp;exact hK.out _ _ ⟨_,rfl,th,by simpa using dh wr _ _ rfl⟩ ((ax _ _).alloc (ai _) _)
  refine R7.aB.done (fun xs x2 hL=>?_);obtain⟨⟨iY,dw⟩,hf,-,-⟩:=hL;have f0:xs 0=_:=hf 0 (by decide);(try simp (disch:=first | rfl | decide) only [R7.an] at f0);have f1:xs 1=_:=hf 1 (by decide);(try simp (disch:=first | rfl | decide) only [R7.an] at f1);have f2:xs 2=_:=hf 2 (by decide);(try simp (disch:=first | rfl | decide) only [R7.an] at f2);have f3:xs 3=_:=hf 3 (by decide);(try simp (disch:=first | rfl | decide) only [R7.an] at f3);have f4:xs 4=_:=hf 4 (by decide);(try simp (disch:=first | rfl | decide) only [R7.an] at f4);have f5:xs 5=_:=hf 5 (by decide);(try simp (disch:=first | rfl | decide) only [R7.an] at f5);have F6:∃ y t,(xs 6)=fV y/\FT x2 (fun b=>W1.heap.size<=b) d y t/\rt t=true/\eI t.op=s/\Tm d t:=hf 6 (by decide);have f7:xs 7=_:=hf 7 (by decide)
  (try simp (disch:=first | rfl | decide) only [R7.an] at f7);have F8:∃ g,(xs 8)=.slice (some ⟨g,0,none⟩) 1 1/\W1.heap.size<=g/\x2.heap[g]?=some (.cells #[.int .i64 0,.bool false,.slice none 0 0,.string ⟨#[]⟩,.slice none 0 0] 29 (0,0)):=hf 8 (by decide);have hb0:aA 0 W1 x2:=cm (iY 0 (au _) (fun _ _=>au _));have mP:∀ j,j<W1.heap.size->(∀ q,q<0->(fun q=>0) q≠j)->x2.heap[j]?=W1.heap[j]?:=dw;clear iY dw hf;have hb:aA W1.heap.size W1 x2:=⟨hb0.os,hb0.tape,hb0.output,hb0.size,fun q hq=>mP q hq (fun q h=>absurd h (ay _))⟩;obtain⟨y,t,SL,Hs,SD,LC,SE⟩:=F6;have bO:=aa LC;have Hu:=And.intro SD SE;obtain⟨gz,SK,ON,IY⟩:=F8;unfold R7.Rest;simp only[R7.fill,Jo,Jn,Jm,Jl,GG,GF,GD,SL,SK,fV,f0,f1,f2,f3,f4,f5,f7]
  clear hb0 mP ik SL SK SD SE LC C4 C3 C5 f0 f1 f2 f3 f4 f5 f7;have wI:=aa (HW.out.trans (hb.mono HW.out.size));have v_:=HW.out.size;have C1:=oX.out.row.below wI.out;have Qt:B<=x2.heap.size:=ah oX.out.sz wI.out.size;rw[<-HN.out] at C1;refine cS [9] (by kernel_rfl) (by simp) (fun i hi=>?_);obtain rfl:i=9:=by simpa using hi
  refine⟨_,rfl,rfl,fun K hK=>?_⟩;refine A' C1 (.tmp 20) (.tmp 27) rfl rfl gz I_ rfl IY (by rw[<-HN.out];omega) Qt (fun g4 cap w6 lu vZ KY Ib jG xY IW=>?_);rw[<-HN.out] at lu xY ⊢;refine hK.out _ _ ?_;clear hK K;have vU:=oX.out.low;have qN:=(KY.block ko vU.2.2.2).trans ((wI.out.block ko (ae kR.out)).trans kR.out);have hgg:B<=g4:=(lu.ge rfl).1;have ik:ko≠g4:=by omega
  have hcells:=fun (W:ag) (hW:∀ k,k<w6.heap.size->k≠ko->W.heap[k]?=w6.heap[k]?)=>CK lu HN.out ik hW
  have Tt:cap<=9223372036854775807:=IW;have hI:(n:Int)<(n:Int)+1:=by omega
  refine cS [10,12] (by kernel_rfl) (by simp) (fun i hi=>?_);rcases (by simpa using hi:i=10\/i=12) with rfl | rfl
  ·refine⟨_,rfl,rfl,fun K hK=>?_⟩;go_simp;refine hK.out _ _ ?_;clear hK K;refine cS [11,12] (by kernel_rfl) (by simp) (fun i hi=>?_);rcases (by simpa using hi:i=11\/i=12) with rfl | rfl
   ·refine⟨_,rfl,rfl,fun K hK=>?_⟩;obtain⟨⟨z0,z1,z2,z3,z4⟩,sF,sE,zz,zy,zw⟩:=hcells w6 (fun k h1 h2=>rfl);go_simp;obtain⟨qD,BN⟩:∃ q,q=lR w6 g4 n y:=⟨_,rfl⟩;change K _ (lR w6 g4 n y);rw[<-BN];refine hK.out _ _ ?_;clear hK K z0 z1 z2 z3 z4 sF sE zz zy zw;have gh:∀ k,k<w6.heap.size->k≠g4->qD.heap[k]?=w6.heap[k]?:=fun k h1 h2=>by rw[BN];exact (bB w6 g4 n y).block k h1 (fun e=>by injection e with e;exact h2 e)
    have Cf:=aa BN;clear BN;refine cS [12] (by kernel_rfl) (by simp) (fun i hi=>?_);obtain rfl:i=12:=by simpa using hi
    refine⟨_,rfl,rfl,fun K hK=>?_⟩;go_simp;refine hK.out _ _ ?_;clear hK K;refine cS [13] (by kernel_rfl) (by simp) (fun i hi=>?_);obtain rfl:i=13:=by simpa using hi
    refine⟨_,rfl,rfl,fun K hK=>?_⟩;have fy:=((gh ko (ae qN) ik).trans qN);have yU:=af (v:=.slice vo n vc) fy 4 rfl;have dM:=aP fy 4;go_simp;obtain⟨fu,lf⟩:∃ q,q=qD.setCell ⟨ko,4,none⟩ (.slice (some ⟨g4,0,none⟩) (n+1) cap):=⟨_,rfl⟩;rw[<-lf];refine hK.out _ _ ?_;clear hK K yU dM;have lz:fu.heap[ko]?=some (.cells #[.int .i64 op,.bool sg,.slice ao l c,.string nm,.slice (some ⟨g4,0,none⟩) (n+1) cap] 29 (0,0)):=by rw[lf];exact aC _ ko 4 _ _ _ fy
    have hgB:qD.grownBy fu (some ko):=by rw[lf];exact aF (aI _ _) _
    have ig:∀ k,k<qD.heap.size->k≠ko->fu.heap[k]?=qD.heap[k]?:=fun k h1 h2=>hgB.block k h1 (fun e=>by injection e with e;exact h2 e)
    clear lf;refine⟨by kernel_rfl,?_⟩;obtain⟨KI,zq⟩:=Row.uP lu n (by simp[<-HN.out]) (by simp[<-HN.out]) y Cf.out;have ru:Fr 29 qD fu:=.aL hgB (fun j hj=>by injection hj with hj;subst hj;exact⟨_,fy,cH⟩);have si:=KI.js hgB (fun j hj e=>ik (by have A7:g4=j:=(by simpa [eZ] using hj);omega)) ru trivial;have xN:=lz;have oA:w6.heap.size<=fu.heap.size:=ah (by rw[Cf.out];exact (bB w6 g4 n y).size) hgB.size;have jt:∀ k,k<w6.heap.size->k≠g4->k≠ko->fu.heap[k]?=w6.heap[k]?:=fun k h1 h2 h3=>(ig k (az h1 (by rw[Cf.out];exact (bB w6 g4 n y).size)) h3).trans (gh k h1 h2)
    have oC:KN w6 fu:=(KN.gS zq).trans (KN.gS ru);have mM:w6.grownBy qD (some g4):=by rw[Cf.out];exact bB _ _ _ _
    have m_:fu.os=w6.os/\fu.tape=w6.tape/\fu.output=w6.output:=⟨hgB.os.trans mM.os,hgB.tape.trans mM.tape,hgB.output.trans mM.output⟩;rw[iQ us y HN.out] at si;go_end0;have hN:=HN.out;subst hN;exact⟨⟨_,rfl⟩,t,_,_,bO.out,oX.out.next wI.out v_ Hs Hu vZ Ib jG si xN jt oC m_.1 m_.2.1 m_.2.2 oA⟩
   refine⟨_,rfl,rfl,fun K hK=>?_⟩;go_simp;refine hK.out _ _ ?_;clear hK K;refine cS [11,13] (by kernel_rfl) (by simp) (fun i hi=>?_);rcases (by simpa using hi:i=11\/i=13) with rfl | rfl
   ·refine⟨_,rfl,rfl,fun K hK=>?_⟩;obtain⟨⟨z0,z1,z2,z3,z4⟩,sF,sE,zz,zy,zw⟩:=hcells w6 (fun k h1 h2=>rfl);go_simp;obtain⟨iJ,qM⟩:∃ q,q=lR w6 g4 n y:=⟨_,rfl⟩;change K _ (lR w6 g4 n y);rw[<-qM];refine hK.out _ _ ?_;clear hK K z0 z1 z2 z3 z4 sF sE zz zy zw;have gh:∀ k,k<w6.heap.size->k≠g4->iJ.heap[k]?=w6.heap[k]?:=fun k h1 h2=>by rw[qM];exact (bB w6 g4 n y).block k h1 (fun e=>by injection e with e;exact h2 e)
    have qX:=aa qM;clear qM;refine cS [13] (by kernel_rfl) (by simp) (fun i hi=>?_);obtain rfl:i=13:=by simpa using hi
    refine⟨_,rfl,rfl,fun K hK=>?_⟩;have fy:=((gh ko (ae qN) ik).trans qN);have yU:=af (v:=.slice vo n vc) fy 4 rfl;have dM:=aP fy 4;go_simp;obtain⟨fu,lf⟩:∃ q,q=iJ.setCell ⟨ko,4,none⟩ (.slice (some ⟨g4,0,none⟩) (n+1) cap):=⟨_,rfl⟩;rw[<-lf];refine hK.out _ _ ?_;clear hK K yU dM;have lz:fu.heap[ko]?=some (.cells #[.int .i64 op,.bool sg,.slice ao l c,.string nm,.slice (some ⟨g4,0,none⟩) (n+1) cap] 29 (0,0)):=by rw[lf];exact aC _ ko 4 _ _ _ fy
    have hgB:iJ.grownBy fu (some ko):=by rw[lf];exact aF (aI _ _) _
    have ig:∀ k,k<iJ.heap.size->k≠ko->fu.heap[k]?=iJ.heap[k]?:=fun k h1 h2=>hgB.block k h1 (fun e=>by injection e with e;exact h2 e)
    clear lf;refine⟨by kernel_rfl,?_⟩;obtain⟨KI,zq⟩:=Row.uP lu n (by simp[<-HN.out]) (by simp[<-HN.out]) y qX.out;have ru:Fr 29 iJ fu:=.aL hgB (fun j hj=>by injection hj with hj;subst hj;exact⟨_,fy,cH⟩);have si:=KI.js hgB (fun j hj e=>ik (by have A7:g4=j:=(by simpa [eZ] using hj);omega)) ru trivial;have xN:=lz;have oA:w6.heap.size<=fu.heap.size:=ah (by rw[qX.out];exact (bB w6 g4 n y).size) hgB.size;have jt:∀ k,k<w6.heap.size->k≠g4->k≠ko->fu.heap[k]?=w6.heap[k]?:=fun k h1 h2 h3=>(ig k (az h1 (by rw[qX.out];exact (bB w6 g4 n y).size)) h3).trans (gh k h1 h2)
    have oC:KN w6 fu:=(KN.gS zq).trans (KN.gS ru);have mM:w6.grownBy iJ (some g4):=by rw[qX.out];exact bB _ _ _ _
    have m_:fu.os=w6.os/\fu.tape=w6.tape/\fu.output=w6.output:=⟨hgB.os.trans mM.os,hgB.tape.trans mM.tape,hgB.output.trans mM.output⟩;rw[iQ us y HN.out] at si;go_end0;have hN:=HN.out;subst hN;exact⟨⟨_,rfl⟩,t,_,_,bO.out,oX.out.next wI.out v_ Hs Hu vZ Ib jG si xN jt oC m_.1 m_.2.1 m_.2.2 oA⟩
   refine⟨_,rfl,rfl,fun K hK=>?_⟩;have fy:=qN;have yU:=af (v:=.slice vo n vc) fy 4 rfl;have dM:=aP fy 4;go_simp;obtain⟨iJ,qL⟩:∃ q,q=w6.setCell ⟨ko,4,none⟩ (.slice (some ⟨g4,0,none⟩) (n+1) cap):=⟨_,rfl⟩;rw[<-qL];refine hK.out _ _ ?_;clear hK K yU dM;have lz:iJ.heap[ko]?=some (.cells #[.int .i64 op,.bool sg,.slice ao l c,.string nm,.slice (some ⟨g4,0,none⟩) (n+1) cap] 29 (0,0)):=by rw[qL];exact aC _ ko 4 _ _ _ fy
   have hgB:w6.grownBy iJ (some ko):=by rw[qL];exact aF (aI _ _) _
   have ig:∀ k,k<w6.heap.size->k≠ko->iJ.heap[k]?=w6.heap[k]?:=fun k h1 h2=>hgB.block k h1 (fun e=>by injection e with e;exact h2 e)
   clear qL;refine cS [11] (by kernel_rfl) (by simp) (fun i hi=>?_);obtain rfl:i=11:=by simpa using hi
   refine⟨_,rfl,rfl,fun K hK=>?_⟩;obtain⟨⟨z0,z1,z2,z3,z4⟩,sF,sE,zz,zy,zw⟩:=hcells iJ ig;go_simp;obtain⟨fu,lg⟩:∃ q,q=lR iJ g4 n y:=⟨_,rfl⟩;change K _ (lR iJ g4 n y);rw[<-lg];refine hK.out _ _ ?_;clear hK K z0 z1 z2 z3 z4 sF sE zz zy zw;have gh:∀ k,k<iJ.heap.size->k≠g4->fu.heap[k]?=iJ.heap[k]?:=fun k h1 h2=>by rw[lg];exact (bB iJ g4 n y).block k h1 (fun e=>by injection e with e;exact h2 e)
   have sN:=aa lg;clear lg;refine⟨by kernel_rfl,?_⟩;have ru:Fr 29 w6 iJ:=.aL hgB (fun j hj=>by injection hj with hj;subst hj;exact⟨_,fy,cH⟩);have KH:=lu.js hgB (fun j hj e=>ik (by have A7:g4=j:=(by simpa [eZ] using hj);omega)) ru trivial;obtain⟨si,zq⟩:=Row.uP KH n (by simp[<-HN.out]) (by simp[<-HN.out]) y sN.out;have mM:iJ.grownBy fu (some g4):=by rw[sN.out];exact bB _ _ _ _
   have xN:=(gh ko (ae lz) ik).trans lz;have oA:w6.heap.size<=fu.heap.size:=ah hgB.size mM.size;have jt:∀ k,k<w6.heap.size->k≠g4->k≠ko->fu.heap[k]?=w6.heap[k]?:=fun k h1 h2 h3=>(gh k (az h1 hgB.size) h2).trans (ig k h1 h3)
   have oC:KN w6 fu:=(KN.gS ru).trans (KN.gS zq);have m_:fu.os=w6.os/\fu.tape=w6.tape/\fu.output=w6.output:=⟨mM.os.trans hgB.os,mM.tape.trans hgB.tape,mM.output.trans hgB.output⟩;rw[iQ us y HN.out] at si;go_end0;have hN:=HN.out;subst hN;exact⟨⟨_,rfl⟩,t,_,_,bO.out,oX.out.next wI.out v_ Hs Hu vZ Ib jG si xN jt oC m_.1 m_.2.1 m_.2.2 oA⟩
  refine⟨_,rfl,rfl,fun K hK=>?_⟩;go_simp;refine hK.out _ _ ?_;clear hK K;refine cS [10,13] (by kernel_rfl) (by simp) (fun i hi=>?_);rcases (by simpa using hi:i=10\/i=13) with rfl | rfl
  ·refine⟨_,rfl,rfl,fun K hK=>?_⟩;go_simp;refine hK.out _ _ ?_;clear hK K;refine cS [11,13] (by kernel_rfl) (by simp) (fun i hi=>?_);rcases (by simpa using hi:i=11\/i=13) with rfl | rfl
   ·refine⟨_,rfl,rfl,fun K hK=>?_⟩;obtain⟨⟨z0,z1,z2,z3,z4⟩,sF,sE,zz,zy,zw⟩:=hcells w6 (fun k h1 h2=>rfl);go_simp;obtain⟨iJ,qM⟩:∃ q,q=lR w6 g4 n y:=⟨_,rfl⟩;change K _ (lR w6 g4 n y);rw[<-qM];refine hK.out _ _ ?_;clear hK K z0 z1 z2 z3 z4 sF sE zz zy zw;have gh:∀ k,k<w6.heap.size->k≠g4->iJ.heap[k]?=w6.heap[k]?:=fun k h1 h2=>by rw[qM];exact (bB w6 g4 n y).block k h1 (fun e=>by injection e with e;exact h2 e)
    have qX:=aa qM;clear qM;refine cS [13] (by kernel_rfl) (by simp) (fun i hi=>?_);obtain rfl:i=13:=by simpa using hi
    refine⟨_,rfl,rfl,fun K hK=>?_⟩;have fy:=((gh ko (ae qN) ik).trans qN);have yU:=af (v:=.slice vo n vc) fy 4 rfl;have dM:=aP fy 4;go_simp;obtain⟨fu,lf⟩:∃ q,q=iJ.setCell ⟨ko,4,none⟩ (.slice (some ⟨g4,0,none⟩) (n+1) cap):=⟨_,rfl⟩;rw[<-lf];refine hK.out _ _ ?_;clear hK K yU dM;have lz:fu.heap[ko]?=some (.cells #[.int .i64 op,.bool sg,.slice ao l c,.string nm,.slice (some ⟨g4,0,none⟩) (n+1) cap] 29 (0,0)):=by rw[lf];exact aC _ ko 4 _ _ _ fy
    have hgB:iJ.grownBy fu (some ko):=by rw[lf];exact aF (aI _ _) _
    have ig:∀ k,k<iJ.heap.size->k≠ko->fu.heap[k]?=iJ.heap[k]?:=fun k h1 h2=>hgB.block k h1 (fun e=>by injection e with e;exact h2 e)
    clear lf;refine⟨by kernel_rfl,?_⟩;obtain⟨KI,zq⟩:=Row.uP lu n (by simp[<-HN.out]) (by simp[<-HN.out]) y qX.out;have ru:Fr 29 iJ fu:=.aL hgB (fun j hj=>by injection hj with hj;subst hj;exact⟨_,fy,cH⟩);have si:=KI.js hgB (fun j hj e=>ik (by have A7:g4=j:=(by simpa [eZ] using hj);omega)) ru trivial;have xN:=lz;have oA:w6.heap.size<=fu.heap.size:=ah (by rw[qX.out];exact (bB w6 g4 n y).size) hgB.size;have jt:∀ k,k<w6.heap.size->k≠g4->k≠ko->fu.heap[k]?=w6.heap[k]?:=fun k h1 h2 h3=>(ig k (az h1 (by rw[qX.out];exact (bB w6 g4 n y).size)) h3).trans (gh k h1 h2)
    have oC:KN w6 fu:=(KN.gS zq).trans (KN.gS ru);have mM:w6.grownBy iJ (some g4):=by rw[qX.out];exact bB _ _ _ _
    have m_:fu.os=w6.os/\fu.tape=w6.tape/\fu.output=w6.output:=⟨hgB.os.trans mM.os,hgB.tape.trans mM.tape,hgB.output.trans mM.output⟩;rw[iQ us y HN.out] at si;go_end0;have hN:=HN.out;subst hN;exact⟨⟨_,rfl⟩,t,_,_,bO.out,oX.out.next wI.out v_ Hs Hu vZ Ib jG si xN jt oC m_.1 m_.2.1 m_.2.2 oA⟩
   refine⟨_,rfl,rfl,fun K hK=>?_⟩;have fy:=qN;have yU:=af (v:=.slice vo n vc) fy 4 rfl;have dM:=aP fy 4;go_simp;obtain⟨iJ,qL⟩:∃ q,q=w6.setCell ⟨ko,4,none⟩ (.slice (some ⟨g4,0,none⟩) (n+1) cap):=⟨_,rfl⟩;rw[<-qL];refine hK.out _ _ ?_;clear hK K yU dM;have lz:iJ.heap[ko]?=some (.cells #[.int .i64 op,.bool sg,.slice ao l c,.string nm,.slice (some ⟨g4,0,none⟩) (n+1) cap] 29 (0,0)):=by rw[qL];exact aC _ ko 4 _ _ _ fy
   have hgB:w6.grownBy iJ (some ko):=by rw[qL];exact aF (aI _ _) _
   have ig:∀ k,k<w6.heap.size->k≠ko->iJ.heap[k]?=w6.heap[k]?:=fun k h1 h2=>hgB.block k h1 (fun e=>by injection e with e;exact h2 e)
   clear qL;refine cS [11] (by kernel_rfl) (by simp) (fun i hi=>?_);obtain rfl:i=11:=by simpa using hi
   refine⟨_,rfl,rfl,fun K hK=>?_⟩;obtain⟨⟨z0,z1,z2,z3,z4⟩,sF,sE,zz,zy,zw⟩:=hcells iJ ig;go_simp;obtain⟨fu,lg⟩:∃ q,q=lR iJ g4 n y:=⟨_,rfl⟩;change K _ (lR iJ g4 n y);rw[<-lg];refine hK.out _ _ ?_;clear hK K z0 z1 z2 z3 z4 sF sE zz zy zw;have gh:∀ k,k<iJ.heap.size->k≠g4->fu.heap[k]?=iJ.heap[k]?:=fun k h1 h2=>by rw[lg];exact (bB iJ g4 n y).block k h1 (fun e=>by injection e with e;exact h2 e)
   have sN:=aa lg;clear lg;refine⟨by kernel_rfl,?_⟩;have ru:Fr 29 w6 iJ:=.aL hgB (fun j hj=>by injection hj with hj;subst hj;exact⟨_,fy,cH⟩);have KH:=lu.js hgB (fun j hj e=>ik (by have A7:g4=j:=(by simpa [eZ] using hj);omega)) ru trivial;obtain⟨si,zq⟩:=Row.uP KH n (by simp[<-HN.out]) (by simp[<-HN.out]) y sN.out;have mM:iJ.grownBy fu (some g4):=by rw[sN.out];exact bB _ _ _ _
   have xN:=(gh ko (ae lz) ik).trans lz;have oA:w6.heap.size<=fu.heap.size:=ah hgB.size mM.size;have jt:∀ k,k<w6.heap.size->k≠g4->k≠ko->fu.heap[k]?=w6.heap[k]?:=fun k h1 h2 h3=>(gh k (az h1 hgB.size) h2).trans (ig k h1 h3)
   have oC:KN w6 fu:=(KN.gS ru).trans (KN.gS zq);have m_:fu.os=w6.os/\fu.tape=w6.tape/\fu.output=w6.output:=⟨mM.os.trans hgB.os,mM.tape.trans hgB.tape,mM.output.trans hgB.output⟩;rw[iQ us y HN.out] at si;go_end0;have hN:=HN.out;subst hN;exact⟨⟨_,rfl⟩,t,_,_,bO.out,oX.out.next wI.out v_ Hs Hu vZ Ib jG si xN jt oC m_.1 m_.2.1 m_.2.2 oA⟩
  refine⟨_,rfl,rfl,fun K hK=>?_⟩;have fy:=qN;have yU:=af (v:=.slice vo n vc) fy 4 rfl;have dM:=aP fy 4;go_simp;obtain⟨qD,BM⟩:∃ q,q=w6.setCell ⟨ko,4,none⟩ (.slice (some ⟨g4,0,none⟩) (n+1) cap):=⟨_,rfl⟩;rw[<-BM];refine hK.out _ _ ?_;clear hK K yU dM;have lz:qD.heap[ko]?=some (.cells #[.int .i64 op,.bool sg,.slice ao l c,.string nm,.slice (some ⟨g4,0,none⟩) (n+1) cap] 29 (0,0)):=by rw[BM];exact aC _ ko 4 _ _ _ fy
  have hgB:w6.grownBy qD (some ko):=by rw[BM];exact aF (aI _ _) _
  have ig:∀ k,k<w6.heap.size->k≠ko->qD.heap[k]?=w6.heap[k]?:=fun k h1 h2=>hgB.block k h1 (fun e=>by injection e with e;exact h2 e)
  clear BM;refine cS [10] (by kernel_rfl) (by simp) (fun i hi=>?_);obtain rfl:i=10:=by simpa using hi
  refine⟨_,rfl,rfl,fun K hK=>?_⟩;go_simp;refine hK.out _ _ ?_;clear hK K;refine cS [11] (by kernel_rfl) (by simp) (fun i hi=>?_);obtain rfl:i=11:=by simpa using hi
  refine⟨_,rfl,rfl,fun K hK=>?_⟩;obtain⟨⟨z0,z1,z2,z3,z4⟩,sF,sE,zz,zy,zw⟩:=hcells qD ig;go_simp;obtain⟨fu,lg⟩:∃ q,q=lR qD g4 n y:=⟨_,rfl⟩;change K _ (lR qD g4 n y);rw[<-lg];refine hK.out _ _ ?_;clear hK K z0 z1 z2 z3 z4 sF sE zz zy zw;have gh:∀ k,k<qD.heap.size->k≠g4->fu.heap[k]?=qD.heap[k]?:=fun k h1 h2=>by rw[lg];exact (bB qD g4 n y).block k h1 (fun e=>by injection e with e;exact h2 e)
  have sN:=aa lg;clear lg;refine⟨by kernel_rfl,?_⟩;have ru:Fr 29 w6 qD:=.aL hgB (fun j hj=>by injection hj with hj;subst hj;exact⟨_,fy,cH⟩);have KH:=lu.js hgB (fun j hj e=>ik (by have A7:g4=j:=(by simpa [eZ] using hj);omega)) ru trivial;obtain⟨si,zq⟩:=Row.uP KH n (by simp[<-HN.out]) (by simp[<-HN.out]) y sN.out;have mM:qD.grownBy fu (some g4):=by rw[sN.out];exact bB _ _ _ _
  have xN:=(gh ko (ae lz) ik).trans lz;have oA:w6.heap.size<=fu.heap.size:=ah hgB.size mM.size;have jt:∀ k,k<w6.heap.size->k≠g4->k≠ko->fu.heap[k]?=w6.heap[k]?:=fun k h1 h2 h3=>(gh k (az h1 hgB.size) h2).trans (ig k h1 h3)
  have oC:KN w6 fu:=(KN.gS ru).trans (KN.gS zq);have m_:fu.os=w6.os/\fu.tape=w6.tape/\fu.output=w6.output:=⟨mM.os.trans hgB.os,mM.tape.trans hgB.tape,mM.output.trans hgB.output⟩;rw[iQ us y HN.out] at si;go_end0;have hN:=HN.out;subst hN;exact⟨⟨_,rfl⟩,t,_,_,bO.out,oX.out.next wI.out v_ Hs Hu vZ Ib jG si xN jt oC m_.1 m_.2.1 m_.2.2 oA⟩
 have qO:¬ ((i:Nat):Int)<((fT:Nat):Int):=by omega
 have kV:=aa oX.out.be;have X':Hid (pg w d Wi):=aa (JG w d);go_upto_region 3 with fail;clear f0 oV f1 oU f2 oS f3 oQ f4 oP;have C4:=ae bU.out;have C3:=ae LK.out;have C5:=ae cg.out;have ik:Hid (∀ q,q<0->(fun q=>0) q<x1.heap.size):=aa (fun q h=>absurd h (ay _));refine R7.region (by kernel_rfl) [[],[0],[],[],[],[4],[2,3,4,5],[0,1],[],[0,1,2,3,4,5,6,7,8],[0,1,2,3,4,5,6,7,8,9],[0,1,2,3,4,5,6,7,8,9,10],[0,1,2,3,4,5,6,7,8,9],[0,1,2,3,4,5,6,7,8,9,12]] [] [] (fun q=>0) 0 9 (by kernel_rfl) (by kernel_rfl) (by rfl) ik.out (fun q q' h h' hn=>absurd hn (by omega)) ?_;refine R7.aB.da ?_ (by rfl) (fun T xs wr hA=>?_) ?_;rotate_left 1
 ·have e3:=hA.pre 3 (by kernel_rfl);simp only[g_,iC,iz] at e3;clear hA;refine⟨(by rfl),?_⟩;go_simp<;>(try with_reducible rfl)
 refine R7.aB.da ?_ (by rfl) (fun T xs wr hA=>?_) ?_;rotate_left 1
 ·have Dh:=hA.tm 0 19 (by rfl) (by rfl);have f19:xs 0=_:=hA.fa 0 (by rfl);(try simp (disch:=first | rfl | decide) only [R7.an] at f19);rw[f19] at Dh;clear f19;have bx:wr.heap[ko]?=_:=(hA.bl _ C4 (fun q h=>absurd h (ay _))).trans bU.out;have q0:=af (v:=.int .i64 op) bx 0 rfl;have q1:=af (v:=.bool sg) bx 1 rfl;have q2:=af (v:=.slice ao l c) bx 2 rfl;have q3:=af (v:=.string nm) bx 3 rfl;have q4:=af (v:=.slice vo n vc) bx 4 rfl;clear bx;clear hA;refine⟨(by rfl),?_⟩;go_simp<;>(try with_reducible rfl)
 refine R7.aB.da ?_ (by rfl) (fun T xs wr hA=>?_) ?_;rotate_left 1
 ·have e7:=hA.pre 7 (by kernel_rfl);simp only[g_,iC,iz] at e7;have bx:wr.heap[kx]?=_:=(hA.bl _ C3 (fun q h=>absurd h (ay _))).trans LK.out;have q0:=af (v:=.int .i64 0) bx 0 rfl;have q1:=af (v:=.bool false) bx 1 rfl;have q2:=af (v:=.slice none 0 0) bx 2 rfl;have q3:=af (v:=.string ⟨#[]⟩) bx 3 rfl;have q4:=af (v:=.slice none 0 0) bx 4 rfl;clear bx;clear hA;refine⟨(by rfl),?_⟩;go_simp<;>(try with_reducible rfl)
 refine R7.aB.da ?_ (by rfl) (fun T xs wr hA=>?_) ?_;rotate_left 1
 ·have e1:=hA.pre 1 (by kernel_rfl);simp only[g_,iC,iz] at e1;clear hA;refine⟨(by rfl),?_⟩;go_simp<;>(try with_reducible rfl)
 refine R7.aB.da ?_ (by rfl) (fun T xs wr hA=>?_) ?_;rotate_left 1
 ·have e4:=hA.pre 4 (by kernel_rfl);simp only[g_,iC,iz] at e4;have bx:wr.heap[kd]?=_:=(hA.bl _ C5 (fun q h=>absurd h (ay _))).trans cg.out;have q0:=af (v:=.int .i64 ((d:Nat)+1:Int)) bx 0 rfl;clear bx;clear hA;refine⟨(by rfl),?_⟩;go_simp<;>(try with_reducible rfl)
 refine R7.aB.da ?_ (by rfl) (fun T xs wr hA=>?_) ?_;rotate_left 1
 ·have Li:=hA.tm 4 23 (by rfl) (by rfl);have f23:xs 4=_:=hA.fa 4 (by rfl);(try simp (disch:=first | rfl | decide) only [R7.an] at f23);rw[f23] at Li;clear f23;clear hA;refine⟨(by rfl),?_⟩;go_simp<;>(try with_reducible rfl)
 refine R7.aB.call (fun xs v w=>∃ y t,v=fV y/\FT w (fun b=>x1.heap.size<=b) d y t/\rt t=true/\eI t.op=s/\Tm d t) (fun _ _ _ _ h hb=>by obtain⟨y,t,h1,h2,h3⟩:=h;exact⟨y,t,h1,h2.below hb,h3⟩) (fun _ _ _ _ _ _ h _=>by obtain⟨q,hq,_⟩:=h;exact absurd hq (ay _)) (by rfl) (fun T xs wr hA=>?_) ?_
 ·have th:=(hA.be 0 (au _) (fun _ _=>au _)).size;have L_:=hA.tm 2 21 (by rfl) (by rfl);have f21:xs 2=_:=hA.fa 2 (by rfl);(try simp (disch:=first | rfl | decide) only [R7.an] at f21);rw[f21] at L_;clear f21;have L9:=hA.tm 3 22 (by rfl) (by rfl);have f22:xs 3=_:=hA.fa 3 (by rfl);(try simp (disch:=first | rfl | decide) only [R7.an] at f22);rw[f22] at L9;clear f22;have I1:=hA.tm 5 24 (by rfl) (by rfl);have f24:xs 5=_:=hA.fa 5 (by rfl);(try simp (disch:=first | rfl | decide) only [R7.an] at f24);rw[f24] at I1;clear f24;have kD:=cm (hA.be x1.heap.size (ai _) (fun q h=>absurd h (ay q)));have P8:=X'.out.below ((kV.out.trans (HW.out.mono kV.out.size)).trans (kD.mono (ah kV.out.size HW.out.size)));clear hA
  refine⟨(by rfl),fun K hK=>?_⟩;go_simp;refine (wH.out s _ _ _ _ _ _ _ _ _ _ HSS.out P8).mono ?_;rintro e w' ⟨q,t,rfl,⟨y,rfl,hy⟩,h2,h3,h4,hb'⟩;exact hK.out _ _ ⟨y,t,rfl,hy.mono (fun b hb=>ah kD.size hb),h2,h3,h4⟩ hb'
 refine R7.aB.da ?_ (by rfl) (fun T xs wr hA=>?_) ?_;rotate_left 1
 ·have Lj:=hA.tm 1 20 (by rfl) (by rfl);have f20:xs 1=_:=hA.fa 1 (by rfl);(try simp (disch:=first | rfl | decide) only [R7.an] at f20);rw[f20] at Lj;clear f20;clear hA;refine⟨(by rfl),?_⟩;go_simp<;>(try with_reducible rfl)
 refine R7.aB.call (fun xs v w=>∃ g,v=.slice (some ⟨g,0,none⟩) 1 1/\x1.heap.size<=g/\w.heap[g]?=some (.cells #[.int .i64 0,.bool false,.slice none 0 0,.string ⟨#[]⟩,.slice none 0 0] 29 (0,0))) (fun _ _ _ _ ⟨g,hv,hl,hg⟩ hb=>⟨g,hv,hl,by rw[hb.block g (Array.getElem?_eq_some_iff.1 hg).1];exact hg⟩) (fun _ _ _ _ _ ⟨g,hv,hl,hg⟩ ⟨q,hq,e⟩ hp=>⟨g,hv,hl,by rw[hp.block g (Array.getElem?_eq_some_iff.1 hg).1 (fun h=>by have:=ik.out q hq;omega)];exact hg⟩) (by rfl) (fun T xs wr hA=>?_) ?_
 ·have th:=(hA.be 0 (au _) (fun _ _=>au _)).size;clear hA;refine⟨(by rfl),fun K hK=>?_⟩;go_simp;exact hK.out _ _ ⟨_,rfl,th,by simpa using dh wr _ _ rfl⟩ ((ax _ _).alloc (ai _) _)
 refine R7.aB.done (fun xs x2 hL=>?_);obtain⟨⟨iY,dw⟩,hf,-,-⟩:=hL;have f0:xs 0=_:=hf 0 (by decide);(try simp (disch:=first | rfl | decide) only [R7.an] at f0);have f1:xs 1=_:=hf 1 (by decide);(try simp (disch:=first | rfl | decide) only [R7.an] at f1);have f2:xs 2=_:=hf 2 (by decide);(try simp (disch:=first | rfl | decide) only [R7.an] at f2);have f3:xs 3=_:=hf 3 (by decide);(try simp (disch:=first | rfl | decide) only [R7.an] at f3);have f4:xs 4=_:=hf 4 (by decide);(try simp (disch:=first | rfl | decide) only [R7.an] at f4);have f5:xs 5=_:=hf 5 (by decide);(try simp (disch:=first | rfl | decide) only [R7.an] at f5);have F6:∃ y t,(xs 6)=fV y/\FT x2 (fun b=>x1.heap.size<=b) d y t/\rt t=true/\eI t.op=s/\Tm d t:=hf 6 (by decide);have f7:xs 7=_:=hf 7 (by decide)
 (try simp (disch:=first | rfl | decide) only [R7.an] at f7);have F8:∃ g,(xs 8)=.slice (some ⟨g,0,none⟩) 1 1/\x1.heap.size<=g/\x2.heap[g]?=some (.cells #[.int .i64 0,.bool false,.slice none 0 0,.string ⟨#[]⟩,.slice none 0 0] 29 (0,0)):=hf 8 (by decide);have hb0:aA 0 x1 x2:=cm (iY 0 (au _) (fun _ _=>au _));have mP:∀ j,j<x1.heap.size->(∀ q,q<0->(fun q=>0) q≠j)->x2.heap[j]?=x1.heap[j]?:=dw;clear iY dw hf;have hb:aA x1.heap.size x1 x2:=⟨hb0.os,hb0.tape,hb0.output,hb0.size,fun q hq=>mP q hq (fun q h=>absurd h (ay _))⟩;obtain⟨y,t,SL,Hs,SD,LC,SE⟩:=F6;have bO:=aa LC;have Hu:=And.intro SD SE;obtain⟨gz,SK,ON,IY⟩:=F8;unfold R7.Rest;simp only[R7.fill,Jo,Jn,Jm,Jl,GG,GF,GD,SL,SK,fV,f0,f1,f2,f3,f4,f5,f7]
 clear hb0 mP ik SL SK SD SE LC C4 C3 C5 f0 f1 f2 f3 f4 f5 f7;have wI:=aa (HW.out.trans (hb.mono HW.out.size));have v_:=HW.out.size;have C1:=oX.out.row.below wI.out;have Qt:B<=x2.heap.size:=ah oX.out.sz wI.out.size;rw[<-HN.out] at C1;refine cS [9] (by kernel_rfl) (by simp) (fun i hi=>?_);obtain rfl:i=9:=by simpa using hi
 refine⟨_,rfl,rfl,fun K hK=>?_⟩;refine A' C1 (.tmp 20) (.tmp 27) rfl rfl gz I_ rfl IY (by rw[<-HN.out];omega) Qt (fun g4 cap w6 lu vZ KY Ib jG xY IW=>?_);rw[<-HN.out] at lu xY ⊢;refine hK.out _ _ ?_;clear hK K;have vU:=oX.out.low;have qN:=(KY.block ko vU.2.2.2).trans ((wI.out.block ko (ae kR.out)).trans kR.out);have hgg:B<=g4:=(lu.ge rfl).1;have ik:ko≠g4:=by omega
 have hcells:=fun (W:ag) (hW:∀ k,k<w6.heap.size->k≠ko->W.heap[k]?=w6.heap[k]?)=>CK lu HN.out ik hW
 have Tt:cap<=9223372036854775807:=IW;have hI:(n:Int)<(n:Int)+1:=by omega
 refine cS [10,12] (by kernel_rfl) (by simp) (fun i hi=>?_);rcases (by simpa using hi:i=10\/i=12) with rfl | rfl
 ·refine⟨_,rfl,rfl,fun K hK=>?_⟩;go_simp;refine hK.out _ _ ?_;clear hK K;refine cS [11,12] (by kernel_rfl) (by simp) (fun i hi=>?_);rcases (by simpa using hi:i=11\/i=12) with rfl | rfl
  ·refine⟨_,rfl,rfl,fun K hK=>?_⟩;obtain⟨⟨z0,z1,z2,z3,z4⟩,sF,sE,zz,zy,zw⟩:=hcells w6 (fun k h1 h2=>rfl);go_simp;obtain⟨qD,BN⟩:∃ q,q=lR w6 g4 n y:=⟨_,rfl⟩;change K _ (lR w6 g4 n y);rw[<-BN];refine hK.out _ _ ?_;clear hK K z0 z1 z2 z3 z4 sF sE zz zy zw;have gh:∀ k,k<w6.heap.size->k≠g4->qD.heap[k]?=w6.heap[k]?:=fun k h1 h2=>by rw[BN];exact (bB w6 g4 n y).block k h1 (fun e=>by injection e with e;exact h2 e)
   have Cf:=aa BN;clear BN;refine cS [12] (by kernel_rfl) (by simp) (fun i hi=>?_);obtain rfl:i=12:=by simpa using hi
   refine⟨_,rfl,rfl,fun K hK=>?_⟩;go_simp;refine hK.out _ _ ?_;clear hK K;refine cS [13] (by kernel_rfl) (by simp) (fun i hi=>?_);obtain rfl:i=13:=by simpa using hi
   refine⟨_,rfl,rfl,fun K hK=>?_⟩;have fy:=((gh ko (ae qN) ik).trans qN);have yU:=af (v:=.slice vo n vc) fy 4 rfl;have dM:=aP fy 4;go_simp;obtain⟨fu,lf⟩:∃ q,q=qD.setCell ⟨ko,4,none⟩ (.slice (some ⟨g4,0,none⟩) (n+1) cap):=⟨_,rfl⟩;rw[<-lf];refine hK.out _ _ ?_;clear hK K yU dM;have lz:fu.heap[ko]?=some (.cells #[.int .i64 op,.bool sg,.slice ao l c,.string nm,.slice (some ⟨g4,0,none⟩) (n+1) cap] 29 (0,0)):=by rw[lf];exact aC _ ko 4 _ _ _ fy
   have hgB:qD.grownBy fu (some ko):=by rw[lf];exact aF (aI _ _) _
   have ig:∀ k,k<qD.heap.size->k≠ko->fu.heap[k]?=qD.heap[k]?:=fun k h1 h2=>hgB.block k h1 (fun e=>by injection e with e;exact h2 e)
   clear lf;refine⟨by kernel_rfl,?_⟩;obtain⟨KI,zq⟩:=Row.uP lu n (by simp[<-HN.out]) (by simp[<-HN.out]) y Cf.out;have ru:Fr 29 qD fu:=.aL hgB (fun j hj=>by injection hj with hj;subst hj;exact⟨_,fy,cH⟩);have si:=KI.js hgB (fun j hj e=>ik (by have A7:g4=j:=(by simpa [eZ] using hj);omega)) ru trivial;have xN:=lz;have oA:w6.heap.size<=fu.heap.size:=ah (by rw[Cf.out];exact (bB w6 g4 n y).size) hgB.size;have jt:∀ k,k<w6.heap.size->k≠g4->k≠ko->fu.heap[k]?=w6.heap[k]?:=fun k h1 h2 h3=>(ig k (az h1 (by rw[Cf.out];exact (bB w6 g4 n y).size)) h3).trans (gh k h1 h2)
   have oC:KN w6 fu:=(KN.gS zq).trans (KN.gS ru);have mM:w6.grownBy qD (some g4):=by rw[Cf.out];exact bB _ _ _ _
   have m_:fu.os=w6.os/\fu.tape=w6.tape/\fu.output=w6.output:=⟨hgB.os.trans mM.os,hgB.tape.trans mM.tape,hgB.output.trans mM.output⟩;rw[iQ us y HN.out] at si;go_end0;have hN:=HN.out;subst hN;exact⟨⟨_,rfl⟩,t,_,_,bO.out,oX.out.next wI.out v_ Hs Hu vZ Ib jG si xN jt oC m_.1 m_.2.1 m_.2.2 oA⟩
  refine⟨_,rfl,rfl,fun K hK=>?_⟩;go_simp;refine hK.out _ _ ?_;clear hK K;refine cS [11,13] (by kernel_rfl) (by simp) (fun i hi=>?_);rcases (by simpa using hi:i=11\/i=13) with rfl | rfl
  ·refine⟨_,rfl,rfl,fun K hK=>?_⟩;obtain⟨⟨z0,z1,z2,z3,z4⟩,sF,sE,zz,zy,zw⟩:=hcells w6 (fun k h1 h2=>rfl);go_simp;obtain⟨iJ,qM⟩:∃ q,q=lR w6 g4 n y:=⟨_,rfl⟩;change K _ (lR w6 g4 n y);rw[<-qM];refine hK.out _ _ ?_;clear hK K z0 z1 z2 z3 z4 sF sE zz zy zw;have gh:∀ k,k<w6.heap.size->k≠g4->iJ.heap[k]?=w6.heap[k]?:=fun k h1 h2=>by rw[qM];exact (bB w6 g4 n y).block k h1 (fun e=>by injection e with e;exact h2 e)
   have qX:=aa qM;clear qM;refine cS [13] (by kernel_rfl) (by simp) (fun i hi=>?_);obtain rfl:i=13:=by simpa using hi
   refine⟨_,rfl,rfl,fun K hK=>?_⟩;have fy:=((gh ko (ae qN) ik).trans qN);have yU:=af (v:=.slice vo n vc) fy 4 rfl;have dM:=aP fy 4;go_simp;obtain⟨fu,lf⟩:∃ q,q=iJ.setCell ⟨ko,4,none⟩ (.slice (some ⟨g4,0,none⟩) (n+1) cap):=⟨_,rfl⟩;rw[<-lf];refine hK.out _ _ ?_;clear hK K yU dM;have lz:fu.heap[ko]?=some (.cells #[.int .i64 op,.bool sg,.slice ao l c,.string nm,.slice (some ⟨g4,0,none⟩) (n+1) cap] 29 (0,0)):=by rw[lf];exact aC _ ko 4 _ _ _ fy
   have hgB:iJ.grownBy fu (some ko):=by rw[lf];exact aF (aI _ _) _
   have ig:∀ k,k<iJ.heap.size->k≠ko->fu.heap[k]?=iJ.heap[k]?:=fun k h1 h2=>hgB.block k h1 (fun e=>by injection e with e;exact h2 e)
   clear lf;refine⟨by kernel_rfl,?_⟩;obtain⟨KI,zq⟩:=Row.uP lu n (by simp[<-HN.out]) (by simp[<-HN.out]) y qX.out;have ru:Fr 29 iJ fu:=.aL hgB (fun j hj=>by injection hj with hj;subst hj;exact⟨_,fy,cH⟩);have si:=KI.js hgB (fun j hj e=>ik (by have A7:g4=j:=(by simpa [eZ] using hj);omega)) ru trivial;have xN:=lz;have oA:w6.heap.size<=fu.heap.size:=ah (by rw[qX.out];exact (bB w6 g4 n y).size) hgB.size;have jt:∀ k,k<w6.heap.size->k≠g4->k≠ko->fu.heap[k]?=w6.heap[k]?:=fun k h1 h2 h3=>(ig k (az h1 (by rw[qX.out];exact (bB w6 g4 n y).size)) h3).trans (gh k h1 h2)
   have oC:KN w6 fu:=(KN.gS zq).trans (KN.gS ru);have mM:w6.grownBy iJ (some g4):=by rw[qX.out];exact bB _ _ _ _
   have m_:fu.os=w6.os/\fu.tape=w6.tape/\fu.output=w6.output:=⟨hgB.os.trans mM.os,hgB.tape.trans mM.tape,hgB.output.trans mM.output⟩;rw[iQ us y HN.out] at si;go_end0;have hN:=HN.out;subst hN;exact⟨⟨_,rfl⟩,t,_,_,bO.out,oX.out.next wI.out v_ Hs Hu vZ Ib jG si xN jt oC m_.1 m_.2.1 m_.2.2 oA⟩
  refine⟨_,rfl,rfl,fun K hK=>?_⟩;have fy:=qN;have yU:=af (v:=.slice vo n vc) fy 4 rfl;have dM:=aP fy 4;go_simp;obtain⟨iJ,qL⟩:∃ q,q=w6.setCell ⟨ko,4,none⟩ (.slice (some ⟨g4,0,none⟩) (n+1) cap):=⟨_,rfl⟩;rw[<-qL];refine hK.out _ _ ?_;clear hK K yU dM;have lz:iJ.heap[ko]?=some (.cells #[.int .i64 op,.bool sg,.slice ao l c,.string nm,.slice (some ⟨g4,0,none⟩) (n+1) cap] 29 (0,0)):=by rw[qL];exact aC _ ko 4 _ _ _ fy
  have hgB:w6.grownBy iJ (some ko):=by rw[qL];exact aF (aI _ _) _
  have ig:∀ k,k<w6.heap.size->k≠ko->iJ.heap[k]?=w6.heap[k]?:=fun k h1 h2=>hgB.block k h1 (fun e=>by injection e with e;exact h2 e)
  clear qL;refine cS [11] (by kernel_rfl) (by simp) (fun i hi=>?_);obtain rfl:i=11:=by simpa using hi
  refine⟨_,rfl,rfl,fun K hK=>?_⟩;obtain⟨⟨z0,z1,z2,z3,z4⟩,sF,sE,zz,zy,zw⟩:=hcells iJ ig;go_simp;obtain⟨fu,lg⟩:∃ q,q=lR iJ g4 n y:=⟨_,rfl⟩;change K _ (lR iJ g4 n y);rw[<-lg];refine hK.out _ _ ?_;clear hK K z0 z1 z2 z3 z4 sF sE zz zy zw;have gh:∀ k,k<iJ.heap.size->k≠g4->fu.heap[k]?=iJ.heap[k]?:=fun k h1 h2=>by rw[lg];exact (bB iJ g4 n y).block k h1 (fun e=>by injection e with e;exact h2 e)
  have sN:=aa lg;clear lg;refine⟨by kernel_rfl,?_⟩;have ru:Fr 29 w6 iJ:=.aL hgB (fun j hj=>by injection hj with hj;subst hj;exact⟨_,fy,cH⟩);have KH:=lu.js hgB (fun j hj e=>ik (by have A7:g4=j:=(by simpa [eZ] using hj);omega)) ru trivial;obtain⟨si,zq⟩:=Row.uP KH n (by simp[<-HN.out]) (by simp[<-HN.out]) y sN.out;have mM:iJ.grownBy fu (some g4):=by rw[sN.out];exact bB _ _ _ _
  have xN:=(gh ko (ae lz) ik).trans lz;have oA:w6.heap.size<=fu.heap.size:=ah hgB.size mM.size;have jt:∀ k,k<w6.heap.size->k≠g4->k≠ko->fu.heap[k]?=w6.heap[k]?:=fun k h1 h2 h3=>(gh k (az h1 hgB.size) h2).trans (ig k h1 h3)
  have oC:KN w6 fu:=(KN.gS ru).trans (KN.gS zq);have m_:fu.os=w6.os/\fu.tape=w6.tape/\fu.output=w6.output:=⟨mM.os.trans hgB.os,mM.tape.trans hgB.tape,mM.output.trans hgB.output⟩;rw[iQ us y HN.out] at si;go_end0;have hN:=HN.out;subst hN;exact⟨⟨_,rfl⟩,t,_,_,bO.out,oX.out.next wI.out v_ Hs Hu vZ Ib jG si xN jt oC m_.1 m_.2.1 m_.2.2 oA⟩
 refine⟨_,rfl,rfl,fun K hK=>?_⟩;go_simp;refine hK.out _ _ ?_;clear hK K;refine cS [10,13] (by kernel_rfl) (by simp) (fun i hi=>?_);rcases (by simpa using hi:i=10\/i=13) with rfl | rfl
 ·refine⟨_,rfl,rfl,fun K hK=>?_⟩;go_simp;refine hK.out _ _ ?_;clear hK K;refine cS [11,13] (by kernel_rfl) (by simp) (fun i hi=>?_);rcases (by simpa using hi:i=11\/i=13) with rfl | rfl
  ·refine⟨_,rfl,rfl,fun K hK=>?_⟩;obtain⟨⟨z0,z1,z2,z3,z4⟩,sF,sE,zz,zy,zw⟩:=hcells w6 (fun k h1 h2=>rfl);go_simp;obtain⟨iJ,qM⟩:∃ q,q=lR w6 g4 n y:=⟨_,rfl⟩;change K _ (lR w6 g4 n y);rw[<-qM];refine hK.out _ _ ?_;clear hK K z0 z1 z2 z3 z4 sF sE zz zy zw;have gh:∀ k,k<w6.heap.size->k≠g4->iJ.heap[k]?=w6.heap[k]?:=fun k h1 h2=>by rw[qM];exact (bB w6 g4 n y).block k h1 (fun e=>by injection e with e;exact h2 e)
   have qX:=aa qM;clear qM;refine cS [13] (by kernel_rfl) (by simp) (fun i hi=>?_);obtain rfl:i=13:=by simpa using hi
   refine⟨_,rfl,rfl,fun K hK=>?_⟩;have fy:=((gh ko (ae qN) ik).trans qN);have yU:=af (v:=.slice vo n vc) fy 4 rfl;have dM:=aP fy 4;go_simp;obtain⟨fu,lf⟩:∃ q,q=iJ.setCell ⟨ko,4,none⟩ (.slice (some ⟨g4,0,none⟩) (n+1) cap):=⟨_,rfl⟩;rw[<-lf];refine hK.out _ _ ?_;clear hK K yU dM;have lz:fu.heap[ko]?=some (.cells #[.int .i64 op,.bool sg,.slice ao l c,.string nm,.slice (some ⟨g4,0,none⟩) (n+1) cap] 29 (0,0)):=by rw[lf];exact aC _ ko 4 _ _ _ fy
   have hgB:iJ.grownBy fu (some ko):=by rw[lf];exact aF (aI _ _) _
   have ig:∀ k,k<iJ.heap.size->k≠ko->fu.heap[k]?=iJ.heap[k]?:=fun k h1 h2=>hgB.block k h1 (fun e=>by injection e with e;exact h2 e)
   clear lf;refine⟨by kernel_rfl,?_⟩;obtain⟨KI,zq⟩:=Row.uP lu n (by simp[<-HN.out]) (by simp[<-HN.out]) y qX.out;have ru:Fr 29 iJ fu:=.aL hgB (fun j hj=>by injection hj with hj;subst hj;exact⟨_,fy,cH⟩);have si:=KI.js hgB (fun j hj e=>ik (by have A7:g4=j:=(by simpa [eZ] using hj);omega)) ru trivial;have xN:=lz;have oA:w6.heap.size<=fu.heap.size:=ah (by rw[qX.out];exact (bB w6 g4 n y).size) hgB.size;have jt:∀ k,k<w6.heap.size->k≠g4->k≠ko->fu.heap[k]?=w6.heap[k]?:=fun k h1 h2 h3=>(ig k (az h1 (by rw[qX.out];exact (bB w6 g4 n y).size)) h3).trans (gh k h1 h2)
   have oC:KN w6 fu:=(KN.gS zq).trans (KN.gS ru);have mM:w6.grownBy iJ (some g4):=by rw[qX.out];exact bB _ _ _ _
   have m_:fu.os=w6.os/\fu.tape=w6.tape/\fu.output=w6.output:=⟨hgB.os.trans mM.os,hgB.tape.trans mM.tape,hgB.output.trans mM.output⟩;rw[iQ us y HN.out] at si;go_end0;have hN:=HN.out;subst hN;exact⟨⟨_,rfl⟩,t,_,_,bO.out,oX.out.next wI.out v_ Hs Hu vZ Ib jG si xN jt oC m_.1 m_.2.1 m_.2.2 oA⟩
  refine⟨_,rfl,rfl,fun K hK=>?_⟩;have fy:=qN;have yU:=af (v:=.slice vo n vc) fy 4 rfl;have dM:=aP fy 4;go_simp;obtain⟨iJ,qL⟩:∃ q,q=w6.setCell ⟨ko,4,none⟩ (.slice (some ⟨g4,0,none⟩) (n+1) cap):=⟨_,rfl⟩;rw[<-qL];refine hK.out _ _ ?_;clear hK K yU dM;have lz:iJ.heap[ko]?=some (.cells #[.int .i64 op,.bool sg,.slice ao l c,.string nm,.slice (some ⟨g4,0,none⟩) (n+1) cap] 29 (0,0)):=by rw[qL];exact aC _ ko 4 _ _ _ fy
  have hgB:w6.grownBy iJ (some ko):=by rw[qL];exact aF (aI _ _) _
  have ig:∀ k,k<w6.heap.size->k≠ko->iJ.heap[k]?=w6.heap[k]?:=fun k h1 h2=>hgB.block k h1 (fun e=>by injection e with e;exact h2 e)
  clear qL;refine cS [11] (by kernel_rfl) (by simp) (fun i hi=>?_);obtain rfl:i=11:=by simpa using hi
  refine⟨_,rfl,rfl,fun K hK=>?_⟩;obtain⟨⟨z0,z1,z2,z3,z4⟩,sF,sE,zz,zy,zw⟩:=hcells iJ ig;go_simp;obtain⟨fu,lg⟩:∃ q,q=lR iJ g4 n y:=⟨_,rfl⟩;change K _ (lR iJ g4 n y);rw[<-lg];refine hK.out _ _ ?_;clear hK K z0 z1 z2 z3 z4 sF sE zz zy zw;have gh:∀ k,k<iJ.heap.size->k≠g4->fu.heap[k]?=iJ.heap[k]?:=fun k h1 h2=>by rw[lg];exact (bB iJ g4 n y).block k h1 (fun e=>by injection e with e;exact h2 e)
  have sN:=aa lg;clear lg;refine⟨by kernel_rfl,?_⟩;have ru:Fr 29 w6 iJ:=.aL hgB (fun j hj=>by injection hj with hj;subst hj;exact⟨_,fy,cH⟩);have KH:=lu.js hgB (fun j hj e=>ik (by have A7:g4=j:=(by simpa [eZ] using hj);omega)) ru trivial;obtain⟨si,zq⟩:=Row.uP KH n (by simp[<-HN.out]) (by simp[<-HN.out]) y sN.out;have mM:iJ.grownBy fu (some g4):=by rw[sN.out];exact bB _ _ _ _
  have xN:=(gh ko (ae lz) ik).trans lz;have oA:w6.heap.size<=fu.heap.size:=ah hgB.size mM.size;have jt:∀ k,k<w6.heap.size->k≠g4->k≠ko->fu.heap[k]?=w6.heap[k]?:=fun k h1 h2 h3=>(gh k (az h1 hgB.size) h2).trans (ig k h1 h3)
  have oC:KN w6 fu:=(KN.gS ru).trans (KN.gS zq);have m_:fu.os=w6.os/\fu.tape=w6.tape/\fu.output=w6.output:=⟨mM.os.trans hgB.os,mM.tape.trans hgB.tape,mM.output.trans hgB.output⟩;rw[iQ us y HN.out] at si;go_end0;have hN:=HN.out;subst hN;exact⟨⟨_,rfl⟩,t,_,_,bO.out,oX.out.next wI.out v_ Hs Hu vZ Ib jG si xN jt oC m_.1 m_.2.1 m_.2.2 oA⟩
 refine⟨_,rfl,rfl,fun K hK=>?_⟩;have fy:=qN;have yU:=af (v:=.slice vo n vc) fy 4 rfl;have dM:=aP fy 4;go_simp;obtain⟨qD,BM⟩:∃ q,q=w6.setCell ⟨ko,4,none⟩ (.slice (some ⟨g4,0,none⟩) (n+1) cap):=⟨_,rfl⟩;rw[<-BM];refine hK.out _ _ ?_;clear hK K yU dM;have lz:qD.heap[ko]?=some (.cells #[.int .i64 op,.bool sg,.slice ao l c,.string nm,.slice (some ⟨g4,0,none⟩) (n+1) cap] 29 (0,0)):=by rw[BM];exact aC _ ko 4 _ _ _ fy
 have hgB:w6.grownBy qD (some ko):=by rw[BM];exact aF (aI _ _) _
 have ig:∀ k,k<w6.heap.size->k≠ko->qD.heap[k]?=w6.heap[k]?:=fun k h1 h2=>hgB.block k h1 (fun e=>by injection e with e;exact h2 e)
 clear BM;refine cS [10] (by kernel_rfl) (by simp) (fun i hi=>?_);obtain rfl:i=10:=by simpa using hi
 refine⟨_,rfl,rfl,fun K hK=>?_⟩;go_simp;refine hK.out _ _ ?_;clear hK K;refine cS [11] (by kernel_rfl) (by simp) (fun i hi=>?_);obtain rfl:i=11:=by simpa using hi
 refine⟨_,rfl,rfl,fun K hK=>?_⟩;obtain⟨⟨z0,z1,z2,z3,z4⟩,sF,sE,zz,zy,zw⟩:=hcells qD ig;go_simp;obtain⟨fu,lg⟩:∃ q,q=lR qD g4 n y:=⟨_,rfl⟩;change K _ (lR qD g4 n y);rw[<-lg];refine hK.out _ _ ?_;clear hK K z0 z1 z2 z3 z4 sF sE zz zy zw;have gh:∀ k,k<qD.heap.size->k≠g4->fu.heap[k]?=qD.heap[k]?:=fun k h1 h2=>by rw[lg];exact (bB qD g4 n y).block k h1 (fun e=>by injection e with e;exact h2 e)
 have sN:=aa lg;clear lg;refine⟨by kernel_rfl,?_⟩;have ru:Fr 29 w6 qD:=.aL hgB (fun j hj=>by injection hj with hj;subst hj;exact⟨_,fy,cH⟩);have KH:=lu.js hgB (fun j hj e=>ik (by have A7:g4=j:=(by simpa [eZ] using hj);omega)) ru trivial;obtain⟨si,zq⟩:=Row.uP KH n (by simp[<-HN.out]) (by simp[<-HN.out]) y sN.out;have mM:qD.grownBy fu (some g4):=by rw[sN.out];exact bB _ _ _ _
 have xN:=(gh ko (ae lz) ik).trans lz;have oA:w6.heap.size<=fu.heap.size:=ah hgB.size mM.size;have jt:∀ k,k<w6.heap.size->k≠g4->k≠ko->fu.heap[k]?=w6.heap[k]?:=fun k h1 h2 h3=>(gh k (az h1 hgB.size) h2).trans (ig k h1 h3)
 have oC:KN w6 fu:=(KN.gS ru).trans (KN.gS zq);have m_:fu.os=w6.os/\fu.tape=w6.tape/\fu.output=w6.output:=⟨mM.os.trans hgB.os,mM.tape.trans hgB.tape,mM.output.trans hgB.output⟩;rw[iQ us y HN.out] at si;go_end0;have hN:=HN.out;subst hN;exact⟨⟨_,rfl⟩,t,_,_,bO.out,oX.out.next wI.out v_ Hs Hu vZ Ib jG si xN jt oC m_.1 m_.2.1 m_.2.2 oA⟩
theorem Lw (x:Int) (m:Nat) (hm:m<9223372036854775808):∃ K:Nat,bits BinOp.and IntKind.i64 x (m:Nat)=(K:Int)/\K<=m:=by
 refine⟨(BitVec.ofInt 64 x).toNat &&& m,?_,Nat.and_le_right⟩;have h1:(BitVec.ofInt 64 x).toNat &&& m<=m:=Nat.and_le_right;have h2:m % 2 ^ 64=m:=Nat.mod_eq_of_lt (Nat.lt_trans hm (by decide));have h3:bits BinOp.and IntKind.i64 x (m:Nat)=IntKind.i64.wrap (((BitVec.ofInt 64 x).toNat &&& m:Nat):Int):=by
  show IntKind.i64.wrap (((BitVec.ofInt 64 x) &&& (BitVec.ofInt 64 (m:Int))).toNat:Int)=_
  rw[BitVec.ofInt_natCast,BitVec.toNat_and,BitVec.toNat_ofNat,h2]
 rw[h3,IntKind.wrap_i64];generalize (BitVec.ofInt 64 x).toNat &&& m=q at h1 ⊢;omega
theorem qV (x:Int):∃ K:Nat,bits BinOp.and IntKind.i64 x 255=(K:Int)/\K<=255:=Lw x 255 (by decide)
theorem iA.fl {w:ag} {B kf kd kr ko:Nat} {x:RU} {dd op:Int} {sg:Bool} {ao:Option cB} {l c:Nat} {nm:ByteArray} {z:Int} {d:Nat} {ts:List F} {v:aq} {us:List FU} {wr:ag} (h:iA w B kf kd kr ko x dd op sg ao l c nm z d ts v us wr):FL wr (fun b=>B<=b) d v ts:=by
 obtain⟨vo,vc,hv,h1,h2,h3⟩:=h.row.form;have hz:(us.zip ts).length=us.length:=by rw[List.length_zip,h.len,Nat.min_self]
 refine⟨us.zip ts,⟨vo,vc,by rw[hz];exact hv,⟨by rw[hz];exact h1,h2,h3⟩,fun _ a ha=>?_,fun i hi=>?_⟩,List.map_snd_zip (by rw[h.len];exact ai _)⟩
 ·have:=(h.row.ge (j:=a.block) (by rw[hv,ha];rfl)).1;exact this
 have vY:i<us.length:=by rw[hz] at hi;exact hi
 have qm:i<ts.length:=by rw[<-h.len];exact vY
 have ho:=h.row.own;rw[hv] at ho;rw[List.getElem_zip];exact⟨Fy fC (fun _=>rfl) rfl ho i vY,(h.tr i vY qm).mono fun b hb=>hb.1⟩
theorem iA.zero {w:ag} {B kf kd kr ko:Nat} {x:RU} {dd op:Int} {sg:Bool} {ao:Option cB} {l c:Nat} {nm:ByteArray} {z:Int} {d:Nat} {wr:ag} (ho:wr.heap[ko]?=some (.cells #[.int .i64 op,.bool sg,.slice ao l c,.string nm,.slice none 0 0] 29 (0,0)))
  (hf:wr.heap[kf]?=some (.cells #[.int .i64 x.o,.bool x.b,.slice x.ao x.l x.c,.string x.nm,.slice x.ko x.kl x.kc] 29 (0,0))) (hd:wr.heap[kd]?=some (.cells #[.int .i64 dd] 3 (0,0))) (hr:wr.heap[kr]?=some (.cells #[.int .i64 0,.bool false,.slice none 0 0,.string ⟨#[]⟩,.slice none 0 0] 29 (0,0)))
  (hz:CI wr (.agg #[.bool sg,.slice ao l c]) z 600) (low:kf<B/\kd<B/\kr<B/\ko<B) (VS:kf≠ko/\kd≠ko/\kr≠ko) (hi:w.heap.size<=ko) (be:aA w.heap.size w wr) (sz:B<=wr.heap.size):iA w B kf kd kr ko x dd op sg ao l c nm z d [] (.slice none 0 0) [] wr:=
 ⟨ho,hf,hd,hr,hz,El.Row.nil _ _,rfl,fun q h=>absurd h (ay q),fun t ht=>(by cases ht),low,VS,hi,be,sz⟩
theorem iA.fin {w:ag} {B kf kd kr ko:Nat} {x:RU} {dd op:Int} {sg:Bool} {ao:Option cB} {l c:Nat} {nm:ByteArray} {z:Int} {d:Nat} {ts:List F} {v:aq} {us:List FU} {wr w':ag} (h:iA w B kf kd kr ko x dd op sg ao l c nm z d ts v us wr) (hg:wr.grownBy w' (some kr)) (hf:Fr 29 wr w') (hop:IR op) (hB:w.heap.size<=B) (iH:w.heap.size<=kr)
  (hnm:gW op nm) (BK:z.natAbs<aG ^ 4) (hz0:op≠0->op≠3->op≠5->z=0) (hl:ts.length<=3) (hfit:dP op z (eR ts)=true) :
  FC w' (fun b=>w.heap.size<=b) (d+1) (.agg #[.int .i64 op,.bool sg,.slice ao l c,.string nm,v]) (.node op z nm ts)/\rt (.node op z nm ts)=true/\Tm (d+1) (.node op z nm ts)/\aA w.heap.size w w':=by
 have hfl:=h.fl;obtain⟨vo,vc,hv,-⟩:=h.row.form;subst hv;have hk:=h.low.2.2.1;refine⟨FC.mk hop (h.hz.fr hf) ((hfl.grown hg (KN.gS hf) (fun b hb e=>by injection e with e;have dI:B<=b:=hb;omega)).mono fun b hb=>ah hB hb),?_,?_,bA h.be hg iH⟩
 ·rw[rt,hfit,nr,Bool.true_and,List.all_eq_true];exact fun t ht=>(h.good t ht).1
 exact⟨hnm,BK,hz0,hl,fun t ht=>(h.good t ht).2⟩
theorem gw (v:Int) (b:UInt8) (hb:v=(b.toNat:Int)) (w:ag) :
  (convert 99 9 (.slice (some ⟨w.heap.size,0,none⟩) 1 1)).run aj (w.alloc (.cells #[.int .u8 v] 5))=.ok (.string ⟨#[b]⟩) (w.alloc (.cells #[.int .u8 v] 5)):=by
 subst hb;refine run_convert_bytes_back (P:=aj) _ 99 9 5 ⟨w.heap.size,0,none⟩ 1 [b] Tryz.underlying99 Tryz.underlying5 Tryz.underlying9 ?_;intro j hj;have:j=0:=by simpa using hj
 subst this;exact cell_of_row _ _ 0 _ _ (0,0) (dh w _ _ rfl)
theorem eU {n:Nat} (h:n<1000):n<aG ^ 4:=az h (by decide)
theorem kG (n:Nat):(((n:Nat):Int).tmod 3=0\/((n:Nat):Int).tmod 3=1\/((n:Nat):Int).tmod 3=2)/\(((n:Nat):Int).tmod 2=0\/((n:Nat):Int).tmod 2=1):=by
 rw[DE (by omega),DE (by omega)];omega
theorem CI.nat {w:ag} {b:Bool} {o:Option cB} {l c:Nat} {z:Int} {k:Nat} (h:CI w (.agg #[.bool b,.slice o l c]) z k):GN w (.slice o l c) z.natAbs k:=by
 obtain⟨b',ao,l',c',n,e,hg,rfl⟩:=h.gi.shape;simp at e;obtain⟨rfl,rfl,rfl,rfl⟩:=e;have:(sg b n).natAbs=n:=by cases b<;>simp[sg]
 rw[this];exact hg
theorem Sd {z:Int} (h:z.natAbs<aG ^ 2):((sg false z.natAbs)+1).natAbs<aG ^ 4/\1<=sg false z.natAbs+1:=by
 have e:sg false z.natAbs=(z.natAbs:Int):=rfl;rw[e];have h4:aG ^ 2+1<=aG ^ 4:=by decide
 omega
theorem FZ {o:Int} (ho:o=18\/o=19) {ts:List F} (h:∀ t ∈ ts,eI t.op=1):dP o 0 (eR ts)=true:=by
 rcases ho with rfl | rfl<;>simp[dP,bF,eR]<;>exact h
theorem Kx (o0 o1 o2:Option cB) (l0 l1 l2 c0 c1 c2:Nat) (w:ag):(qC 96 (.agg #[.slice o0 l0 c0,.slice o1 l1 c1,.slice o2 l2 c2]) (.int .i64 0)).run aj w=.ok (.slice o0 l0 c0) w:=by
 unfold qC;simp[go_sem,asIntOf]
theorem Kw (o0 o1 o2:Option cB) (l0 l1 l2 c0 c1 c2:Nat) (w:ag):(qC 96 (.agg #[.slice o0 l0 c0,.slice o1 l1 c1,.slice o2 l2 c2]) (.int .i64 1)).run aj w=.ok (.slice o1 l1 c1) w:=by
 unfold qC;simp[go_sem,asIntOf]
theorem Kv (o0 o1 o2:Option cB) (l0 l1 l2 c0 c1 c2:Nat) (w:ag):(qC 96 (.agg #[.slice o0 l0 c0,.slice o1 l1 c1,.slice o2 l2 c2]) (.int .i64 2)).run aj w=.ok (.slice o2 l2 c2) w:=by
 unfold qC;simp[go_sem,asIntOf]
def wV (j:Nat):Int:=[(1:Int),(0:Int)].getD j 0
theorem MB (xo:Int) (xb:Bool) (fZ:Option cB) (xl xc:Nat) (fY:ByteArray) (gu:Option cB) (fT fU:Nat) (w:ag) (hx:pg w (0+1) ⟨xo,xb,fZ,xl,xc,fY,gu,fT,fU⟩) :
  Calls aj 13 #[.agg #[.int .i64 xo,.bool xb,.slice fZ xl xc,.string fY,.slice gu fT fU],.int .i64 0,.int .i64 1] w (mO (0+1) 0 w):=by
 obtain⟨-,hn,-,⟨iM,ff⟩,-⟩:=hx;simp only at hn iM ff;have Nn:fU<=9223372036854775807:=ff;obtain⟨m,hm⟩:∃ m,m=min xl 2:=⟨_,rfl⟩;have hmin:min (xl:Int) 2=(m:Int):=by omega
 have DH:m<=2:=by omega
 have hml:m<=xl:=by omega
 have r7:∃ q,GN w (.slice fZ m xc) q 2/\xl<=xc/\xc<=9223372036854775807:=by
  obtain⟨xs,hs,Ic⟩:=hn;have hl:=rT hs;obtain⟨_,_,e,h1,h2,_⟩:=id hs;injection e with e1 e2 e3;subst e3;exact⟨_,⟨xs.take m,hs.take m (by omega),Ic.take m,rfl,by rw[aX];omega⟩,by omega,h2⟩
 obtain⟨q,hq,hlc,hc⟩:=r7;have LU:m<=xc:=by omega
 have HG:=aa hq;clear hq hn hm ff;obtain⟨K,hK,KZ⟩:=qV xo;obtain⟨j,hj⟩:∃ j,j=K % 2:=⟨_,rfl⟩;have BV:((K:Nat):Int).tmod 2=((j:Nat):Int):=by rw[hj];exact (sQ K 2).symm
 have Tk:j<2:=by rw[hj];exact dZ _ (by decide)
 clear hj KZ;have HW:=aa (ax w.heap.size w);go_enter Tryz.func13,Tryz.ntmps13;obtain⟨x1,kf,ef,jK,bL,jc,aE⟩:=aM w #[.int .i64 xo,.bool xb,.slice fZ xl xc,.string fY,.slice gu fT fU] 29;replace HW:=aa (HW.out.trans (bL.out.mono HW.out.size));replace HG:=aa (HG.out.below bL.out);obtain⟨x2,kd,ed,T9,hbd,BT,cg⟩:=aM x1 #[.int .i64 1] 3;replace aE:=aS hbd.out aE;replace HW:=aa (HW.out.trans (hbd.out.mono HW.out.size));replace HG:=aa (HG.out.below hbd.out);obtain⟨x3,kr,er,pE,cN,iH,aJ⟩:=aM x2 #[.int .i64 0,.bool false,.slice none 0 0,.string ⟨#[]⟩,.slice none 0 0] 29;replace aE:=aS cN.out aE;replace cg:=aS cN.out cg;replace HW:=aa (HW.out.trans (cN.out.mono HW.out.size));replace HG:=aa (HG.out.below cN.out)
 have qu:Hid (w.heap.size<=kr):=aa (by have h1:=bL.out.size;have h2:=hbd.out.size;have h3:=iH.out;omega);obtain⟨x4,kp,ep,T8,rM,hkp,vG⟩:=aM x3 #[.int .i64 1,.int .i64 0,.int .i64 2,.int .i64 3,.int .i64 4,.int .i64 5,.int .i64 6,.int .i64 7] 22;replace aE:=aS rM.out aE;replace cg:=aS rM.out cg;replace aJ:=aS rM.out aJ;replace HW:=aa (HW.out.trans (rM.out.mono HW.out.size));replace HG:=aa (HG.out.below rM.out);obtain⟨x5,kq,eq,zE,gQ,sk,jX⟩:=aM x4 #[.int .i64 14,.int .i64 12,.int .i64 13,.int .i64 15,.int .i64 16,.int .i64 16,.int .i64 17,.int .i64 18,.int .i64 19,.int .i64 20] 22;replace aE:=aS gQ.out aE;replace cg:=aS gQ.out cg;replace aJ:=aS gQ.out aJ;replace vG:=aS gQ.out vG;replace HW:=aa (HW.out.trans (gQ.out.mono HW.out.size))
 replace HG:=aa (HG.out.below gQ.out);obtain⟨x6,kt,et,Lg,dm,ng,yh⟩:=aM x5 #[.int .i64 8,.int .i64 9,.int .i64 10,.int .i64 11] 22;replace aE:=aS dm.out aE;replace cg:=aS dm.out cg;replace aJ:=aS dm.out aJ;replace vG:=aS dm.out vG;replace HW:=aa (HW.out.trans (dm.out.mono HW.out.size));replace HG:=aa (HG.out.below dm.out);have hidx:=Kx (some ⟨kp,0,none⟩) (some ⟨kq,0,none⟩) (some ⟨kt,0,none⟩) 8 10 4 8 10 4;obtain⟨⟨f0,f1,f2,f3,f4⟩,oV,oU,oS,oQ,oP⟩:=ak aE.out;have d0:=af (v:=.int .i64 1) cg.out 0 rfl;have tK:=aP cg.out 0;have hop:x6.cell? ⟨kp,j,none⟩=some (.int .i64 (wV j)):=by
  have:j=0\/j=1:=by omega
  rcases this with rfl | rfl<;>exact af vG.out _ rfl
 obtain⟨op,oB⟩:∃ op,op=wV j:=⟨_,rfl⟩;rw[<-oB] at hop;have jy:=aa oB;clear oB;go_upto_region 7 with fail;clear f0 oV f1 oU f2 oS f3 oQ f4 oP d0 tK hop;clear hidx BV hK;have ID:=HW;have zW:=aE;have zX:=cg;have zV:=aJ;obtain⟨x7,ko,eo,Dd,ga,H_,bU⟩:=aM x6 #[.int .i64 op,.bool false,.slice none 0 0,.string ⟨#[]⟩,.slice none 0 0] 29;replace aE:=aS ga.out aE;replace cg:=aS ga.out cg;replace aJ:=aS ga.out aJ;replace HW:=aa (HW.out.trans (ga.out.mono HW.out.size));replace HG:=aa (HG.out.below ga.out);rw[eo,Dd];have kA:Hid (w.heap.size<=ko):=aa (by have:=ID.out.size;have:=H_.out;omega);go_upto_region 8 with fail;have HY:=aa (ax x7.heap.size x7);have qw:=aE;have qx:=cg;have qY:=aJ;have kR:=bU
 have fB:=ae aE.out;have ik:Hid (∀ q,q<0->(fun q=>0) q<x7.heap.size):=aa (fun q h=>absurd h (ay _));refine R7.region (by kernel_rfl) [[],[0],[0,1],[],[3],[3,4],[],[6],[6,7],[6,7,8],[6,7,8,9],[3,4,5,6,7,8,9,10],[0,1,2,3,4,5,6,7,8,9,10,11],[],[0,1,2,3,4,5,6,7,8,9,10,11,12,13]] [] [] (fun q=>0) 0 14 (by kernel_rfl) (by kernel_rfl) (by rfl) ik.out (fun q q' h h' hn=>absurd hn (by omega)) ?_;refine R7.aB.da ?_ (by rfl) (fun T xs wr hA=>?_) ?_;rotate_left 1
 ·have e3:=hA.pre 3 (by kernel_rfl);simp only[g_,iC,iz] at e3;clear hA;refine⟨(by rfl),?_⟩;go_simp<;>(try with_reducible rfl)
 refine R7.aB.da ?_ (by rfl) (fun T xs wr hA=>?_) ?_;rotate_left 1
 ·have Gc:=hA.tm 0 36 (by rfl) (by rfl);have f36:xs 0=_:=hA.fa 0 (by rfl);(try simp (disch:=first | rfl | decide) only [R7.an] at f36);rw[f36] at Gc;clear f36;clear hA;refine⟨(by rfl),?_⟩;go_simp<;>(try with_reducible rfl)
 refine R7.aB.da ?_ (by rfl) (fun T xs wr hA=>?_) ?_;rotate_left 1
 ·have Dg:=hA.tm 1 37 (by rfl) (by rfl);have f37:xs 1=_:=hA.fa 1 (by rfl);(try simp (disch:=first | rfl | decide) only [R7.an] at f37);rw[f37] at Dg;clear f37;have bx:wr.heap[kf]?=_:=(hA.bl _ fB (fun q h=>absurd h (ay _))).trans aE.out;have q0:=af (v:=.int .i64 xo) bx 0 rfl;have q1:=af (v:=.bool xb) bx 1 rfl;have q2:=af (v:=.slice fZ xl xc) bx 2 rfl;have q3:=af (v:=.string fY) bx 3 rfl;have q4:=af (v:=.slice gu fT fU) bx 4 rfl;clear bx;clear hA;refine⟨(by rfl),?_⟩;go_simp<;>(try with_reducible rfl)
 refine R7.aB.da ?_ (by rfl) (fun T xs wr hA=>?_) ?_;rotate_left 1
 ·have e3:=hA.pre 3 (by kernel_rfl);simp only[g_,iC,iz] at e3;clear hA;refine⟨(by rfl),?_⟩;go_simp<;>(try with_reducible rfl)
 refine R7.aB.da ?_ (by rfl) (fun T xs wr hA=>?_) ?_;rotate_left 1
 ·have Ba:=hA.tm 3 39 (by rfl) (by rfl);have f39:xs 3=_:=hA.fa 3 (by rfl);(try simp (disch:=first | rfl | decide) only [R7.an] at f39);rw[f39] at Ba;clear f39;clear hA;refine⟨(by rfl),?_⟩;go_simp<;>(try with_reducible rfl)
 refine R7.aB.da ?_ (by rfl) (fun T xs wr hA=>?_) ?_;rotate_left 1
 ·have Af:=hA.tm 4 40 (by rfl) (by rfl);have f40:xs 4=_:=hA.fa 4 (by rfl);(try simp (disch:=first | rfl | decide) only [R7.an] at f40);rw[f40] at Af;clear f40;have bx:wr.heap[kf]?=_:=(hA.bl _ fB (fun q h=>absurd h (ay _))).trans aE.out;have q0:=af (v:=.int .i64 xo) bx 0 rfl;have q1:=af (v:=.bool xb) bx 1 rfl;have q2:=af (v:=.slice fZ xl xc) bx 2 rfl;have q3:=af (v:=.string fY) bx 3 rfl;have q4:=af (v:=.slice gu fT fU) bx 4 rfl;clear bx;clear hA;refine⟨(by rfl),?_⟩;go_simp<;>(try with_reducible rfl)
 refine R7.aB.da ?_ (by rfl) (fun T xs wr hA=>?_) ?_;rotate_left 1
 ·have e3:=hA.pre 3 (by kernel_rfl);simp only[g_,iC,iz] at e3;clear hA;refine⟨(by rfl),?_⟩;go_simp<;>(try with_reducible rfl)
 refine R7.aB.da ?_ (by rfl) (fun T xs wr hA=>?_) ?_;rotate_left 1
 ·have Cl:=hA.tm 6 42 (by rfl) (by rfl);have f42:xs 6=_:=hA.fa 6 (by rfl);(try simp (disch:=first | rfl | decide) only [R7.an] at f42);rw[f42] at Cl;clear f42;clear hA;refine⟨(by rfl),?_⟩;go_simp<;>(try with_reducible rfl)
 refine R7.aB.da ?_ (by rfl) (fun T xs wr hA=>?_) ?_;rotate_left 1
 ·have tL:=hA.tm 7 43 (by rfl) (by rfl);have f43:xs 7=_:=hA.fa 7 (by rfl);(try simp (disch:=first | rfl | decide) only [R7.an] at f43);rw[f43] at tL;clear f43;have bx:wr.heap[kf]?=_:=(hA.bl _ fB (fun q h=>absurd h (ay _))).trans aE.out;have q0:=af (v:=.int .i64 xo) bx 0 rfl;have q1:=af (v:=.bool xb) bx 1 rfl;have q2:=af (v:=.slice fZ xl xc) bx 2 rfl;have q3:=af (v:=.string fY) bx 3 rfl;have q4:=af (v:=.slice gu fT fU) bx 4 rfl;clear bx;clear hA;refine⟨(by rfl),?_⟩;go_simp<;>(try with_reducible rfl)
 refine R7.aB.da ?_ (by rfl) (fun T xs wr hA=>?_) ?_;rotate_left 1
 ·have uw:=hA.tm 8 44 (by rfl) (by rfl);have f44:xs 8=_:=hA.fa 8 (by rfl);(try simp (disch:=first | rfl | decide) only [R7.an] at f44);rw[f44] at uw;clear f44;clear hA;refine⟨(by rfl),?_⟩;go_simp<;>(try with_reducible rfl)
 refine R7.aB.da ?_ (by rfl) (fun T xs wr hA=>?_) ?_;rotate_left 1
 ·have xA:=hA.tm 9 45 (by rfl) (by rfl);have f45:xs 9=_:=hA.fa 9 (by rfl);(try simp (disch:=first | rfl | decide) only [R7.an] at f45);rw[f45] at xA;clear f45;clear hA;refine⟨(by rfl),?_⟩;go_simp<;>(try with_reducible rfl)
 refine R7.aB.da ?_ (by rfl) (fun T xs wr hA=>?_) ?_;rotate_left 1
 ·have Cm:=hA.tm 5 41 (by rfl) (by rfl);have f41:xs 5=_:=hA.fa 5 (by rfl);(try simp (disch:=first | rfl | decide) only [R7.an] at f41);rw[f41] at Cm;clear f41;have wA:=hA.tm 10 46 (by rfl) (by rfl);have f46:xs 10=_:=hA.fa 10 (by rfl);(try simp (disch:=first | rfl | decide) only [R7.an] at f46);rw[f46] at wA;clear f46;clear hA;refine⟨(by rfl),?_⟩;go_simp<;>(try with_reducible rfl)
 refine R7.aB.call (fun xs v w=>∃ z,CI w v z 2) (fun _ _ _ _ h hb=>by obtain⟨z,h2⟩:=h;exact⟨z,h2.below hb⟩) (fun _ _ _ _ _ _ h _=>by obtain⟨q,hq,_⟩:=h;exact absurd hq (ay _)) (by rfl) (fun T xs wr hA=>?_) ?_
 ·have th:=(hA.be 0 (au _) (fun _ _=>au _)).size;have Df:=hA.tm 2 38 (by rfl) (by rfl);have f38:xs 2=_:=hA.fa 2 (by rfl);(try simp (disch:=first | rfl | decide) only [R7.an] at f38);rw[f38] at Df;clear f38;have xz:=hA.tm 11 47 (by rfl) (by rfl);have f47:xs 11=_:=hA.fa 11 (by rfl);(try simp (disch:=first | rfl | decide) only [R7.an] at f47);rw[f47] at xz;clear f47;have kD:=cm (hA.be x7.heap.size (ai _) (fun q h=>absurd h (ay q)));clear hA;refine⟨(by rfl),fun K hK=>?_⟩;go_simp;refine (nH xb _ q 2 wr (HG.out.below kD) (by decide)).mono ?_;rintro e w' ⟨v,rfl,hc,hb'⟩;exact hK.out _ _ ⟨_,hc⟩ hb'
 refine R7.aB.call (fun xs v w=>∃ g,v=.pointer (some ⟨g,0,none⟩)/\x7.heap.size<=g/\w.heap[g]?=some (.cells #[.bool false,.slice none 0 0] 26 (0,0))) (fun _ _ _ _ h hb=>by obtain⟨g,h1,h2,h3⟩:=h;exact⟨g,h1,h2,by rw[hb.block g (ae h3)];exact h3⟩) (fun _ _ _ _ _ _ h _=>by obtain⟨q,hq,_⟩:=h;exact absurd hq (ay _)) (by rfl) (fun T xs wr hA=>?_) ?_
 ·have th:=(hA.be 0 (au _) (fun _ _=>au _)).size;have kD:=cm (hA.be x7.heap.size (ai _) (fun q h=>absurd h (ay q)));clear hA;refine⟨(by rfl),fun K hK=>?_⟩;go_simp;exact hK.out _ _ ⟨_,rfl,kD.size,dh _ _ _ rfl⟩ ((ax _ _).alloc (ai _) _)
 refine R7.aB.done (fun xs x8 hL=>?_);obtain⟨⟨iY,dw⟩,hf,-,-⟩:=hL;have f0:xs 0=_:=hf 0 (by decide);(try simp (disch:=first | rfl | decide) only [R7.an] at f0);have f1:xs 1=_:=hf 1 (by decide);(try simp (disch:=first | rfl | decide) only [R7.an] at f1);have f2:xs 2=_:=hf 2 (by decide);(try simp (disch:=first | rfl | decide) only [R7.an] at f2);have f3:xs 3=_:=hf 3 (by decide);(try simp (disch:=first | rfl | decide) only [R7.an] at f3);have f4:xs 4=_:=hf 4 (by decide);(try simp (disch:=first | rfl | decide) only [R7.an] at f4);have f5:xs 5=_:=hf 5 (by decide);(try simp (disch:=first | rfl | decide) only [R7.an] at f5);have f6:xs 6=_:=hf 6 (by decide);(try simp (disch:=first | rfl | decide) only [R7.an] at f6);have f7:xs 7=_:=hf 7 (by decide)
 (try simp (disch:=first | rfl | decide) only [R7.an] at f7);have f8:xs 8=_:=hf 8 (by decide);(try simp (disch:=first | rfl | decide) only [R7.an] at f8);have f9:xs 9=_:=hf 9 (by decide);(try simp (disch:=first | rfl | decide) only [R7.an] at f9);have f10:xs 10=_:=hf 10 (by decide);(try simp (disch:=first | rfl | decide) only [R7.an] at f10);have f11:xs 11=_:=hf 11 (by decide);(try simp (disch:=first | rfl | decide) only [R7.an] at f11);have LM:∃ z,CI x8 (xs 12) z 2:=hf 12 (by decide);have LL:∃ g,(xs 13)=.pointer (some ⟨g,0,none⟩)/\x7.heap.size<=g/\x8.heap[g]?=some (.cells #[.bool false,.slice none 0 0] 26 (0,0)):=hf 13 (by decide);have hb0:aA 0 x7 x8:=cm (iY 0 (au _) (fun _ _=>au _))
 have mP:∀ j,j<x7.heap.size->(∀ q,q<0->(fun q=>0) q≠j)->x8.heap[j]?=x7.heap[j]?:=dw;clear iY dw hf;have hb:aA x7.heap.size x7 x8:=⟨hb0.os,hb0.tape,hb0.output,hb0.size,fun q hq=>mP q hq (fun q h=>absurd h (ay _))⟩;refine R7.jD (by decide) (by kernel_rfl) ?_;simp only[R7.fill,Jo,Jn,Jm,Jl,GG,GF,GD,f0,f1,f2,f3,f4,f5,f6,f7,f8,f9,f10,f11];clear hb0 mP ik fB f0 f1 f2 f3 f4 f5 f6 f7 f8 f9 f10 f11;replace aE:=aS hb aE;replace cg:=aS hb cg;replace aJ:=aS hb aJ;replace bU:=aS hb bU;replace HW:=aa (HW.out.trans (hb.mono HW.out.size));replace HY:=aa (HY.out.trans (hb.mono HY.out.size));replace hb:=aa hb;obtain⟨z,tI⟩:=LM;obtain⟨zb,zo,zl,zc,zi⟩:=tI.shape;obtain⟨km,hkm,oD,sn⟩:=LL;rw[zi] at tI;rw[zi,hkm]
 have HC:=aa (tI.mono (k':=600) (by decide));have U_:=aa tI.lt;have kU:=aa sn;clear tI zi hkm sn;obtain⟨m0,m1,i_,iZ⟩:=cO kU.out;go_upto_region 9 with fail;clear m0 i_ m1 iZ;have fg:=mA (w:=x8) (k:=km) (.bool zb) (.slice zo zl zc);have eH:((x8.setCell ⟨km,0,none⟩ (.bool zb)).setCell ⟨km,1,none⟩ (.slice zo zl zc)).heap[km]?=_:=aC _ km 1 _ _ _ (aC _ km 0 _ _ _ kU.out);obtain⟨W1,nN⟩:∃ q,q=(x8.setCell ⟨km,0,none⟩ (.bool zb)).setCell ⟨km,1,none⟩ (.slice zo zl zc):=⟨_,rfl⟩;rw[<-nN] at fg eH ⊢;have lZ:Fr 26 x8 W1:=.aL fg (fun j hj=>by injection hj with hj;subst hj;exact⟨_,kU.out,qb⟩);have LF:Hid (w.heap.size<=km):=aa (ah (by have:=kA.out;have:=ae kR.out;omega) oD)
 replace HW:=aa (bA HW.out fg LF.out);replace HY:=aa (bA HY.out fg oD);replace HC:=aa (HC.out.fr lZ);replace aE:=aa ((HY.out.block _ (ae qw.out)).trans qw.out);replace cg:=aa ((HY.out.block _ (ae qx.out)).trans qx.out);replace aJ:=aa ((HY.out.block _ (ae qY.out)).trans qY.out);replace bU:=aa ((HY.out.block _ (ae kR.out)).trans kR.out);replace kU:=aa eH;clear fg eH nN lZ oD;have iG:Hid (kf<W1.heap.size/\kd<W1.heap.size/\kr<W1.heap.size/\ko<W1.heap.size):=aa ⟨ae aE.out,ae cg.out,ae aJ.out,ae bU.out⟩
 have cW:Hid (kf≠ko/\kd≠ko/\kr≠ko):=aa (by have h1:=ae zW.out;have h2:=ae zX.out;have h3:=ae zV.out;rw[Dd] at h1 h2 h3;omega);have jz:Hid (w.heap.size<=W1.heap.size):=aa HW.out.size;have KU:j=0\/j=1:=by omega
 rcases KU with rfl | rfl
 ·have fX:op=1:=jy.out;subst fX;clear jy;have bG:Hid (W1.heap.size<=W1.heap.size):=aa (ai _);rcases (kG fY.size).1 with hr | hr | hr
  ·obtain⟨⟨o0,o1,o2,o3,o4⟩,eP,eO,eN,eL,dM⟩:=ak bU.out;obtain⟨m0,m1,i_,iZ⟩:=cO kU.out;obtain⟨⟨f0,f1,f2,f3,f4⟩,oV,oU,oS,oQ,oP⟩:=ak aE.out;have pV:=gw 48 48 (by decide) W1;obtain⟨x9,ky,ey,pW,hby,vB,mW⟩:=aM W1 #[.int .u8 48] 5;replace aE:=aS hby.out aE;replace cg:=aS hby.out cg;replace aJ:=aS hby.out aJ;replace bU:=aS hby.out bU;replace HW:=aa (HW.out.trans (hby.out.mono HW.out.size));rw[ey,pW] at pV;obtain⟨⟨p0,p1,p2,p3,p4⟩,wo,wm,wk,wj,wh⟩:=ak bU.out;replace bG:=aa (ah bG.out hby.out.size);go_upto_region 21 with fail;clear o0 eP o1 eO o2 eN o3 eL o4 dM m0 i_ m1 iZ f0 oV f1 oU f2 oS f3 oQ f4 oP p0 wo p1 wm p2 wk p3 wj p4 wh;try clear pV
   try clear hr
   rw[show ((⟨#[105]⟩:ByteArray)++⟨#[48]⟩)=⟨#[105,48]⟩ from rfl];have dD:x9.grownBy (x9.setCell ⟨ko,3,none⟩ (.string ⟨#[105,48]⟩)) (some ko):=by refine aF ?_ _;exact aI _ _
   have ga:(x9.setCell ⟨ko,3,none⟩ (.string ⟨#[105,48]⟩)).heap[ko]?=_:=(aC _ ko 3 _ _ (.string ⟨#[105,48]⟩) bU.out);obtain⟨W2,kg⟩:∃ q,q=x9.setCell ⟨ko,3,none⟩ (.string ⟨#[105,48]⟩):=⟨_,rfl⟩;rw[<-kg] at dD ga ⊢;have hfo:Fr 29 x9 W2:=.aL dD (fun j hj=>by injection hj with hj;subst hj;exact⟨_,bU.out,cH⟩);replace HW:=aa (bA HW.out dD kA.out);replace aE:=aa ((dD.block _ (ae aE.out) (fun e=>by injection e with e;exact cW.out.1 e)).trans aE.out);replace cg:=aa ((dD.block _ (ae cg.out) (fun e=>by injection e with e;exact cW.out.2.1 e)).trans cg.out);replace aJ:=aa ((dD.block _ (ae aJ.out) (fun e=>by injection e with e;exact cW.out.2.2 e)).trans aJ.out)
   have gl:Hid (W1.heap.size<=W2.heap.size):=aa (ah bG.out dD.size);replace bU:=aa ga;clear dD ga kg hfo bG;have bG:=gl;clear gl;have HT:Hid (iA w W1.heap.size kf kd kr ko ⟨xo,xb,fZ,xl,xc,fY,gu,fT,fU⟩ (1) 1 false none 0 0 (⟨#[105,48]⟩) (0) 0 [] (.slice none 0 0) [] W2):=aa (iA.zero bU.out aE.out cg.out aJ.out (sV _) iG.out cW.out kA.out HW.out bG.out);obtain⟨⟨o0,o1,o2,o3,o4⟩,eP,eO,eN,eL,dM⟩:=ak bU.out;obtain⟨⟨r0,r1,r2,r3,r4⟩,jx,jw,jP,jO,jN⟩:=ak aJ.out;go_wp2_with fail;clear o0 eP o1 eO o2 eN o3 eL o4 dM;have hg:=bR (w:=W2) (k:=kr) (.int .i64 1) (.bool false) (.slice none 0 0) (.string ⟨#[105,48]⟩) (.slice none 0 0)
   have hf:Fr 29 W2 _:=.aL hg (fun j hj=>by injection hj with hj;subst hj;exact⟨_,aJ.out,cH⟩);obtain⟨h1,h2,h3,h4⟩:=HT.out.fin hg hf (by unfold IR;decide) jz.out qu.out (by unfold gW;simp) (eU (by decide)) (fun _ _ _=>rfl) (by simp) (rfl);(try simp only[aK,aT]);exact aD (v:=.agg #[.int .i64 1,.bool false,.slice none 0 0,.string ⟨#[105,48]⟩,.slice none 0 0]) (by simp[results,bf,go_sem,r0,r1,r2,r3,r4]) rfl ⟨_,_,rfl,h1,h2,rfl,h3,h4⟩
  ·obtain⟨⟨o0,o1,o2,o3,o4⟩,eP,eO,eN,eL,dM⟩:=ak bU.out;obtain⟨m0,m1,i_,iZ⟩:=cO kU.out;obtain⟨⟨f0,f1,f2,f3,f4⟩,oV,oU,oS,oQ,oP⟩:=ak aE.out;have pV:=gw 49 49 (by decide) W1;obtain⟨x9,ky,ey,pW,hby,vB,mW⟩:=aM W1 #[.int .u8 49] 5;replace aE:=aS hby.out aE;replace cg:=aS hby.out cg;replace aJ:=aS hby.out aJ;replace bU:=aS hby.out bU;replace HW:=aa (HW.out.trans (hby.out.mono HW.out.size));rw[ey,pW] at pV;obtain⟨⟨p0,p1,p2,p3,p4⟩,wo,wm,wk,wj,wh⟩:=ak bU.out;replace bG:=aa (ah bG.out hby.out.size);go_upto_region 21 with fail;clear o0 eP o1 eO o2 eN o3 eL o4 dM m0 i_ m1 iZ f0 oV f1 oU f2 oS f3 oQ f4 oP p0 wo p1 wm p2 wk p3 wj p4 wh;try clear pV
   try clear hr
   rw[show ((⟨#[105]⟩:ByteArray)++⟨#[49]⟩)=⟨#[105,49]⟩ from rfl];have dD:x9.grownBy (x9.setCell ⟨ko,3,none⟩ (.string ⟨#[105,49]⟩)) (some ko):=by refine aF ?_ _;exact aI _ _
   have ga:(x9.setCell ⟨ko,3,none⟩ (.string ⟨#[105,49]⟩)).heap[ko]?=_:=(aC _ ko 3 _ _ (.string ⟨#[105,49]⟩) bU.out);obtain⟨W2,kg⟩:∃ q,q=x9.setCell ⟨ko,3,none⟩ (.string ⟨#[105,49]⟩):=⟨_,rfl⟩;rw[<-kg] at dD ga ⊢;have hfo:Fr 29 x9 W2:=.aL dD (fun j hj=>by injection hj with hj;subst hj;exact⟨_,bU.out,cH⟩);replace HW:=aa (bA HW.out dD kA.out);replace aE:=aa ((dD.block _ (ae aE.out) (fun e=>by injection e with e;exact cW.out.1 e)).trans aE.out);replace cg:=aa ((dD.block _ (ae cg.out) (fun e=>by injection e with e;exact cW.out.2.1 e)).trans cg.out);replace aJ:=aa ((dD.block _ (ae aJ.out) (fun e=>by injection e with e;exact cW.out.2.2 e)).trans aJ.out)
   have gl:Hid (W1.heap.size<=W2.heap.size):=aa (ah bG.out dD.size);replace bU:=aa ga;clear dD ga kg hfo bG;have bG:=gl;clear gl;have HT:Hid (iA w W1.heap.size kf kd kr ko ⟨xo,xb,fZ,xl,xc,fY,gu,fT,fU⟩ (1) 1 false none 0 0 (⟨#[105,49]⟩) (0) 0 [] (.slice none 0 0) [] W2):=aa (iA.zero bU.out aE.out cg.out aJ.out (sV _) iG.out cW.out kA.out HW.out bG.out);obtain⟨⟨o0,o1,o2,o3,o4⟩,eP,eO,eN,eL,dM⟩:=ak bU.out;obtain⟨⟨r0,r1,r2,r3,r4⟩,jx,jw,jP,jO,jN⟩:=ak aJ.out;go_wp2_with fail;clear o0 eP o1 eO o2 eN o3 eL o4 dM;have hg:=bR (w:=W2) (k:=kr) (.int .i64 1) (.bool false) (.slice none 0 0) (.string ⟨#[105,49]⟩) (.slice none 0 0)
   have hf:Fr 29 W2 _:=.aL hg (fun j hj=>by injection hj with hj;subst hj;exact⟨_,aJ.out,cH⟩);obtain⟨h1,h2,h3,h4⟩:=HT.out.fin hg hf (by unfold IR;decide) jz.out qu.out (by unfold gW;simp) (eU (by decide)) (fun _ _ _=>rfl) (by simp) (rfl);(try simp only[aK,aT]);exact aD (v:=.agg #[.int .i64 1,.bool false,.slice none 0 0,.string ⟨#[105,49]⟩,.slice none 0 0]) (by simp[results,bf,go_sem,r0,r1,r2,r3,r4]) rfl ⟨_,_,rfl,h1,h2,rfl,h3,h4⟩
  obtain⟨⟨o0,o1,o2,o3,o4⟩,eP,eO,eN,eL,dM⟩:=ak bU.out;obtain⟨m0,m1,i_,iZ⟩:=cO kU.out;obtain⟨⟨f0,f1,f2,f3,f4⟩,oV,oU,oS,oQ,oP⟩:=ak aE.out;have pV:=gw 50 50 (by decide) W1;obtain⟨x9,ky,ey,pW,hby,vB,mW⟩:=aM W1 #[.int .u8 50] 5;replace aE:=aS hby.out aE;replace cg:=aS hby.out cg;replace aJ:=aS hby.out aJ;replace bU:=aS hby.out bU;replace HW:=aa (HW.out.trans (hby.out.mono HW.out.size));rw[ey,pW] at pV;obtain⟨⟨p0,p1,p2,p3,p4⟩,wo,wm,wk,wj,wh⟩:=ak bU.out;replace bG:=aa (ah bG.out hby.out.size);go_upto_region 21 with fail;clear o0 eP o1 eO o2 eN o3 eL o4 dM m0 i_ m1 iZ f0 oV f1 oU f2 oS f3 oQ f4 oP p0 wo p1 wm p2 wk p3 wj p4 wh;try clear pV
  try clear hr
  rw[show ((⟨#[105]⟩:ByteArray)++⟨#[50]⟩)=⟨#[105,50]⟩ from rfl];have dD:x9.grownBy (x9.setCell ⟨ko,3,none⟩ (.string ⟨#[105,50]⟩)) (some ko):=by refine aF ?_ _;exact aI _ _
  have ga:(x9.setCell ⟨ko,3,none⟩ (.string ⟨#[105,50]⟩)).heap[ko]?=_:=(aC _ ko 3 _ _ (.string ⟨#[105,50]⟩) bU.out);obtain⟨W2,kg⟩:∃ q,q=x9.setCell ⟨ko,3,none⟩ (.string ⟨#[105,50]⟩):=⟨_,rfl⟩;rw[<-kg] at dD ga ⊢;have hfo:Fr 29 x9 W2:=.aL dD (fun j hj=>by injection hj with hj;subst hj;exact⟨_,bU.out,cH⟩);replace HW:=aa (bA HW.out dD kA.out);replace aE:=aa ((dD.block _ (ae aE.out) (fun e=>by injection e with e;exact cW.out.1 e)).trans aE.out);replace cg:=aa ((dD.block _ (ae cg.out) (fun e=>by injection e with e;exact cW.out.2.1 e)).trans cg.out);replace aJ:=aa ((dD.block _ (ae aJ.out) (fun e=>by injection e with e;exact cW.out.2.2 e)).trans aJ.out)
  have gl:Hid (W1.heap.size<=W2.heap.size):=aa (ah bG.out dD.size);replace bU:=aa ga;clear dD ga kg hfo bG;have bG:=gl;clear gl;have HT:Hid (iA w W1.heap.size kf kd kr ko ⟨xo,xb,fZ,xl,xc,fY,gu,fT,fU⟩ (1) 1 false none 0 0 (⟨#[105,50]⟩) (0) 0 [] (.slice none 0 0) [] W2):=aa (iA.zero bU.out aE.out cg.out aJ.out (sV _) iG.out cW.out kA.out HW.out bG.out);obtain⟨⟨o0,o1,o2,o3,o4⟩,eP,eO,eN,eL,dM⟩:=ak bU.out;obtain⟨⟨r0,r1,r2,r3,r4⟩,jx,jw,jP,jO,jN⟩:=ak aJ.out;go_wp2_with fail;clear o0 eP o1 eO o2 eN o3 eL o4 dM;have hg:=bR (w:=W2) (k:=kr) (.int .i64 1) (.bool false) (.slice none 0 0) (.string ⟨#[105,50]⟩) (.slice none 0 0)
  have hf:Fr 29 W2 _:=.aL hg (fun j hj=>by injection hj with hj;subst hj;exact⟨_,aJ.out,cH⟩);obtain⟨h1,h2,h3,h4⟩:=HT.out.fin hg hf (by unfold IR;decide) jz.out qu.out (by unfold gW;simp) (eU (by decide)) (fun _ _ _=>rfl) (by simp) (rfl);(try simp only[aK,aT]);exact aD (v:=.agg #[.int .i64 1,.bool false,.slice none 0 0,.string ⟨#[105,50]⟩,.slice none 0 0]) (by simp[results,bf,go_sem,r0,r1,r2,r3,r4]) rfl ⟨_,_,rfl,h1,h2,rfl,h3,h4⟩
 have fX:op=0:=jy.out;subst fX;clear jy;have bG:Hid (W1.heap.size<=W1.heap.size):=aa (ai _);obtain⟨⟨o0,o1,o2,o3,o4⟩,eP,eO,eN,eL,dM⟩:=ak bU.out;obtain⟨m0,m1,i_,iZ⟩:=cO kU.out;go_upto_region 21 with fail;clear o0 eP o1 eO o2 eN o3 eL o4 dM m0 i_ m1 iZ;have dD:W1.grownBy ((W1.setCell ⟨ko,1,none⟩ (.bool zb)).setCell ⟨ko,2,none⟩ (.slice zo zl zc)) (some ko):=by refine aF ?_ _;refine aF ?_ _;exact aI _ _
 have ga:((W1.setCell ⟨ko,1,none⟩ (.bool zb)).setCell ⟨ko,2,none⟩ (.slice zo zl zc)).heap[ko]?=_:=(aC _ ko 2 _ _ (.slice zo zl zc) (aC _ ko 1 _ _ (.bool zb) bU.out));obtain⟨W2,kg⟩:∃ q,q=(W1.setCell ⟨ko,1,none⟩ (.bool zb)).setCell ⟨ko,2,none⟩ (.slice zo zl zc):=⟨_,rfl⟩;rw[<-kg] at dD ga ⊢;have hfo:Fr 29 W1 W2:=.aL dD (fun j hj=>by injection hj with hj;subst hj;exact⟨_,bU.out,cH⟩);replace HW:=aa (bA HW.out dD kA.out);replace HC:=aa (HC.out.fr hfo);replace aE:=aa ((dD.block _ (ae aE.out) (fun e=>by injection e with e;exact cW.out.1 e)).trans aE.out);replace cg:=aa ((dD.block _ (ae cg.out) (fun e=>by injection e with e;exact cW.out.2.1 e)).trans cg.out)
 replace aJ:=aa ((dD.block _ (ae aJ.out) (fun e=>by injection e with e;exact cW.out.2.2 e)).trans aJ.out);have gl:Hid (W1.heap.size<=W2.heap.size):=aa (ah bG.out dD.size);replace bU:=aa ga;clear dD ga kg hfo bG;have bG:=gl;clear gl;have HT:Hid (iA w W1.heap.size kf kd kr ko ⟨xo,xb,fZ,xl,xc,fY,gu,fT,fU⟩ (1) 0 zb zo zl zc (⟨#[]⟩) (z) 0 [] (.slice none 0 0) [] W2):=aa (iA.zero bU.out aE.out cg.out aJ.out (HC.out) iG.out cW.out kA.out HW.out bG.out);obtain⟨⟨o0,o1,o2,o3,o4⟩,eP,eO,eN,eL,dM⟩:=ak bU.out;obtain⟨⟨r0,r1,r2,r3,r4⟩,jx,jw,jP,jO,jN⟩:=ak aJ.out;go_wp2_with fail;clear o0 eP o1 eO o2 eN o3 eL o4 dM
 have hg:=bR (w:=W2) (k:=kr) (.int .i64 0) (.bool zb) (.slice zo zl zc) (.string ⟨#[]⟩) (.slice none 0 0);have hf:Fr 29 W2 _:=.aL hg (fun j hj=>by injection hj with hj;subst hj;exact⟨_,aJ.out,cH⟩);obtain⟨h1,h2,h3,h4⟩:=HT.out.fin hg hf (by unfold IR;decide) jz.out qu.out (by unfold gW;simp) (eT (k:=2) (k':=4) U_.out (by decide)) (fun h _ _=>absurd rfl h) (by simp) (rfl);(try simp only[aK,aT]);exact aD (v:=.agg #[.int .i64 0,.bool zb,.slice zo zl zc,.string ⟨#[]⟩,.slice none 0 0]) (by simp[results,bf,go_sem,r0,r1,r2,r3,r4]) rfl ⟨_,_,rfl,h1,h2,rfl,h3,h4⟩
def wT (j:Nat):Int:=[(14:Int),(12:Int)].getD j 0
theorem Mz (xo:Int) (xb:Bool) (fZ:Option cB) (xl xc:Nat) (fY:ByteArray) (gu:Option cB) (fT fU:Nat) (w:ag) (hx:pg w (0+1) ⟨xo,xb,fZ,xl,xc,fY,gu,fT,fU⟩) :
  Calls aj 13 #[.agg #[.int .i64 xo,.bool xb,.slice fZ xl xc,.string fY,.slice gu fT fU],.int .i64 1,.int .i64 1] w (mO (0+1) 1 w):=by
 obtain⟨-,hn,-,⟨iM,ff⟩,-⟩:=hx;simp only at hn iM ff;have Nn:fU<=9223372036854775807:=ff;obtain⟨m,hm⟩:∃ m,m=min xl 2:=⟨_,rfl⟩;have hmin:min (xl:Int) 2=(m:Int):=by omega
 have DH:m<=2:=by omega
 have hml:m<=xl:=by omega
 have r7:∃ q,GN w (.slice fZ m xc) q 2/\xl<=xc/\xc<=9223372036854775807:=by
  obtain⟨xs,hs,Ic⟩:=hn;have hl:=rT hs;obtain⟨_,_,e,h1,h2,_⟩:=id hs;injection e with e1 e2 e3;subst e3;exact⟨_,⟨xs.take m,hs.take m (by omega),Ic.take m,rfl,by rw[aX];omega⟩,by omega,h2⟩
 obtain⟨q,hq,hlc,hc⟩:=r7;have LU:m<=xc:=by omega
 have HG:=aa hq;clear hq hn hm ff;obtain⟨K,hK,KZ⟩:=qV xo;obtain⟨j,hj⟩:∃ j,j=K % 2:=⟨_,rfl⟩;have BV:((K:Nat):Int).tmod 2=((j:Nat):Int):=by rw[hj];exact (sQ K 2).symm
 have Tk:j<2:=by rw[hj];exact dZ _ (by decide)
 clear hj KZ;have HW:=aa (ax w.heap.size w);go_enter Tryz.func13,Tryz.ntmps13;obtain⟨x1,kf,ef,jK,bL,jc,aE⟩:=aM w #[.int .i64 xo,.bool xb,.slice fZ xl xc,.string fY,.slice gu fT fU] 29;replace HW:=aa (HW.out.trans (bL.out.mono HW.out.size));replace HG:=aa (HG.out.below bL.out);obtain⟨x2,kd,ed,T9,hbd,BT,cg⟩:=aM x1 #[.int .i64 1] 3;replace aE:=aS hbd.out aE;replace HW:=aa (HW.out.trans (hbd.out.mono HW.out.size));replace HG:=aa (HG.out.below hbd.out);obtain⟨x3,kr,er,pE,cN,iH,aJ⟩:=aM x2 #[.int .i64 0,.bool false,.slice none 0 0,.string ⟨#[]⟩,.slice none 0 0] 29;replace aE:=aS cN.out aE;replace cg:=aS cN.out cg;replace HW:=aa (HW.out.trans (cN.out.mono HW.out.size));replace HG:=aa (HG.out.below cN.out)
 have qu:Hid (w.heap.size<=kr):=aa (by have h1:=bL.out.size;have h2:=hbd.out.size;have h3:=iH.out;omega);obtain⟨x4,kp,ep,T8,rM,hkp,vG⟩:=aM x3 #[.int .i64 1,.int .i64 0,.int .i64 2,.int .i64 3,.int .i64 4,.int .i64 5,.int .i64 6,.int .i64 7] 22;replace aE:=aS rM.out aE;replace cg:=aS rM.out cg;replace aJ:=aS rM.out aJ;replace HW:=aa (HW.out.trans (rM.out.mono HW.out.size));replace HG:=aa (HG.out.below rM.out);obtain⟨x5,kq,eq,zE,gQ,sk,jX⟩:=aM x4 #[.int .i64 14,.int .i64 12,.int .i64 13,.int .i64 15,.int .i64 16,.int .i64 16,.int .i64 17,.int .i64 18,.int .i64 19,.int .i64 20] 22;replace aE:=aS gQ.out aE;replace cg:=aS gQ.out cg;replace aJ:=aS gQ.out aJ;replace HW:=aa (HW.out.trans (gQ.out.mono HW.out.size))
 replace HG:=aa (HG.out.below gQ.out);obtain⟨x6,kt,et,Lg,dm,ng,yh⟩:=aM x5 #[.int .i64 8,.int .i64 9,.int .i64 10,.int .i64 11] 22;replace aE:=aS dm.out aE;replace cg:=aS dm.out cg;replace aJ:=aS dm.out aJ;replace jX:=aS dm.out jX;replace HW:=aa (HW.out.trans (dm.out.mono HW.out.size));replace HG:=aa (HG.out.below dm.out);have hidx:=Kw (some ⟨kp,0,none⟩) (some ⟨kq,0,none⟩) (some ⟨kt,0,none⟩) 8 10 4 8 10 4;obtain⟨⟨f0,f1,f2,f3,f4⟩,oV,oU,oS,oQ,oP⟩:=ak aE.out;have d0:=af (v:=.int .i64 1) cg.out 0 rfl;have tK:=aP cg.out 0;have hop:x6.cell? ⟨kq,j,none⟩=some (.int .i64 (wT j)):=by
  have:j=0\/j=1:=by omega
  rcases this with rfl | rfl<;>exact af jX.out _ rfl
 obtain⟨op,oB⟩:∃ op,op=wT j:=⟨_,rfl⟩;rw[<-oB] at hop;have jy:=aa oB;clear oB;go_upto_region 7 with fail;clear f0 oV f1 oU f2 oS f3 oQ f4 oP d0 tK hop;clear hidx BV hK;have ID:=HW;have zW:=aE;have zX:=cg;have zV:=aJ;obtain⟨x7,ko,eo,Dd,ga,H_,bU⟩:=aM x6 #[.int .i64 op,.bool false,.slice none 0 0,.string ⟨#[]⟩,.slice none 0 0] 29;replace aE:=aS ga.out aE;replace cg:=aS ga.out cg;replace aJ:=aS ga.out aJ;replace HW:=aa (HW.out.trans (ga.out.mono HW.out.size));replace HG:=aa (HG.out.below ga.out);rw[eo,Dd];have kA:Hid (w.heap.size<=ko):=aa (by have:=ID.out.size;have:=H_.out;omega);go_upto_region 8 with fail;have HY:=aa (ax x7.heap.size x7);have qw:=aE;have qx:=cg;have qY:=aJ;have kR:=bU
 have fB:=ae aE.out;have ik:Hid (∀ q,q<0->(fun q=>0) q<x7.heap.size):=aa (fun q h=>absurd h (ay _));refine R7.region (by kernel_rfl) [[],[0],[0,1],[],[3],[3,4],[],[6],[6,7],[6,7,8],[6,7,8,9],[3,4,5,6,7,8,9,10],[0,1,2,3,4,5,6,7,8,9,10,11],[],[0,1,2,3,4,5,6,7,8,9,10,11,12,13]] [] [] (fun q=>0) 0 14 (by kernel_rfl) (by kernel_rfl) (by rfl) ik.out (fun q q' h h' hn=>absurd hn (by omega)) ?_;refine R7.aB.da ?_ (by rfl) (fun T xs wr hA=>?_) ?_;rotate_left 1
 ·have e3:=hA.pre 3 (by kernel_rfl);simp only[g_,iC,iz] at e3;clear hA;refine⟨(by rfl),?_⟩;go_simp<;>(try with_reducible rfl)
 refine R7.aB.da ?_ (by rfl) (fun T xs wr hA=>?_) ?_;rotate_left 1
 ·have Gc:=hA.tm 0 36 (by rfl) (by rfl);have f36:xs 0=_:=hA.fa 0 (by rfl);(try simp (disch:=first | rfl | decide) only [R7.an] at f36);rw[f36] at Gc;clear f36;clear hA;refine⟨(by rfl),?_⟩;go_simp<;>(try with_reducible rfl)
 refine R7.aB.da ?_ (by rfl) (fun T xs wr hA=>?_) ?_;rotate_left 1
 ·have Dg:=hA.tm 1 37 (by rfl) (by rfl);have f37:xs 1=_:=hA.fa 1 (by rfl);(try simp (disch:=first | rfl | decide) only [R7.an] at f37);rw[f37] at Dg;clear f37;have bx:wr.heap[kf]?=_:=(hA.bl _ fB (fun q h=>absurd h (ay _))).trans aE.out;have q0:=af (v:=.int .i64 xo) bx 0 rfl;have q1:=af (v:=.bool xb) bx 1 rfl;have q2:=af (v:=.slice fZ xl xc) bx 2 rfl;have q3:=af (v:=.string fY) bx 3 rfl;have q4:=af (v:=.slice gu fT fU) bx 4 rfl;clear bx;clear hA;refine⟨(by rfl),?_⟩;go_simp<;>(try with_reducible rfl)
 refine R7.aB.da ?_ (by rfl) (fun T xs wr hA=>?_) ?_;rotate_left 1
 ·have e3:=hA.pre 3 (by kernel_rfl);simp only[g_,iC,iz] at e3;clear hA;refine⟨(by rfl),?_⟩;go_simp<;>(try with_reducible rfl)
 refine R7.aB.da ?_ (by rfl) (fun T xs wr hA=>?_) ?_;rotate_left 1
 ·have Ba:=hA.tm 3 39 (by rfl) (by rfl);have f39:xs 3=_:=hA.fa 3 (by rfl);(try simp (disch:=first | rfl | decide) only [R7.an] at f39);rw[f39] at Ba;clear f39;clear hA;refine⟨(by rfl),?_⟩;go_simp<;>(try with_reducible rfl)
 refine R7.aB.da ?_ (by rfl) (fun T xs wr hA=>?_) ?_;rotate_left 1
 ·have Af:=hA.tm 4 40 (by rfl) (by rfl);have f40:xs 4=_:=hA.fa 4 (by rfl);(try simp (disch:=first | rfl | decide) only [R7.an] at f40);rw[f40] at Af;clear f40;have bx:wr.heap[kf]?=_:=(hA.bl _ fB (fun q h=>absurd h (ay _))).trans aE.out;have q0:=af (v:=.int .i64 xo) bx 0 rfl;have q1:=af (v:=.bool xb) bx 1 rfl;have q2:=af (v:=.slice fZ xl xc) bx 2 rfl;have q3:=af (v:=.string fY) bx 3 rfl;have q4:=af (v:=.slice gu fT fU) bx 4 rfl;clear bx;clear hA;refine⟨(by rfl),?_⟩;go_simp<;>(try with_reducible rfl)
 refine R7.aB.da ?_ (by rfl) (fun T xs wr hA=>?_) ?_;rotate_left 1
 ·have e3:=hA.pre 3 (by kernel_rfl);simp only[g_,iC,iz] at e3;clear hA;refine⟨(by rfl),?_⟩;go_simp<;>(try with_reducible rfl)
 refine R7.aB.da ?_ (by rfl) (fun T xs wr hA=>?_) ?_;rotate_left 1
 ·have Cl:=hA.tm 6 42 (by rfl) (by rfl);have f42:xs 6=_:=hA.fa 6 (by rfl);(try simp (disch:=first | rfl | decide) only [R7.an] at f42);rw[f42] at Cl;clear f42;clear hA;refine⟨(by rfl),?_⟩;go_simp<;>(try with_reducible rfl)
 refine R7.aB.da ?_ (by rfl) (fun T xs wr hA=>?_) ?_;rotate_left 1
 ·have tL:=hA.tm 7 43 (by rfl) (by rfl);have f43:xs 7=_:=hA.fa 7 (by rfl);(try simp (disch:=first | rfl | decide) only [R7.an] at f43);rw[f43] at tL;clear f43;have bx:wr.heap[kf]?=_:=(hA.bl _ fB (fun q h=>absurd h (ay _))).trans aE.out;have q0:=af (v:=.int .i64 xo) bx 0 rfl;have q1:=af (v:=.bool xb) bx 1 rfl;have q2:=af (v:=.slice fZ xl xc) bx 2 rfl;have q3:=af (v:=.string fY) bx 3 rfl;have q4:=af (v:=.slice gu fT fU) bx 4 rfl;clear bx;clear hA;refine⟨(by rfl),?_⟩;go_simp<;>(try with_reducible rfl)
 refine R7.aB.da ?_ (by rfl) (fun T xs wr hA=>?_) ?_;rotate_left 1
 ·have uw:=hA.tm 8 44 (by rfl) (by rfl);have f44:xs 8=_:=hA.fa 8 (by rfl);(try simp (disch:=first | rfl | decide) only [R7.an] at f44);rw[f44] at uw;clear f44;clear hA;refine⟨(by rfl),?_⟩;go_simp<;>(try with_reducible rfl)
 refine R7.aB.da ?_ (by rfl) (fun T xs wr hA=>?_) ?_;rotate_left 1
 ·have xA:=hA.tm 9 45 (by rfl) (by rfl);have f45:xs 9=_:=hA.fa 9 (by rfl);(try simp (disch:=first | rfl | decide) only [R7.an] at f45);rw[f45] at xA;clear f45;clear hA;refine⟨(by rfl),?_⟩;go_simp<;>(try with_reducible rfl)
 refine R7.aB.da ?_ (by rfl) (fun T xs wr hA=>?_) ?_;rotate_left 1
 ·have Cm:=hA.tm 5 41 (by rfl) (by rfl);have f41:xs 5=_:=hA.fa 5 (by rfl);(try simp (disch:=first | rfl | decide) only [R7.an] at f41);rw[f41] at Cm;clear f41;have wA:=hA.tm 10 46 (by rfl) (by rfl);have f46:xs 10=_:=hA.fa 10 (by rfl);(try simp (disch:=first | rfl | decide) only [R7.an] at f46);rw[f46] at wA;clear f46;clear hA;refine⟨(by rfl),?_⟩;go_simp<;>(try with_reducible rfl)
 refine R7.aB.call (fun xs v w=>∃ z,CI w v z 2) (fun _ _ _ _ h hb=>by obtain⟨z,h2⟩:=h;exact⟨z,h2.below hb⟩) (fun _ _ _ _ _ _ h _=>by obtain⟨q,hq,_⟩:=h;exact absurd hq (ay _)) (by rfl) (fun T xs wr hA=>?_) ?_
 ·have th:=(hA.be 0 (au _) (fun _ _=>au _)).size;have Df:=hA.tm 2 38 (by rfl) (by rfl);have f38:xs 2=_:=hA.fa 2 (by rfl);(try simp (disch:=first | rfl | decide) only [R7.an] at f38);rw[f38] at Df;clear f38;have xz:=hA.tm 11 47 (by rfl) (by rfl);have f47:xs 11=_:=hA.fa 11 (by rfl);(try simp (disch:=first | rfl | decide) only [R7.an] at f47);rw[f47] at xz;clear f47;have kD:=cm (hA.be x7.heap.size (ai _) (fun q h=>absurd h (ay q)));clear hA;refine⟨(by rfl),fun K hK=>?_⟩;go_simp;refine (nH xb _ q 2 wr (HG.out.below kD) (by decide)).mono ?_;rintro e w' ⟨v,rfl,hc,hb'⟩;exact hK.out _ _ ⟨_,hc⟩ hb'
 refine R7.aB.call (fun xs v w=>∃ g,v=.pointer (some ⟨g,0,none⟩)/\x7.heap.size<=g/\w.heap[g]?=some (.cells #[.bool false,.slice none 0 0] 26 (0,0))) (fun _ _ _ _ h hb=>by obtain⟨g,h1,h2,h3⟩:=h;exact⟨g,h1,h2,by rw[hb.block g (ae h3)];exact h3⟩) (fun _ _ _ _ _ _ h _=>by obtain⟨q,hq,_⟩:=h;exact absurd hq (ay _)) (by rfl) (fun T xs wr hA=>?_) ?_
 ·have th:=(hA.be 0 (au _) (fun _ _=>au _)).size;have kD:=cm (hA.be x7.heap.size (ai _) (fun q h=>absurd h (ay q)));clear hA;refine⟨(by rfl),fun K hK=>?_⟩;go_simp;exact hK.out _ _ ⟨_,rfl,kD.size,dh _ _ _ rfl⟩ ((ax _ _).alloc (ai _) _)
 refine R7.aB.done (fun xs x8 hL=>?_);obtain⟨⟨iY,dw⟩,hf,-,-⟩:=hL;have f0:xs 0=_:=hf 0 (by decide);(try simp (disch:=first | rfl | decide) only [R7.an] at f0);have f1:xs 1=_:=hf 1 (by decide);(try simp (disch:=first | rfl | decide) only [R7.an] at f1);have f2:xs 2=_:=hf 2 (by decide);(try simp (disch:=first | rfl | decide) only [R7.an] at f2);have f3:xs 3=_:=hf 3 (by decide);(try simp (disch:=first | rfl | decide) only [R7.an] at f3);have f4:xs 4=_:=hf 4 (by decide);(try simp (disch:=first | rfl | decide) only [R7.an] at f4);have f5:xs 5=_:=hf 5 (by decide);(try simp (disch:=first | rfl | decide) only [R7.an] at f5);have f6:xs 6=_:=hf 6 (by decide);(try simp (disch:=first | rfl | decide) only [R7.an] at f6);have f7:xs 7=_:=hf 7 (by decide)
 (try simp (disch:=first | rfl | decide) only [R7.an] at f7);have f8:xs 8=_:=hf 8 (by decide);(try simp (disch:=first | rfl | decide) only [R7.an] at f8);have f9:xs 9=_:=hf 9 (by decide);(try simp (disch:=first | rfl | decide) only [R7.an] at f9);have f10:xs 10=_:=hf 10 (by decide);(try simp (disch:=first | rfl | decide) only [R7.an] at f10);have f11:xs 11=_:=hf 11 (by decide);(try simp (disch:=first | rfl | decide) only [R7.an] at f11);have LM:∃ z,CI x8 (xs 12) z 2:=hf 12 (by decide);have LL:∃ g,(xs 13)=.pointer (some ⟨g,0,none⟩)/\x7.heap.size<=g/\x8.heap[g]?=some (.cells #[.bool false,.slice none 0 0] 26 (0,0)):=hf 13 (by decide);have hb0:aA 0 x7 x8:=cm (iY 0 (au _) (fun _ _=>au _))
 have mP:∀ j,j<x7.heap.size->(∀ q,q<0->(fun q=>0) q≠j)->x8.heap[j]?=x7.heap[j]?:=dw;clear iY dw hf;have hb:aA x7.heap.size x7 x8:=⟨hb0.os,hb0.tape,hb0.output,hb0.size,fun q hq=>mP q hq (fun q h=>absurd h (ay _))⟩;refine R7.jD (by decide) (by kernel_rfl) ?_;simp only[R7.fill,Jo,Jn,Jm,Jl,GG,GF,GD,f0,f1,f2,f3,f4,f5,f6,f7,f8,f9,f10,f11];clear hb0 mP ik fB f0 f1 f2 f3 f4 f5 f6 f7 f8 f9 f10 f11;replace aE:=aS hb aE;replace cg:=aS hb cg;replace aJ:=aS hb aJ;replace bU:=aS hb bU;replace HW:=aa (HW.out.trans (hb.mono HW.out.size));replace HY:=aa (HY.out.trans (hb.mono HY.out.size));replace hb:=aa hb;obtain⟨z,tI⟩:=LM;obtain⟨zb,zo,zl,zc,zi⟩:=tI.shape;obtain⟨km,hkm,oD,sn⟩:=LL;rw[zi] at tI;rw[zi,hkm];have kU:=aa sn
 clear tI zi hkm sn;obtain⟨m0,m1,i_,iZ⟩:=cO kU.out;go_upto_region 9 with fail;clear m0 i_ m1 iZ;have fg:=mA (w:=x8) (k:=km) (.bool zb) (.slice zo zl zc);have eH:((x8.setCell ⟨km,0,none⟩ (.bool zb)).setCell ⟨km,1,none⟩ (.slice zo zl zc)).heap[km]?=_:=aC _ km 1 _ _ _ (aC _ km 0 _ _ _ kU.out);obtain⟨W1,nN⟩:∃ q,q=(x8.setCell ⟨km,0,none⟩ (.bool zb)).setCell ⟨km,1,none⟩ (.slice zo zl zc):=⟨_,rfl⟩;rw[<-nN] at fg eH ⊢;have lZ:Fr 26 x8 W1:=.aL fg (fun j hj=>by injection hj with hj;subst hj;exact⟨_,kU.out,qb⟩);have LF:Hid (w.heap.size<=km):=aa (ah (by have:=kA.out;have:=ae kR.out;omega) oD);replace HW:=aa (bA HW.out fg LF.out);replace HY:=aa (bA HY.out fg oD)
 replace aE:=aa ((HY.out.block _ (ae qw.out)).trans qw.out);replace cg:=aa ((HY.out.block _ (ae qx.out)).trans qx.out);replace aJ:=aa ((HY.out.block _ (ae qY.out)).trans qY.out);replace bU:=aa ((HY.out.block _ (ae kR.out)).trans kR.out);replace kU:=aa eH;clear fg eH nN lZ oD;have iG:Hid (kf<W1.heap.size/\kd<W1.heap.size/\kr<W1.heap.size/\ko<W1.heap.size):=aa ⟨ae aE.out,ae cg.out,ae aJ.out,ae bU.out⟩;have cW:Hid (kf≠ko/\kd≠ko/\kr≠ko):=aa (by have h1:=ae zW.out;have h2:=ae zX.out;have h3:=ae zV.out;rw[Dd] at h1 h2 h3;omega);have jz:Hid (w.heap.size<=W1.heap.size):=aa HW.out.size;have KU:j=0\/j=1:=by omega
 rcases KU with rfl | rfl
 ·have fX:op=14:=jy.out;subst fX;clear jy;have bG:Hid (W1.heap.size<=W1.heap.size):=aa (ai _);rcases (kG fY.size).2 with hr | hr
  ·obtain⟨⟨o0,o1,o2,o3,o4⟩,eP,eO,eN,eL,dM⟩:=ak bU.out;obtain⟨m0,m1,i_,iZ⟩:=cO kU.out;obtain⟨⟨f0,f1,f2,f3,f4⟩,oV,oU,oS,oQ,oP⟩:=ak aE.out;have pV:=gw 48 48 (by decide) W1;obtain⟨x9,ky,ey,pW,hby,vB,mW⟩:=aM W1 #[.int .u8 48] 5;replace aE:=aS hby.out aE;replace cg:=aS hby.out cg;replace aJ:=aS hby.out aJ;replace bU:=aS hby.out bU;replace HW:=aa (HW.out.trans (hby.out.mono HW.out.size));rw[ey,pW] at pV;obtain⟨⟨p0,p1,p2,p3,p4⟩,wo,wm,wk,wj,wh⟩:=ak bU.out;replace bG:=aa (ah bG.out hby.out.size);go_upto_region 21 with fail;clear o0 eP o1 eO o2 eN o3 eL o4 dM m0 i_ m1 iZ f0 oV f1 oU f2 oS f3 oQ f4 oP p0 wo p1 wm p2 wk p3 wj p4 wh;try clear pV
   try clear hr
   rw[show ((⟨#[98]⟩:ByteArray)++⟨#[48]⟩)=⟨#[98,48]⟩ from rfl];have dD:x9.grownBy (x9.setCell ⟨ko,3,none⟩ (.string ⟨#[98,48]⟩)) (some ko):=by refine aF ?_ _;exact aI _ _
   have ga:(x9.setCell ⟨ko,3,none⟩ (.string ⟨#[98,48]⟩)).heap[ko]?=_:=(aC _ ko 3 _ _ (.string ⟨#[98,48]⟩) bU.out);obtain⟨W2,kg⟩:∃ q,q=x9.setCell ⟨ko,3,none⟩ (.string ⟨#[98,48]⟩):=⟨_,rfl⟩;rw[<-kg] at dD ga ⊢;have hfo:Fr 29 x9 W2:=.aL dD (fun j hj=>by injection hj with hj;subst hj;exact⟨_,bU.out,cH⟩);replace HW:=aa (bA HW.out dD kA.out);replace aE:=aa ((dD.block _ (ae aE.out) (fun e=>by injection e with e;exact cW.out.1 e)).trans aE.out);replace cg:=aa ((dD.block _ (ae cg.out) (fun e=>by injection e with e;exact cW.out.2.1 e)).trans cg.out);replace aJ:=aa ((dD.block _ (ae aJ.out) (fun e=>by injection e with e;exact cW.out.2.2 e)).trans aJ.out)
   have gl:Hid (W1.heap.size<=W2.heap.size):=aa (ah bG.out dD.size);replace bU:=aa ga;clear dD ga kg hfo bG;have bG:=gl;clear gl;have HT:Hid (iA w W1.heap.size kf kd kr ko ⟨xo,xb,fZ,xl,xc,fY,gu,fT,fU⟩ (1) 14 false none 0 0 (⟨#[98,48]⟩) (0) 0 [] (.slice none 0 0) [] W2):=aa (iA.zero bU.out aE.out cg.out aJ.out (sV _) iG.out cW.out kA.out HW.out bG.out);obtain⟨⟨o0,o1,o2,o3,o4⟩,eP,eO,eN,eL,dM⟩:=ak bU.out;obtain⟨⟨r0,r1,r2,r3,r4⟩,jx,jw,jP,jO,jN⟩:=ak aJ.out;go_wp2_with fail;clear o0 eP o1 eO o2 eN o3 eL o4 dM;have hg:=bR (w:=W2) (k:=kr) (.int .i64 14) (.bool false) (.slice none 0 0) (.string ⟨#[98,48]⟩) (.slice none 0 0)
   have hf:Fr 29 W2 _:=.aL hg (fun j hj=>by injection hj with hj;subst hj;exact⟨_,aJ.out,cH⟩);obtain⟨h1,h2,h3,h4⟩:=HT.out.fin hg hf (by unfold IR;decide) jz.out qu.out (by unfold gW;simp) (eU (by decide)) (fun _ _ _=>rfl) (by simp) (rfl);(try simp only[aK,aT]);exact aD (v:=.agg #[.int .i64 14,.bool false,.slice none 0 0,.string ⟨#[98,48]⟩,.slice none 0 0]) (by simp[results,bf,go_sem,r0,r1,r2,r3,r4]) rfl ⟨_,_,rfl,h1,h2,rfl,h3,h4⟩
  obtain⟨⟨o0,o1,o2,o3,o4⟩,eP,eO,eN,eL,dM⟩:=ak bU.out;obtain⟨m0,m1,i_,iZ⟩:=cO kU.out;obtain⟨⟨f0,f1,f2,f3,f4⟩,oV,oU,oS,oQ,oP⟩:=ak aE.out;have pV:=gw 49 49 (by decide) W1;obtain⟨x9,ky,ey,pW,hby,vB,mW⟩:=aM W1 #[.int .u8 49] 5;replace aE:=aS hby.out aE;replace cg:=aS hby.out cg;replace aJ:=aS hby.out aJ;replace bU:=aS hby.out bU;replace HW:=aa (HW.out.trans (hby.out.mono HW.out.size));rw[ey,pW] at pV;obtain⟨⟨p0,p1,p2,p3,p4⟩,wo,wm,wk,wj,wh⟩:=ak bU.out;replace bG:=aa (ah bG.out hby.out.size);go_upto_region 21 with fail;clear o0 eP o1 eO o2 eN o3 eL o4 dM m0 i_ m1 iZ f0 oV f1 oU f2 oS f3 oQ f4 oP p0 wo p1 wm p2 wk p3 wj p4 wh;try clear pV
  try clear hr
  rw[show ((⟨#[98]⟩:ByteArray)++⟨#[49]⟩)=⟨#[98,49]⟩ from rfl];have dD:x9.grownBy (x9.setCell ⟨ko,3,none⟩ (.string ⟨#[98,49]⟩)) (some ko):=by refine aF ?_ _;exact aI _ _
  have ga:(x9.setCell ⟨ko,3,none⟩ (.string ⟨#[98,49]⟩)).heap[ko]?=_:=(aC _ ko 3 _ _ (.string ⟨#[98,49]⟩) bU.out);obtain⟨W2,kg⟩:∃ q,q=x9.setCell ⟨ko,3,none⟩ (.string ⟨#[98,49]⟩):=⟨_,rfl⟩;rw[<-kg] at dD ga ⊢;have hfo:Fr 29 x9 W2:=.aL dD (fun j hj=>by injection hj with hj;subst hj;exact⟨_,bU.out,cH⟩);replace HW:=aa (bA HW.out dD kA.out);replace aE:=aa ((dD.block _ (ae aE.out) (fun e=>by injection e with e;exact cW.out.1 e)).trans aE.out);replace cg:=aa ((dD.block _ (ae cg.out) (fun e=>by injection e with e;exact cW.out.2.1 e)).trans cg.out);replace aJ:=aa ((dD.block _ (ae aJ.out) (fun e=>by injection e with e;exact cW.out.2.2 e)).trans aJ.out)
  have gl:Hid (W1.heap.size<=W2.heap.size):=aa (ah bG.out dD.size);replace bU:=aa ga;clear dD ga kg hfo bG;have bG:=gl;clear gl;have HT:Hid (iA w W1.heap.size kf kd kr ko ⟨xo,xb,fZ,xl,xc,fY,gu,fT,fU⟩ (1) 14 false none 0 0 (⟨#[98,49]⟩) (0) 0 [] (.slice none 0 0) [] W2):=aa (iA.zero bU.out aE.out cg.out aJ.out (sV _) iG.out cW.out kA.out HW.out bG.out);obtain⟨⟨o0,o1,o2,o3,o4⟩,eP,eO,eN,eL,dM⟩:=ak bU.out;obtain⟨⟨r0,r1,r2,r3,r4⟩,jx,jw,jP,jO,jN⟩:=ak aJ.out;go_wp2_with fail;clear o0 eP o1 eO o2 eN o3 eL o4 dM;have hg:=bR (w:=W2) (k:=kr) (.int .i64 14) (.bool false) (.slice none 0 0) (.string ⟨#[98,49]⟩) (.slice none 0 0)
  have hf:Fr 29 W2 _:=.aL hg (fun j hj=>by injection hj with hj;subst hj;exact⟨_,aJ.out,cH⟩);obtain⟨h1,h2,h3,h4⟩:=HT.out.fin hg hf (by unfold IR;decide) jz.out qu.out (by unfold gW;simp) (eU (by decide)) (fun _ _ _=>rfl) (by simp) (rfl);(try simp only[aK,aT]);exact aD (v:=.agg #[.int .i64 14,.bool false,.slice none 0 0,.string ⟨#[98,49]⟩,.slice none 0 0]) (by simp[results,bf,go_sem,r0,r1,r2,r3,r4]) rfl ⟨_,_,rfl,h1,h2,rfl,h3,h4⟩
 have fX:op=12:=jy.out;subst fX;clear jy;have bG:Hid (W1.heap.size<=W1.heap.size):=aa (ai _);have HT:Hid (iA w W1.heap.size kf kd kr ko ⟨xo,xb,fZ,xl,xc,fY,gu,fT,fU⟩ (1) 12 false none 0 0 (⟨#[]⟩) (0) 0 [] (.slice none 0 0) [] W1):=aa (iA.zero bU.out aE.out cg.out aJ.out (sV _) iG.out cW.out kA.out HW.out bG.out);obtain⟨⟨o0,o1,o2,o3,o4⟩,eP,eO,eN,eL,dM⟩:=ak bU.out;obtain⟨⟨r0,r1,r2,r3,r4⟩,jx,jw,jP,jO,jN⟩:=ak aJ.out;go_wp2_with fail;clear o0 eP o1 eO o2 eN o3 eL o4 dM;have hg:=bR (w:=W1) (k:=kr) (.int .i64 12) (.bool false) (.slice none 0 0) (.string ⟨#[]⟩) (.slice none 0 0);have hf:Fr 29 W1 _:=.aL hg (fun j hj=>by injection hj with hj;subst hj;exact⟨_,aJ.out,cH⟩)
 obtain⟨h1,h2,h3,h4⟩:=HT.out.fin hg hf (by unfold IR;decide) jz.out qu.out (by unfold gW;simp) (eU (by decide)) (fun _ _ _=>rfl) (by simp) (rfl);(try simp only[aK,aT]);exact aD (v:=.agg #[.int .i64 12,.bool false,.slice none 0 0,.string ⟨#[]⟩,.slice none 0 0]) (by simp[results,bf,go_sem,r0,r1,r2,r3,r4]) rfl ⟨_,_,rfl,h1,h2,rfl,h3,h4⟩
def wQ (j:Nat):Int:=[(8:Int),(9:Int)].getD j 0
theorem Mx (xo:Int) (xb:Bool) (fZ:Option cB) (xl xc:Nat) (fY:ByteArray) (gu:Option cB) (fT fU:Nat) (w:ag) (hx:pg w (0+1) ⟨xo,xb,fZ,xl,xc,fY,gu,fT,fU⟩) :
  Calls aj 13 #[.agg #[.int .i64 xo,.bool xb,.slice fZ xl xc,.string fY,.slice gu fT fU],.int .i64 2,.int .i64 1] w (mO (0+1) 2 w):=by
 obtain⟨-,hn,-,⟨iM,ff⟩,-⟩:=hx;simp only at hn iM ff;have Nn:fU<=9223372036854775807:=ff;obtain⟨m,hm⟩:∃ m,m=min xl 2:=⟨_,rfl⟩;have hmin:min (xl:Int) 2=(m:Int):=by omega
 have DH:m<=2:=by omega
 have hml:m<=xl:=by omega
 have r7:∃ q,GN w (.slice fZ m xc) q 2/\xl<=xc/\xc<=9223372036854775807:=by
  obtain⟨xs,hs,Ic⟩:=hn;have hl:=rT hs;obtain⟨_,_,e,h1,h2,_⟩:=id hs;injection e with e1 e2 e3;subst e3;exact⟨_,⟨xs.take m,hs.take m (by omega),Ic.take m,rfl,by rw[aX];omega⟩,by omega,h2⟩
 obtain⟨q,hq,hlc,hc⟩:=r7;have LU:m<=xc:=by omega
 have HG:=aa hq;clear hq hn hm ff;obtain⟨K,hK,KZ⟩:=qV xo;obtain⟨j,hj⟩:∃ j,j=K % 2:=⟨_,rfl⟩;have BV:((K:Nat):Int).tmod 2=((j:Nat):Int):=by rw[hj];exact (sQ K 2).symm
 have Tk:j<2:=by rw[hj];exact dZ _ (by decide)
 clear hj KZ;have HW:=aa (ax w.heap.size w);go_enter Tryz.func13,Tryz.ntmps13;obtain⟨x1,kf,ef,jK,bL,jc,aE⟩:=aM w #[.int .i64 xo,.bool xb,.slice fZ xl xc,.string fY,.slice gu fT fU] 29;replace HW:=aa (HW.out.trans (bL.out.mono HW.out.size));replace HG:=aa (HG.out.below bL.out);obtain⟨x2,kd,ed,T9,hbd,BT,cg⟩:=aM x1 #[.int .i64 1] 3;replace aE:=aS hbd.out aE;replace HW:=aa (HW.out.trans (hbd.out.mono HW.out.size));replace HG:=aa (HG.out.below hbd.out);obtain⟨x3,kr,er,pE,cN,iH,aJ⟩:=aM x2 #[.int .i64 0,.bool false,.slice none 0 0,.string ⟨#[]⟩,.slice none 0 0] 29;replace aE:=aS cN.out aE;replace cg:=aS cN.out cg;replace HW:=aa (HW.out.trans (cN.out.mono HW.out.size));replace HG:=aa (HG.out.below cN.out)
 have qu:Hid (w.heap.size<=kr):=aa (by have h1:=bL.out.size;have h2:=hbd.out.size;have h3:=iH.out;omega);obtain⟨x4,kp,ep,T8,rM,hkp,vG⟩:=aM x3 #[.int .i64 1,.int .i64 0,.int .i64 2,.int .i64 3,.int .i64 4,.int .i64 5,.int .i64 6,.int .i64 7] 22;replace aE:=aS rM.out aE;replace cg:=aS rM.out cg;replace aJ:=aS rM.out aJ;replace HW:=aa (HW.out.trans (rM.out.mono HW.out.size));replace HG:=aa (HG.out.below rM.out);obtain⟨x5,kq,eq,zE,gQ,sk,jX⟩:=aM x4 #[.int .i64 14,.int .i64 12,.int .i64 13,.int .i64 15,.int .i64 16,.int .i64 16,.int .i64 17,.int .i64 18,.int .i64 19,.int .i64 20] 22;replace aE:=aS gQ.out aE;replace cg:=aS gQ.out cg;replace aJ:=aS gQ.out aJ;replace HW:=aa (HW.out.trans (gQ.out.mono HW.out.size))
 replace HG:=aa (HG.out.below gQ.out);obtain⟨x6,kt,et,Lg,dm,ng,yh⟩:=aM x5 #[.int .i64 8,.int .i64 9,.int .i64 10,.int .i64 11] 22;replace aE:=aS dm.out aE;replace cg:=aS dm.out cg;replace aJ:=aS dm.out aJ;replace HW:=aa (HW.out.trans (dm.out.mono HW.out.size));replace HG:=aa (HG.out.below dm.out);have hidx:=Kv (some ⟨kp,0,none⟩) (some ⟨kq,0,none⟩) (some ⟨kt,0,none⟩) 8 10 4 8 10 4;obtain⟨⟨f0,f1,f2,f3,f4⟩,oV,oU,oS,oQ,oP⟩:=ak aE.out;have d0:=af (v:=.int .i64 1) cg.out 0 rfl;have tK:=aP cg.out 0;have hop:x6.cell? ⟨kt,j,none⟩=some (.int .i64 (wQ j)):=by
  have:j=0\/j=1:=by omega
  rcases this with rfl | rfl<;>exact af yh.out _ rfl
 obtain⟨op,oB⟩:∃ op,op=wQ j:=⟨_,rfl⟩;rw[<-oB] at hop;have jy:=aa oB;clear oB;go_upto_region 7 with fail;clear f0 oV f1 oU f2 oS f3 oQ f4 oP d0 tK hop;clear hidx BV hK;have ID:=HW;have zW:=aE;have zX:=cg;have zV:=aJ;obtain⟨x7,ko,eo,Dd,ga,H_,bU⟩:=aM x6 #[.int .i64 op,.bool false,.slice none 0 0,.string ⟨#[]⟩,.slice none 0 0] 29;replace aE:=aS ga.out aE;replace cg:=aS ga.out cg;replace aJ:=aS ga.out aJ;replace HW:=aa (HW.out.trans (ga.out.mono HW.out.size));replace HG:=aa (HG.out.below ga.out);rw[eo,Dd];have kA:Hid (w.heap.size<=ko):=aa (by have:=ID.out.size;have:=H_.out;omega);go_upto_region 8 with fail;have HY:=aa (ax x7.heap.size x7);have qw:=aE;have qx:=cg;have qY:=aJ;have kR:=bU
 have fB:=ae aE.out;have ik:Hid (∀ q,q<0->(fun q=>0) q<x7.heap.size):=aa (fun q h=>absurd h (ay _));refine R7.region (by kernel_rfl) [[],[0],[0,1],[],[3],[3,4],[],[6],[6,7],[6,7,8],[6,7,8,9],[3,4,5,6,7,8,9,10],[0,1,2,3,4,5,6,7,8,9,10,11],[],[0,1,2,3,4,5,6,7,8,9,10,11,12,13]] [] [] (fun q=>0) 0 14 (by kernel_rfl) (by kernel_rfl) (by rfl) ik.out (fun q q' h h' hn=>absurd hn (by omega)) ?_;refine R7.aB.da ?_ (by rfl) (fun T xs wr hA=>?_) ?_;rotate_left 1
 ·have e3:=hA.pre 3 (by kernel_rfl);simp only[g_,iC,iz] at e3;clear hA;refine⟨(by rfl),?_⟩;go_simp<;>(try with_reducible rfl)
 refine R7.aB.da ?_ (by rfl) (fun T xs wr hA=>?_) ?_;rotate_left 1
 ·have Gc:=hA.tm 0 36 (by rfl) (by rfl);have f36:xs 0=_:=hA.fa 0 (by rfl);(try simp (disch:=first | rfl | decide) only [R7.an] at f36);rw[f36] at Gc;clear f36;clear hA;refine⟨(by rfl),?_⟩;go_simp<;>(try with_reducible rfl)
 refine R7.aB.da ?_ (by rfl) (fun T xs wr hA=>?_) ?_;rotate_left 1
 ·have Dg:=hA.tm 1 37 (by rfl) (by rfl);have f37:xs 1=_:=hA.fa 1 (by rfl);(try simp (disch:=first | rfl | decide) only [R7.an] at f37);rw[f37] at Dg;clear f37;have bx:wr.heap[kf]?=_:=(hA.bl _ fB (fun q h=>absurd h (ay _))).trans aE.out;have q0:=af (v:=.int .i64 xo) bx 0 rfl;have q1:=af (v:=.bool xb) bx 1 rfl;have q2:=af (v:=.slice fZ xl xc) bx 2 rfl;have q3:=af (v:=.string fY) bx 3 rfl;have q4:=af (v:=.slice gu fT fU) bx 4 rfl;clear bx;clear hA;refine⟨(by rfl),?_⟩;go_simp<;>(try with_reducible rfl)
 refine R7.aB.da ?_ (by rfl) (fun T xs wr hA=>?_) ?_;rotate_left 1
 ·have e3:=hA.pre 3 (by kernel_rfl);simp only[g_,iC,iz] at e3;clear hA;refine⟨(by rfl),?_⟩;go_simp<;>(try with_reducible rfl)
 refine R7.aB.da ?_ (by rfl) (fun T xs wr hA=>?_) ?_;rotate_left 1
 ·have Ba:=hA.tm 3 39 (by rfl) (by rfl);have f39:xs 3=_:=hA.fa 3 (by rfl);(try simp (disch:=first | rfl | decide) only [R7.an] at f39);rw[f39] at Ba;clear f39;clear hA;refine⟨(by rfl),?_⟩;go_simp<;>(try with_reducible rfl)
 refine R7.aB.da ?_ (by rfl) (fun T xs wr hA=>?_) ?_;rotate_left 1
 ·have Af:=hA.tm 4 40 (by rfl) (by rfl);have f40:xs 4=_:=hA.fa 4 (by rfl);(try simp (disch:=first | rfl | decide) only [R7.an] at f40);rw[f40] at Af;clear f40;have bx:wr.heap[kf]?=_:=(hA.bl _ fB (fun q h=>absurd h (ay _))).trans aE.out;have q0:=af (v:=.int .i64 xo) bx 0 rfl;have q1:=af (v:=.bool xb) bx 1 rfl;have q2:=af (v:=.slice fZ xl xc) bx 2 rfl;have q3:=af (v:=.string fY) bx 3 rfl;have q4:=af (v:=.slice gu fT fU) bx 4 rfl;clear bx;clear hA;refine⟨(by rfl),?_⟩;go_simp<;>(try with_reducible rfl)
 refine R7.aB.da ?_ (by rfl) (fun T xs wr hA=>?_) ?_;rotate_left 1
 ·have e3:=hA.pre 3 (by kernel_rfl);simp only[g_,iC,iz] at e3;clear hA;refine⟨(by rfl),?_⟩;go_simp<;>(try with_reducible rfl)
 refine R7.aB.da ?_ (by rfl) (fun T xs wr hA=>?_) ?_;rotate_left 1
 ·have Cl:=hA.tm 6 42 (by rfl) (by rfl);have f42:xs 6=_:=hA.fa 6 (by rfl);(try simp (disch:=first | rfl | decide) only [R7.an] at f42);rw[f42] at Cl;clear f42;clear hA;refine⟨(by rfl),?_⟩;go_simp<;>(try with_reducible rfl)
 refine R7.aB.da ?_ (by rfl) (fun T xs wr hA=>?_) ?_;rotate_left 1
 ·have tL:=hA.tm 7 43 (by rfl) (by rfl);have f43:xs 7=_:=hA.fa 7 (by rfl);(try simp (disch:=first | rfl | decide) only [R7.an] at f43);rw[f43] at tL;clear f43;have bx:wr.heap[kf]?=_:=(hA.bl _ fB (fun q h=>absurd h (ay _))).trans aE.out;have q0:=af (v:=.int .i64 xo) bx 0 rfl;have q1:=af (v:=.bool xb) bx 1 rfl;have q2:=af (v:=.slice fZ xl xc) bx 2 rfl;have q3:=af (v:=.string fY) bx 3 rfl;have q4:=af (v:=.slice gu fT fU) bx 4 rfl;clear bx;clear hA;refine⟨(by rfl),?_⟩;go_simp<;>(try with_reducible rfl)
 refine R7.aB.da ?_ (by rfl) (fun T xs wr hA=>?_) ?_;rotate_left 1
 ·have uw:=hA.tm 8 44 (by rfl) (by rfl);have f44:xs 8=_:=hA.fa 8 (by rfl);(try simp (disch:=first | rfl | decide) only [R7.an] at f44);rw[f44] at uw;clear f44;clear hA;refine⟨(by rfl),?_⟩;go_simp<;>(try with_reducible rfl)
 refine R7.aB.da ?_ (by rfl) (fun T xs wr hA=>?_) ?_;rotate_left 1
 ·have xA:=hA.tm 9 45 (by rfl) (by rfl);have f45:xs 9=_:=hA.fa 9 (by rfl);(try simp (disch:=first | rfl | decide) only [R7.an] at f45);rw[f45] at xA;clear f45;clear hA;refine⟨(by rfl),?_⟩;go_simp<;>(try with_reducible rfl)
 refine R7.aB.da ?_ (by rfl) (fun T xs wr hA=>?_) ?_;rotate_left 1
 ·have Cm:=hA.tm 5 41 (by rfl) (by rfl);have f41:xs 5=_:=hA.fa 5 (by rfl);(try simp (disch:=first | rfl | decide) only [R7.an] at f41);rw[f41] at Cm;clear f41;have wA:=hA.tm 10 46 (by rfl) (by rfl);have f46:xs 10=_:=hA.fa 10 (by rfl);(try simp (disch:=first | rfl | decide) only [R7.an] at f46);rw[f46] at wA;clear f46;clear hA;refine⟨(by rfl),?_⟩;go_simp<;>(try with_reducible rfl)
 refine R7.aB.call (fun xs v w=>∃ z,CI w v z 2) (fun _ _ _ _ h hb=>by obtain⟨z,h2⟩:=h;exact⟨z,h2.below hb⟩) (fun _ _ _ _ _ _ h _=>by obtain⟨q,hq,_⟩:=h;exact absurd hq (ay _)) (by rfl) (fun T xs wr hA=>?_) ?_
 ·have th:=(hA.be 0 (au _) (fun _ _=>au _)).size;have Df:=hA.tm 2 38 (by rfl) (by rfl);have f38:xs 2=_:=hA.fa 2 (by rfl);(try simp (disch:=first | rfl | decide) only [R7.an] at f38);rw[f38] at Df;clear f38;have xz:=hA.tm 11 47 (by rfl) (by rfl);have f47:xs 11=_:=hA.fa 11 (by rfl);(try simp (disch:=first | rfl | decide) only [R7.an] at f47);rw[f47] at xz;clear f47;have kD:=cm (hA.be x7.heap.size (ai _) (fun q h=>absurd h (ay q)));clear hA;refine⟨(by rfl),fun K hK=>?_⟩;go_simp;refine (nH xb _ q 2 wr (HG.out.below kD) (by decide)).mono ?_;rintro e w' ⟨v,rfl,hc,hb'⟩;exact hK.out _ _ ⟨_,hc⟩ hb'
 refine R7.aB.call (fun xs v w=>∃ g,v=.pointer (some ⟨g,0,none⟩)/\x7.heap.size<=g/\w.heap[g]?=some (.cells #[.bool false,.slice none 0 0] 26 (0,0))) (fun _ _ _ _ h hb=>by obtain⟨g,h1,h2,h3⟩:=h;exact⟨g,h1,h2,by rw[hb.block g (ae h3)];exact h3⟩) (fun _ _ _ _ _ _ h _=>by obtain⟨q,hq,_⟩:=h;exact absurd hq (ay _)) (by rfl) (fun T xs wr hA=>?_) ?_
 ·have th:=(hA.be 0 (au _) (fun _ _=>au _)).size;have kD:=cm (hA.be x7.heap.size (ai _) (fun q h=>absurd h (ay q)));clear hA;refine⟨(by rfl),fun K hK=>?_⟩;go_simp;exact hK.out _ _ ⟨_,rfl,kD.size,dh _ _ _ rfl⟩ ((ax _ _).alloc (ai _) _)
 refine R7.aB.done (fun xs x8 hL=>?_);obtain⟨⟨iY,dw⟩,hf,-,-⟩:=hL;have f0:xs 0=_:=hf 0 (by decide);(try simp (disch:=first | rfl | decide) only [R7.an] at f0);have f1:xs 1=_:=hf 1 (by decide);(try simp (disch:=first | rfl | decide) only [R7.an] at f1);have f2:xs 2=_:=hf 2 (by decide);(try simp (disch:=first | rfl | decide) only [R7.an] at f2);have f3:xs 3=_:=hf 3 (by decide);(try simp (disch:=first | rfl | decide) only [R7.an] at f3);have f4:xs 4=_:=hf 4 (by decide);(try simp (disch:=first | rfl | decide) only [R7.an] at f4);have f5:xs 5=_:=hf 5 (by decide);(try simp (disch:=first | rfl | decide) only [R7.an] at f5);have f6:xs 6=_:=hf 6 (by decide);(try simp (disch:=first | rfl | decide) only [R7.an] at f6);have f7:xs 7=_:=hf 7 (by decide)
 (try simp (disch:=first | rfl | decide) only [R7.an] at f7);have f8:xs 8=_:=hf 8 (by decide);(try simp (disch:=first | rfl | decide) only [R7.an] at f8);have f9:xs 9=_:=hf 9 (by decide);(try simp (disch:=first | rfl | decide) only [R7.an] at f9);have f10:xs 10=_:=hf 10 (by decide);(try simp (disch:=first | rfl | decide) only [R7.an] at f10);have f11:xs 11=_:=hf 11 (by decide);(try simp (disch:=first | rfl | decide) only [R7.an] at f11);have LM:∃ z,CI x8 (xs 12) z 2:=hf 12 (by decide);have LL:∃ g,(xs 13)=.pointer (some ⟨g,0,none⟩)/\x7.heap.size<=g/\x8.heap[g]?=some (.cells #[.bool false,.slice none 0 0] 26 (0,0)):=hf 13 (by decide);have hb0:aA 0 x7 x8:=cm (iY 0 (au _) (fun _ _=>au _))
 have mP:∀ j,j<x7.heap.size->(∀ q,q<0->(fun q=>0) q≠j)->x8.heap[j]?=x7.heap[j]?:=dw;clear iY dw hf;have hb:aA x7.heap.size x7 x8:=⟨hb0.os,hb0.tape,hb0.output,hb0.size,fun q hq=>mP q hq (fun q h=>absurd h (ay _))⟩;refine R7.jD (by decide) (by kernel_rfl) ?_;simp only[R7.fill,Jo,Jn,Jm,Jl,GG,GF,GD,f0,f1,f2,f3,f4,f5,f6,f7,f8,f9,f10,f11];clear hb0 mP ik fB f0 f1 f2 f3 f4 f5 f6 f7 f8 f9 f10 f11;replace aE:=aS hb aE;replace cg:=aS hb cg;replace aJ:=aS hb aJ;replace bU:=aS hb bU;replace HW:=aa (HW.out.trans (hb.mono HW.out.size));replace HY:=aa (HY.out.trans (hb.mono HY.out.size));replace hb:=aa hb;obtain⟨z,tI⟩:=LM;obtain⟨zb,zo,zl,zc,zi⟩:=tI.shape;obtain⟨km,hkm,oD,sn⟩:=LL;rw[zi] at tI;rw[zi,hkm];have kU:=aa sn
 clear tI zi hkm sn;obtain⟨m0,m1,i_,iZ⟩:=cO kU.out;go_upto_region 9 with fail;clear m0 i_ m1 iZ;have fg:=mA (w:=x8) (k:=km) (.bool zb) (.slice zo zl zc);have eH:((x8.setCell ⟨km,0,none⟩ (.bool zb)).setCell ⟨km,1,none⟩ (.slice zo zl zc)).heap[km]?=_:=aC _ km 1 _ _ _ (aC _ km 0 _ _ _ kU.out);obtain⟨W1,nN⟩:∃ q,q=(x8.setCell ⟨km,0,none⟩ (.bool zb)).setCell ⟨km,1,none⟩ (.slice zo zl zc):=⟨_,rfl⟩;rw[<-nN] at fg eH ⊢;have lZ:Fr 26 x8 W1:=.aL fg (fun j hj=>by injection hj with hj;subst hj;exact⟨_,kU.out,qb⟩);have LF:Hid (w.heap.size<=km):=aa (ah (by have:=kA.out;have:=ae kR.out;omega) oD);replace HW:=aa (bA HW.out fg LF.out);replace HY:=aa (bA HY.out fg oD)
 replace aE:=aa ((HY.out.block _ (ae qw.out)).trans qw.out);replace cg:=aa ((HY.out.block _ (ae qx.out)).trans qx.out);replace aJ:=aa ((HY.out.block _ (ae qY.out)).trans qY.out);replace bU:=aa ((HY.out.block _ (ae kR.out)).trans kR.out);replace kU:=aa eH;clear fg eH nN lZ oD;have iG:Hid (kf<W1.heap.size/\kd<W1.heap.size/\kr<W1.heap.size/\ko<W1.heap.size):=aa ⟨ae aE.out,ae cg.out,ae aJ.out,ae bU.out⟩;have cW:Hid (kf≠ko/\kd≠ko/\kr≠ko):=aa (by have h1:=ae zW.out;have h2:=ae zX.out;have h3:=ae zV.out;rw[Dd] at h1 h2 h3;omega);have jz:Hid (w.heap.size<=W1.heap.size):=aa HW.out.size;have KU:j=0\/j=1:=by omega
 rcases KU with rfl | rfl
 ·have fX:op=8:=jy.out;subst fX;clear jy;have bG:Hid (W1.heap.size<=W1.heap.size):=aa (ai _);rcases (kG fY.size).2 with hr | hr
  ·obtain⟨⟨o0,o1,o2,o3,o4⟩,eP,eO,eN,eL,dM⟩:=ak bU.out;obtain⟨m0,m1,i_,iZ⟩:=cO kU.out;obtain⟨⟨f0,f1,f2,f3,f4⟩,oV,oU,oS,oQ,oP⟩:=ak aE.out;have pV:=gw 48 48 (by decide) W1;obtain⟨x9,ky,ey,pW,hby,vB,mW⟩:=aM W1 #[.int .u8 48] 5;replace aE:=aS hby.out aE;replace cg:=aS hby.out cg;replace aJ:=aS hby.out aJ;replace bU:=aS hby.out bU;replace HW:=aa (HW.out.trans (hby.out.mono HW.out.size));rw[ey,pW] at pV;obtain⟨⟨p0,p1,p2,p3,p4⟩,wo,wm,wk,wj,wh⟩:=ak bU.out;replace bG:=aa (ah bG.out hby.out.size);go_upto_region 21 with fail;clear o0 eP o1 eO o2 eN o3 eL o4 dM m0 i_ m1 iZ f0 oV f1 oU f2 oS f3 oQ f4 oP p0 wo p1 wm p2 wk p3 wj p4 wh;try clear pV
   try clear hr
   rw[show ((⟨#[108]⟩:ByteArray)++⟨#[48]⟩)=⟨#[108,48]⟩ from rfl];have dD:x9.grownBy (x9.setCell ⟨ko,3,none⟩ (.string ⟨#[108,48]⟩)) (some ko):=by refine aF ?_ _;exact aI _ _
   have ga:(x9.setCell ⟨ko,3,none⟩ (.string ⟨#[108,48]⟩)).heap[ko]?=_:=(aC _ ko 3 _ _ (.string ⟨#[108,48]⟩) bU.out);obtain⟨W2,kg⟩:∃ q,q=x9.setCell ⟨ko,3,none⟩ (.string ⟨#[108,48]⟩):=⟨_,rfl⟩;rw[<-kg] at dD ga ⊢;have hfo:Fr 29 x9 W2:=.aL dD (fun j hj=>by injection hj with hj;subst hj;exact⟨_,bU.out,cH⟩);replace HW:=aa (bA HW.out dD kA.out);replace aE:=aa ((dD.block _ (ae aE.out) (fun e=>by injection e with e;exact cW.out.1 e)).trans aE.out);replace cg:=aa ((dD.block _ (ae cg.out) (fun e=>by injection e with e;exact cW.out.2.1 e)).trans cg.out);replace aJ:=aa ((dD.block _ (ae aJ.out) (fun e=>by injection e with e;exact cW.out.2.2 e)).trans aJ.out)
   have gl:Hid (W1.heap.size<=W2.heap.size):=aa (ah bG.out dD.size);replace bU:=aa ga;clear dD ga kg hfo bG;have bG:=gl;clear gl;have HT:Hid (iA w W1.heap.size kf kd kr ko ⟨xo,xb,fZ,xl,xc,fY,gu,fT,fU⟩ (1) 8 false none 0 0 (⟨#[108,48]⟩) (0) 0 [] (.slice none 0 0) [] W2):=aa (iA.zero bU.out aE.out cg.out aJ.out (sV _) iG.out cW.out kA.out HW.out bG.out);obtain⟨⟨o0,o1,o2,o3,o4⟩,eP,eO,eN,eL,dM⟩:=ak bU.out;obtain⟨⟨r0,r1,r2,r3,r4⟩,jx,jw,jP,jO,jN⟩:=ak aJ.out;go_wp2_with fail;clear o0 eP o1 eO o2 eN o3 eL o4 dM;have hg:=bR (w:=W2) (k:=kr) (.int .i64 8) (.bool false) (.slice none 0 0) (.string ⟨#[108,48]⟩) (.slice none 0 0)
   have hf:Fr 29 W2 _:=.aL hg (fun j hj=>by injection hj with hj;subst hj;exact⟨_,aJ.out,cH⟩);obtain⟨h1,h2,h3,h4⟩:=HT.out.fin hg hf (by unfold IR;decide) jz.out qu.out (by unfold gW;simp) (eU (by decide)) (fun _ _ _=>rfl) (by simp) (rfl);(try simp only[aK,aT]);exact aD (v:=.agg #[.int .i64 8,.bool false,.slice none 0 0,.string ⟨#[108,48]⟩,.slice none 0 0]) (by simp[results,bf,go_sem,r0,r1,r2,r3,r4]) rfl ⟨_,_,rfl,h1,h2,rfl,h3,h4⟩
  obtain⟨⟨o0,o1,o2,o3,o4⟩,eP,eO,eN,eL,dM⟩:=ak bU.out;obtain⟨m0,m1,i_,iZ⟩:=cO kU.out;obtain⟨⟨f0,f1,f2,f3,f4⟩,oV,oU,oS,oQ,oP⟩:=ak aE.out;have pV:=gw 49 49 (by decide) W1;obtain⟨x9,ky,ey,pW,hby,vB,mW⟩:=aM W1 #[.int .u8 49] 5;replace aE:=aS hby.out aE;replace cg:=aS hby.out cg;replace aJ:=aS hby.out aJ;replace bU:=aS hby.out bU;replace HW:=aa (HW.out.trans (hby.out.mono HW.out.size));rw[ey,pW] at pV;obtain⟨⟨p0,p1,p2,p3,p4⟩,wo,wm,wk,wj,wh⟩:=ak bU.out;replace bG:=aa (ah bG.out hby.out.size);go_upto_region 21 with fail;clear o0 eP o1 eO o2 eN o3 eL o4 dM m0 i_ m1 iZ f0 oV f1 oU f2 oS f3 oQ f4 oP p0 wo p1 wm p2 wk p3 wj p4 wh;try clear pV
  try clear hr
  rw[show ((⟨#[108]⟩:ByteArray)++⟨#[49]⟩)=⟨#[108,49]⟩ from rfl];have dD:x9.grownBy (x9.setCell ⟨ko,3,none⟩ (.string ⟨#[108,49]⟩)) (some ko):=by refine aF ?_ _;exact aI _ _
  have ga:(x9.setCell ⟨ko,3,none⟩ (.string ⟨#[108,49]⟩)).heap[ko]?=_:=(aC _ ko 3 _ _ (.string ⟨#[108,49]⟩) bU.out);obtain⟨W2,kg⟩:∃ q,q=x9.setCell ⟨ko,3,none⟩ (.string ⟨#[108,49]⟩):=⟨_,rfl⟩;rw[<-kg] at dD ga ⊢;have hfo:Fr 29 x9 W2:=.aL dD (fun j hj=>by injection hj with hj;subst hj;exact⟨_,bU.out,cH⟩);replace HW:=aa (bA HW.out dD kA.out);replace aE:=aa ((dD.block _ (ae aE.out) (fun e=>by injection e with e;exact cW.out.1 e)).trans aE.out);replace cg:=aa ((dD.block _ (ae cg.out) (fun e=>by injection e with e;exact cW.out.2.1 e)).trans cg.out);replace aJ:=aa ((dD.block _ (ae aJ.out) (fun e=>by injection e with e;exact cW.out.2.2 e)).trans aJ.out)
  have gl:Hid (W1.heap.size<=W2.heap.size):=aa (ah bG.out dD.size);replace bU:=aa ga;clear dD ga kg hfo bG;have bG:=gl;clear gl;have HT:Hid (iA w W1.heap.size kf kd kr ko ⟨xo,xb,fZ,xl,xc,fY,gu,fT,fU⟩ (1) 8 false none 0 0 (⟨#[108,49]⟩) (0) 0 [] (.slice none 0 0) [] W2):=aa (iA.zero bU.out aE.out cg.out aJ.out (sV _) iG.out cW.out kA.out HW.out bG.out);obtain⟨⟨o0,o1,o2,o3,o4⟩,eP,eO,eN,eL,dM⟩:=ak bU.out;obtain⟨⟨r0,r1,r2,r3,r4⟩,jx,jw,jP,jO,jN⟩:=ak aJ.out;go_wp2_with fail;clear o0 eP o1 eO o2 eN o3 eL o4 dM;have hg:=bR (w:=W2) (k:=kr) (.int .i64 8) (.bool false) (.slice none 0 0) (.string ⟨#[108,49]⟩) (.slice none 0 0)
  have hf:Fr 29 W2 _:=.aL hg (fun j hj=>by injection hj with hj;subst hj;exact⟨_,aJ.out,cH⟩);obtain⟨h1,h2,h3,h4⟩:=HT.out.fin hg hf (by unfold IR;decide) jz.out qu.out (by unfold gW;simp) (eU (by decide)) (fun _ _ _=>rfl) (by simp) (rfl);(try simp only[aK,aT]);exact aD (v:=.agg #[.int .i64 8,.bool false,.slice none 0 0,.string ⟨#[108,49]⟩,.slice none 0 0]) (by simp[results,bf,go_sem,r0,r1,r2,r3,r4]) rfl ⟨_,_,rfl,h1,h2,rfl,h3,h4⟩
 have fX:op=9:=jy.out;subst fX;clear jy;have bG:Hid (W1.heap.size<=W1.heap.size):=aa (ai _);have HT:Hid (iA w W1.heap.size kf kd kr ko ⟨xo,xb,fZ,xl,xc,fY,gu,fT,fU⟩ (1) 9 false none 0 0 (⟨#[]⟩) (0) 0 [] (.slice none 0 0) [] W1):=aa (iA.zero bU.out aE.out cg.out aJ.out (sV _) iG.out cW.out kA.out HW.out bG.out);obtain⟨⟨o0,o1,o2,o3,o4⟩,eP,eO,eN,eL,dM⟩:=ak bU.out;obtain⟨⟨r0,r1,r2,r3,r4⟩,jx,jw,jP,jO,jN⟩:=ak aJ.out;go_wp2_with fail;clear o0 eP o1 eO o2 eN o3 eL o4 dM;have hg:=bR (w:=W1) (k:=kr) (.int .i64 9) (.bool false) (.slice none 0 0) (.string ⟨#[]⟩) (.slice none 0 0);have hf:Fr 29 W1 _:=.aL hg (fun j hj=>by injection hj with hj;subst hj;exact⟨_,aJ.out,cH⟩)
 obtain⟨h1,h2,h3,h4⟩:=HT.out.fin hg hf (by unfold IR;decide) jz.out qu.out (by unfold gW;simp) (eU (by decide)) (fun _ _ _=>rfl) (by simp) (rfl);(try simp only[aK,aT]);exact aD (v:=.agg #[.int .i64 9,.bool false,.slice none 0 0,.string ⟨#[]⟩,.slice none 0 0]) (by simp[results,bf,go_sem,r0,r1,r2,r3,r4]) rfl ⟨_,_,rfl,h1,h2,rfl,h3,h4⟩
end Go.Proofs.YtoncclhbdkjhmaaGreatDoor
