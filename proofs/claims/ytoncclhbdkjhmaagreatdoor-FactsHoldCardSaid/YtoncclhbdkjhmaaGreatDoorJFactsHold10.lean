/-
 Joined texts: FbF,FbP,FbG,FbR,FbH,KTab,LgBi,VlO,LgZft.
-/
import Derived.Laws.EntriesVeiled
import Derived.Test.YtoncclhbdkjhmaaGreatDoorCards
import Derived.Test.YtoncclhbdkjhmaaGreatDoorTie
import Derived.ProofKit
import Derived.OpenShut
import Derived.ShutString
import Derived.ChangeOld
import Derived.Deep.DeepHandedRow
import Derived.Lib.LaidTab
import Derived.LaidMore
import Derived.Lay
import Derived.Lib.ItoaNum
import Derived.PinnedBridge
import Derived.Lib.LaidU8
import Derived.Lib.LaidPrint
import Derived.Deep.Slices
import Derived.Test.YtoncclhbdkjhmaaGreatDoorJFactsHold1
import Derived.Test.YtoncclhbdkjhmaaGreatDoorJFactsHold3
import Derived.Test.YtoncclhbdkjhmaaGreatDoorJFactsHold4
import Derived.Test.YtoncclhbdkjhmaaGreatDoorJFactsHold6
import Derived.Test.YtoncclhbdkjhmaaGreatDoorJFactsHold7
import Derived.Test.YtoncclhbdkjhmaaGreatDoorJFactsHold9
set_option maxHeartbeats 32000000
open Go renaming lt_of_block→ae,World→ag,Value→aq,bodyPost_ret→aD,Calls→aW,TypeId→bn,maxLen→bI
open Go.Builtin renaming append_→jv
open Go.DataW renaming trod→jY
open Go.Exit renaming inBlock→aK,«then»→aT
open Go.Lib renaming hid→aa
open Go.Lib.laidMet renaming reads→gX
open Go.Proofs.Tryz renaming prog→aj,underlying9→fh,underlying4→lJ
open Go.RowKit renaming Below→aA,intOf→ei
open Go.RowKit.Below renaming refl→ax
open Go.Value renaming slice→jm
open List renaming not_mem_nil→aU,length_take→aX,take_succ_eq_append_getElem→bH,take_length→bK,map_append→cn,getElem_mem→ct,length_map→cT,flatMap_cons→fI,flatMap_append→LQ
open Nat renaming le_trans→ah,le_refl→ai,zero_le→au,not_lt_zero→ay,lt_of_lt_of_le→az,mul_le_mul_right→aV,min_eq_left→cX
namespace Go.Proofs.YtoncclhbdkjhmaaGreatDoor
open Go.RowKit
set_option maxRecDepth 100000
set_option linter.unusedVariables false
set_option linter.unusedSimpArgs false
attribute [local go_sem] eF eE eC eB
theorem Az {P:Program} {w w':ag} {t ty e:bn} {i:TypeInfo} {z:aq} (ht:P.underlying t=some (.slice e)) (hi:P.info? e=some i) (hz:i.zero=some z)
  {base n m c:Nat} {v v':aq} {xs news:List aq} (hown:w.ownsRow base e i.size v n xs) {a:Addr} (hl:news.length=m*i.size) (hnews:∀ j u,news[j]?=some u->w.cell? (a.add j)=some u) (h1:∀ u ∈ news,u.oneCell'=true)
  (h63:n+m<=1000000000) (hbytes:(n+m)*i.bytes<=140737488355328) (hzs:z.cells.size=i.size) (hsz:0<i.size)
  (hr:(jv #[t,t] ty #[v,.slice (some a) m c]).run P w=.ok v' w'):mX w v v':=by
 rcases hown.2 with ⟨rfl,rfl⟩ | ⟨g,cap,cur,rfl,hbg,hg,hnc,NG,hcs,htake⟩
 ·have hx:xs=[]:=List.eq_nil_of_length_eq_zero (by simpa using hown.1);subst hx;obtain⟨v2,w2,uB,SW,_,_⟩:=run_append_own (P:=P) w w.heap.size t ty e i z i.size i.bytes ht hi hz rfl rfl hzs hsz (.slice none 0 0) 0 [] (World.ownsRow_nil w _ e i.size) a m c news hl hnews h1 (by unfold bI;omega) hbytes (ai _);rw[hr] at uB;injection uB with e1 e2;subst e1;exact fun g hg=>.inr (SW.lt g hg).1
 by_cases hroom:n+m<=cap
 ·have hfit:n*i.size+news.length<=cur.size:=by rw[hl,hcs,<-Nat.add_mul];exact aV _ hroom
  rw[run_append_room (P:=P) w t ty e i ht hi g n cap cur hg a m c news hl hnews h1 hroom hfit] at hr;injection hr with e1 e2;subst e1;exact fun q hq=>.inl hq
 rw[run_append_grow (P:=P) w t ty e i z ht hi hz ⟨g,0,none⟩ n cap xs hown.1 (hown.cells (g:=g) rfl) a m c news hl hnews (by omega) (by omega) (growslice_fits (by omega) hbytes)] at hr;injection hr with e1 e2;subst e1;intro q hq;injection hq with hq;exact .inr (by rw[<-hq];exact ai _)
theorem Ea {α:Type} {E:El α} {w w':ag} {B:Nat} {v x v':aq} {el ns:List α} (h:E.Row w B v el) (hx:E.At w x ns) (hlen:el.length+ns.length<=1000000) (ty:bn) (hr:(jv #[E.t,E.t] ty #[v,x]).run aj w=.ok v' w'):mX w v v':=by
 obtain⟨i,hi,hz,gV,pJ⟩:=info_parts E.info;obtain⟨ao,c,rfl,⟨-,-,h3⟩,h4⟩:=id hx;cases ao with
 | none =>
  have h0:ns=[]:=by
   cases ns with
   | nil=>rfl
   | cons a l=>obtain⟨_,hb,_⟩:=h4 0 (by simp);cases hb
  have hc:c=0:=h3 rfl;subst h0;subst hc;have uB:=run_append_owned_none w B E.t ty E.e i E.n E.ht hi v el.length _ h.own;rw[show (List.length ([]:List α))=0 from rfl] at hr;rw[hr] at uB;injection uB with e1 e2;subst e1;exact fun g hg=>.inl hg
 | some a =>
  have hl:(ns.flatMap E.f).length=ns.length*i.size:=by rw[gV];exact jI E.f E.len ns
  have h1:∀ u ∈ ns.flatMap E.f,u.oneCell'=true:=fun u hu=>by
   obtain⟨b,_,hb⟩:=List.mem_flatMap.1 hu;exact E.one b u hb
  have hown:w.ownsRow B E.e i.size v el.length (el.flatMap E.f):=by rw[gV];exact h.own
  exact Az (P:=aj) E.ht hi hz hown hl hx.news h1 (by omega) (by rw[pJ];exact ah (Nat.mul_le_mul hlen E.I2) (by decide)) (by rw[gV];exact E.zs) (by rw[gV];exact E.pos) hr
theorem El.Row.Gl {α:Type} {E:El α} {w:ag} {B:Nat} {v x:aq} {el ns:List α} (h:E.Row w B v el) {ops:Array Oper} {rest:List Oper} {o:Oper} {a:Act} {Q:Exit->Act->ag->Prop} (hgd:o.guard=none) (s y:Operand)
  (ho:o.op=.call { callee:=.builtin .append,args:=#[s,y],argTypes:=#[E.t,E.t] }) (hs:a.eval s=v) (hx:a.eval y=x) (hxs:E.At w x ns) (hlen:el.length+ns.length<=1000000) (hB:B<=w.heap.size)
  (hK:∀ v' w',E.Row w' B v' (el++ns)->mX w v v'->w.grownBy w' v.ownBlock->wpList aj ops Q rest (a.put o.dst v') w'):wpList aj ops Q (o::rest) a w:=by
 refine wpList_plain hgd fun K hk=>?_
 obtain⟨v',w',hr,h2,h3,h4,h5⟩:=h.run hxs o.type hlen hB;have hf:=Ea h hxs hlen o.type hr;unfold Oper.wp execOp;simp only[ho,resolve,invoke,builtin,Sem.run_bind,Sem.run_pure,Result.andThen_ok,List.map_toArray,List.map_cons,List.map_nil,hs,hx,hr];exact hk _ _ (hK v' w' h2 hf h5)
theorem FH {B k:Nat} {E:Nat->Prop} {L s:List F} (w:ag) (h:St B k E L s w) (hnd:L.Nodup) (ao:Option Addr) (n c:Nat) (ids:List Nat) (ha:iI.At w (.slice ao n c) ids) (ts:List F) (hi:ids.map (fun i=>s[i]?)=ts.map some) (hl:n<=900000) :
  aW aj 70 #[.pointer (some ⟨k,0,none⟩),.slice ao n c] w fun e w'=>∃ v l,e=.returned v/\iI.Row w' w.heap.size v l/\l.map (fun i=>s[i]?)=(mR L (hO L ts)).map some/\St B k (fun g=>E g\/v.ownBlock=some g) (hO L ts) s w'/\dz B k w w':=by
 obtain⟨QU,c',e,⟨ha1,Au,-⟩,-⟩:=id ha;injection e with e1 e2 e3;subst e1;subst e3;have HN:Hid (n=ids.length):=aa e2;have Oa:Hid (ts.length=n):=aa (by rw[e2];exact de hi);have NG:c<=9223372036854775807:=Au;rw[<-e2] at ha1;have HA:=aa ha;have HI:=aa hi;have HS:=aa h;have HND:=aa hnd;have cr:=aa h.sK;have We:=aa h.good;clear h hnd ha hi Au e2;go_enter Tryz.func70,Tryz.ntmps70;obtain⟨x1,ks,es,eks,LZ,hks,Fi⟩:=aM w #[.pointer (some ⟨k,0,none⟩)] 112;obtain⟨x2,kt,et,Lg,dm,ng,yh⟩:=aM x1 #[.slice none 0 0] 114;obtain⟨x3,kv,ev_,TZ,OR,hkv,DN⟩:=aM x2 #[.nilFunc] 164;have Gr:Hid (w.heap.size<=ks/\ks<kt/\kt<kv):=aa (by
  have h1:=ae Fi.out;have h2:=ae yh.out;have h3:=hks.out;have h4:=ng.out;have h5:=hkv.out;exact⟨h3,by omega,by omega⟩)
 replace Fi:=aS OR.out (aS dm.out Fi);replace yh:=aS OR.out yh;have pY:=HS.out.below LZ.out;have NM:aA x1.heap.size x1 x3:=dm.out.trans (OR.out.mono dm.out.size);have Gn:Hid (St B k (fun g=>E g\/g=kt\/g=kv) L s x3):=aa (pY.AG (nI NM none) (fun g h=>by cases h) (fun g hg=>by
  have h0:=ae Fi.out;have h1:=ng.out;have h2:=Gr.out;rcases hg with hg | hg | hg
  ·exact .inl hg
  ·exact .inr (by omega)
  ·exact .inr (by omega)) (fun g hg=>by
  have h1:=ae yh.out;have h2:=ae DN.out;rcases hg with hg | hg | hg
  ·obtain⟨km,v0,us,M,hU⟩:=pY;exact az (hU.ex g hg) NM.size
  ·rw[hg];exact h1
  rw[hg];exact h2))
 have HP3:Hid (dz B k w x3):=aa ((dz.aN LZ.out).trans (dz.aN NM));clear pY NM;have v0:=af (v:=.nilFunc) DN.out 0 rfl;have K0:=aP DN.out 0;go_upto_region 4 with fail;obtain⟨x4,Vw⟩:∃ x,x=x3.setCell ⟨kv,0,none⟩ (.func (.func 118) #[] #[.pointer (some ⟨ks,0,none⟩),.pointer (some ⟨kt,0,none⟩),.pointer (some ⟨kv,0,none⟩)]):=⟨_,rfl⟩;rw[<-Vw];have OO:x3.grownBy x4 (some kv):=by
  rw[Vw];refine aF ?_ _;exact World.grownBy.refl _ _
 have Ss:pQ (#[Value.nilFunc]:Array aq).toList:=by
  intro u hu z;simp only[List.mem_cons,aU,or_false] at hu;rw[hu];intro h;cases h
 have WR:x4.heap[kv]?=some (.cells #[.func (.func 118) #[] #[.pointer (some ⟨ks,0,none⟩),.pointer (some ⟨kt,0,none⟩),.pointer (some ⟨kv,0,none⟩)]] 164 (0,0)):=by
  rw[Vw];exact heap_setCell_same x3 kv 0 _ _ _ DN.out
 have HV4:Hid (Cd B k ks kt kv x4.heap.size (.func (.func 118) #[] #[.pointer (some ⟨ks,0,none⟩),.pointer (some ⟨kt,0,none⟩),.pointer (some ⟨kv,0,none⟩)]) E L s [] (.slice none 0 0) [] x4):=aa {
  bs:=(OO.block ks (ae Fi.out) (fun e=>by injection e with e;have:=Gr.out;omega)).trans Fi.out
  bt:=(OO.block kt (ae yh.out) (fun e=>by injection e with e;have:=Gr.out;omega)).trans yh.out
  bv:=WR
  row:=El.Row.nil _ _
  ids:=rfl
  st:=(Gn.out.AG (E':=fun g=>E g\/g=kt\/g=kv) OO (fun g hg=>by
   injection hg with hg;subst hg;exact⟨.inr (.inr rfl),by have:=Gr.out;have:=cr.out;omega,_,_,DN.out,by decide,Ss⟩) (fun g hg=>.inl hg) (fun g hg=>by
   obtain⟨km,v0,us,M,hU⟩:=Gn.out;exact az (hU.ex g hg) OO.size)).less (fun g hg=>by
   rcases hg with hg | hg | hg
   ·exact .inl hg
   ·exact .inr (.inl hg)
   cases hg)
  nd:=HND.out
  tl:=au _
  lo:=by
   have h1:=az (ae Fi.out) OO.size;have h2:=az (ae yh.out) OO.size;have h3:=ae WR;have h4:=Gr.out;have h5:=cr.out;exact⟨by omega,h2,h1,h3⟩
  sz:=ai _ }
 have Rf:=aa (HP3.out.app OO (fun g hg=>by injection hg with hg;have:=Gr.out;omega) cr.out.2);clear v0 K0 Vw OO Ss WR Gn HP3;go_wp2_with fail;go_loopw [12] (fun iv wr=>∃ (j:Nat) (v':aq) (ids':List Nat),iv=.int .i64 (j:Nat)/\j<=n/\Hid (Cd B k ks kt kv x4.heap.size (.func (.func 118) #[] #[.pointer (some ⟨ks,0,none⟩),.pointer (some ⟨kt,0,none⟩),.pointer (some ⟨kv,0,none⟩)]) E (hO L (ts.take j)) s (mR L (hO L (ts.take j))) v' ids' wr)/\Hid (tN B k kt (.slice none 0 0) v' x4 wr)) (fun iv _=>n - (ei iv).toNat)
 case atStart=>exact⟨0,_,[],rfl,au _,aa (by rw[List.take_zero,hO,sX];exact HV4.out),aa (tN.refl _ _ _ _ _)⟩
 case round =>
  obtain⟨j,v',ids',rfl,hj,IE,Mh⟩:=hrel;have HPJ:=aa (Mh.out.wM (w0:=w) (by have:=Gr.out;omega) (fun g hg=>by cases hg) Rf.out);by_cases hlt:j<n
  ·have lN:j<ids.length:=by rw[<-HN.out];exact hlt
   have DI:j<ts.length:=by rw[Oa.out];exact hlt
   obtain⟨a,rfl,ca⟩:=vT HA.out HPJ.out j lN;obtain⟨i2,qm⟩:∃ x,x=ids[j]:=⟨_,rfl⟩;rw[<-qm] at ca;have LI:Hid (s[i2]?=some ts[j]):=aa (by rw[qm];exact nD HI.out j lN DI);have Q7:=aa (We.out ts[j] (List.mem_of_getElem? LI.out)).2;have b0:=af (v:=(.func (.func 118) #[] #[.pointer (some ⟨ks,0,none⟩),.pointer (some ⟨kt,0,none⟩),.pointer (some ⟨kv,0,none⟩)])) IE.out.bv 0 rfl;have Pb:=aa (vJ (s:=L) DI);clear qm;go_wp2_with fail;refine (Mp 9 _ _ _ _ _ _ _ _ _ _ v' ids' wr i2 ts[j] IE.out LI.out Q7.out).mono ?_;rintro e w6 ⟨⟨qv,rfl⟩,v2,Ky,xj,Ad⟩;have UF:=aa xj;have Ol:=aa (Mh.out.trans Ad);clear xj Ad ca b0;go_wp2_with fail;go_roundw
   case rel =>
    refine⟨j+1,v2,Ky,by go_num,hlt,aa ?_,Ol⟩;have h1:=UF.out;rw[<-Pb.out,<-om (p8 _ _) (by rw[Pb.out];exact Bn _ _)] at h1;exact h1
   case measure=>simp[ei];omega
  have ej:j=n:=by omega
  have Ch:Hid (ts.take j=ts):=aa (by rw[ej,<-Oa.out];exact bK);obtain⟨po,pc,rfl,-⟩:=IE.out.row.form;have t0:=af (v:=.slice po ids'.length pc) IE.out.bt 0 rfl;go_wp2_with fail;go_ret;have h1:=IE.out;rw[Ch.out] at h1;exact⟨_,ids',rfl,BI h1.row (ah Rf.out.size (ai _)),h1.ids,h1.st.less (fun g hg=>hg.imp id .inr),HPJ.out⟩
theorem Gm {m:Nat}:∀ (e:Nat),e<=m->∀ t:F,Tm e t->kK (Tm m) t
 | 0,_,t,h=>absurd h id
 | e+1,he,.node o z nm ks,h=>by
  rw[kK];exact⟨h.up he,gH.of fun k hk=>Gm e (by omega) k (h.2.2.2.2 k hk)⟩
theorem DW {t:F} (hr:rt t=true) (hm:Tm 5 t):∀ x ∈ rD [] t,rt x=true/\Tm 5 x:=
 (Bo (P:=fun x=>rt x=true/\Tm 5 x) t [] (fun x hx=>by cases hx) ((Fc 5 t hm hr).and (Gm 5 (ai _) t hm))).1
noncomputable def tH (x:F):List F:=((rD [] x).filter nb).flatMap cZ
theorem OA {t:F} (hr:rt t=true) (hm:Tm 5 t):∀ y ∈ tH t,rt y=true/\QA 5 9 y:=by
 intro y hy;unfold tH at hy;obtain⟨x,hx,hy⟩:=List.mem_flatMap.1 hy;obtain⟨h1,h2⟩:=DW hr hm x (List.mem_filter.1 hx).1;exact⟨(Da (r:=fun _=>.I 0) h1 y hy).1,NW (d:=4) h1 h2 y hy⟩
theorem Pp {t:F} (hr:rt t=true) (hm:Tm 5 t):∀ x ∈ hO (rD [] t) (tH t),rt x=true/\Qd 5 x:=by
 refine (uI (P:=fun x=>rt x=true/\Qd 5 x) (tH t) (rD [] t) (fun x hx=>?_) (gH.of fun y hy=>?_)).1
 ·obtain⟨h1,h2⟩:=DW hr hm x hx;exact⟨h1,h2.up (by decide),fun _=>h2.up (by decide),fun _=>h2.up (by decide)⟩
 obtain⟨h1,h2⟩:=OA hr hm y hy;exact (Fc 9 y h2.2 h1).and h2.1
theorem of_eq (t:F):JR t=tH t++(((hO (rD [] t) (tH t)).drop (rD [] t).length).filter (fun t=>decide (eI t.op=2))).flatMap fO:=rfl
theorem JQ {t:F} (hr:rt t=true) (hm:Tm 5 t) (r:ByteArray->V):∀ y ∈ JR t,lF r y/\QA 5 9 y:=by
 intro y hy;rw[of_eq] at hy;rcases List.mem_append.1 hy with hy | hy
 ·refine⟨?_,(OA hr hm y hy).2⟩;unfold tH at hy;obtain⟨x,hx,hy⟩:=List.mem_flatMap.1 hy;exact Da (DW hr hm x (List.mem_filter.1 hx).1).1 y hy
 obtain⟨x,hx,hy⟩:=List.mem_flatMap.1 hy;obtain⟨h1,h2⟩:=List.mem_filter.1 hx;have h3:=Pp hr hm x (List.mem_of_mem_drop h1);have h4:eI x.op=2:=of_decide_eq_true h2;exact⟨uT h3.1 h4 y hy,(Kc (d:=5) h3.1 (h3.2.2.2 h4) (by omega) y hy).up (by omega)⟩
theorem Sk {t:F} (hr:rt t=true) (hm:Tm 5 t):∀ y ∈ JR t,Gd y:=fun y hy=>by
 obtain⟨h1,h2⟩:=JQ hr hm (fun _=>.I 0) y hy;exact⟨h1.1,h2.2.g⟩
theorem of_law {t:F} (hr:rt t=true) (hm:Tm 5 t) {env:List (ByteArray × V)} (hE:∀ p ∈ env,TV p.2):∀ y ∈ JR t,rt y=true/\eI y.op=1/\ev (cR env) y=.B true/\Tm 9 y/\Sm (cR env) y:=fun y hy=>by
 obtain⟨h1,h2⟩:=JQ hr hm (cR env) y hy;exact⟨h1.1,h1.2.1,h1.2.2,h2.2,Ju (fun nm=>Bd0.be (PE hE nm)) 9 y h2.2 h1.1 h2.1⟩
def ES:Nat->Nat
 | 0=>0
 | d+1=>1+3*ES d
theorem Jp:∀ (d:Nat) (t:F),Tm d t->IQ t<=ES d
 | 0,t,h=>absurd h id
 | d+1,.node o z nm ks,h=>by
  obtain⟨-,-,-,h4,h5⟩:=h
  have key:∀ l:List F,(∀ k ∈ l,Tm d k)->nW l<=l.length*ES d:=by
   intro l;induction l with
   | nil=>intro _;simp[nW]
   | cons a l ih =>
    intro hl;have:=ih (fun k hk=>hl k (by simp[hk]));have ha:=Jp d a (hl a (by simp));rw[nW,mS,Nat.add_mul,Nat.one_mul];omega
  have h6:=key ks h5;have h7:ks.length*ES d<=3*ES d:=aV _ h4;rw[IQ,ES];omega
theorem Ud:ES 5<=1000:=by decide
def sY:F:=.node 8 0 ⟨#[108]⟩ []
theorem AU:rt (cY sY)=true/\Tg 2 (cY sY):=⟨rfl,⟨rfl,z4,fun _ _ _=>rfl,by decide,fun k hk=>by
 have e:k=sY:=by simpa [cY,fo,F.kids] using hk
 subst e
 exact⟨⟨by decide,by decide,by unfold pI;decide⟩,z4,fun _ _ _=>rfl,by decide,fun k hk=>by cases hk⟩⟩⟩
theorem Fo:rD [] (cY sY)=[cY sY,sY]:=by
 simp[rD,hO,cY,fo,sY]
theorem JO:JR (cY sY)=[dV (nF 0) (cY sY),kN sY,dV (nF 0) (cY lS),b_ (cY lS) (nF 0)]:=by
 have h1:tH (cY sY)=[dV (nF 0) (cY sY),kN sY]:=by
  unfold tH;rw[Fo];simp[List.filter,nb,cY,fo,sY,F.op,eI,cZ,fO]
 rw[of_eq,h1,Fo];simp[rD,hO,dV,kN,gB,bW,b_,lS,cY,fo,nF,sY,List.filter,F.op,eI,fO]
attribute [local go_sem] eF eE eC eB
theorem vQ (x:F):(fO x).length<=2:=by
 unfold fO;rw[mS];split
 ·simp
 split<;>simp
theorem zC (x:F):(cZ x).length<=6:=by
 have h:=vQ x;unfold cZ;split
 ·rw[eY,List.length_singleton];omega
 split
 ·omega
 split
 ·rw[eY];simp only[mS,uA];omega
 split
 ·rw[eY,eY];simp only[mY,mS,uA];omega
 split
 ·simp
 split
 ·simp
 split
 ·simp[nZ]
 simp
theorem wv {f:F->List F} {c:Nat} (h:∀ x,(f x).length<=c):∀ l:List F,(l.flatMap f).length<=c*l.length
 | []=>by simp
 | a::l=>by
  have h1:=wv h l;have h2:=h a;rw[fI,eY,mS,Nat.mul_add,Nat.mul_one];omega
theorem EA {f:F->List F} {l:List F} {j:Nat} (h:j<l.length):(l.take (j+1)).flatMap f=(l.take j).flatMap f++f l[j]:=by
 rw[bH h,LQ,fI,List.flatMap_nil,List.append_nil]
theorem JV (L:List F):mR [] L=L.filter nb:=by unfold mR;simp
def PT (t:F):Bool:=decide (eI t.op=2)
theorem AS (L L1:List F):(mR L L1).filter PT=(L1.drop L.length).filter (fun t=>decide (eI t.op=2)):=by
 unfold mR PT;rw[List.filter_filter];apply List.filter_congr;intro x _;by_cases h:eI x.op=2
 ·rw[decide_eq_true h,Bool.true_and];exact decide_eq_true (by rw[h];decide)
 rw[decide_eq_false h,Bool.false_and]
theorem St.Uh {B k B0:Nat} {E:Nat->Prop} {L s:List F} {w w':ag} {v v':aq} {l l':List Nat} (h:St B k E L s w) (hE:∀ g,v.ownBlock=some g->E g) (hR:iI.Row w B0 v l) (hB:B<=B0) (hg:w.grownBy w' v.ownBlock) (hf:mX w v v') (hR':iI.Row w' B0 v' l'):St B k (fun g=>v'.ownBlock=some g) L s w':=by
 refine h.AG hg (fun g hr=>?_) (fun g uZ=>?_) (fun g uZ=>(hR'.ge uZ).2)
 ·obtain⟨c,hc,h32⟩:=hR.n32 g hr;exact⟨hE g hr,ah hB (hR.ge hr).1,c,_,hc,by decide,h32⟩
 rcases hf g uZ with e | e
 ·exact .inl (hE g e)
 exact .inr e
theorem zh {B k:Nat} {w w':ag} {ko:Option Addr} {n c:Nat} {l:List Nat} (h:iI.At w (.slice ko n c) l) (f:dz B k w w'):iI.At w' (.slice ko n c) l:=by
 obtain⟨AX,A2,e,h1,h2⟩:=h;refine⟨AX,A2,e,h1,fun j hj=>?_⟩;obtain⟨a,ha,⟨c,hc⟩,h3,h4⟩:=h2 j hj;have hb:=f.block _ (ae hc) (NO.cells hc (by decide));exact⟨a,ha,⟨c,hb.trans hc⟩,fun q u hu=>by rw[dU (w:=w) (by rw[cI];exact hb)];exact h3 q u hu,trivial⟩
theorem BJ {w w':ag} {r:Option Nat} {ko:Option Addr} {n c:Nat} {l:List Nat} (h:iI.At w (.slice ko n c) l) (f:w.grownBy w' r) (hn:∀ a,ko=some a->some a.block≠r):iI.At w' (.slice ko n c) l:=by
 obtain⟨AX,A2,e,h1,h2⟩:=h;injection e with e1 e2 e3;refine⟨AX,A2,by rw[e1,e2,e3],h1,fun j hj=>?_⟩;obtain⟨a,ha,⟨c,hc⟩,h3,h4⟩:=h2 j hj;have hb:=f.block _ (ae hc) (hn a (by rw[e1];exact ha));exact⟨a,ha,⟨c,hb.trans hc⟩,fun q u hu=>by rw[dU (w:=w) (by rw[cI];exact hb)];exact h3 q u hu,trivial⟩
theorem FE (d:Nat) (v:aq) (t:F) (w:ag) (h:FC w tS d v t) (hd:d<=9) (qg:rt t=true) (KB:Tg d t) (hsz:IQ t<=1000) (hgd:∀ y ∈ JR t,Gd y) (ht:AA w) :
  aW aj 21 #[v] w fun e w'=>∃ v',e=.returned v'/\FL w' tS 9 v' (JR t)/\aA w.heap.size w w':=by
 have HF:=aa h;have HD:=aa hd;have I5:=aa qg;have Q7:=aa KB;have nP:=aa hsz;have We:=aa hgd;have HT:=aa ht;obtain⟨b,ao,l,c,ko,kl,kc,rfl,-,-,-⟩:=h.open;obtain⟨o,ho⟩:∃ o,o=t.op:=⟨_,rfl⟩;obtain⟨nm,hnm⟩:∃ o,o=t.name:=⟨_,rfl⟩;rw[<-ho,<-hnm] at HF ⊢;clear h hd qg KB hsz hgd ht ho hnm;go_enter Tryz.func21,Tryz.ntmps21;obtain⟨x1,kf,ef,jK,bL,jc,aE⟩:=aM w #[.int .i64 o,.bool b,.slice ao l c,.string nm,.slice ko kl kc] 29;have HW:=aa bL.out;replace HF:=aa (HF.out.below bL.out);replace HT:=aa (HT.out.below bL.out);obtain⟨⟨c0,c1,c2,c3,c4⟩,-⟩:=ak aE.out;go_wp2_with fail;refine (By d _ t tS x1 HF.out).mono ?_;rintro e x2 ⟨rfl,hb⟩;rw[I5.out];clear c0 c1 c2 c3 c4;replace aE:=aS hb aE
 replace HF:=aa (HF.out.below hb);replace HT:=aa (HT.out.below hb);replace HW:=aa (HW.out.trans (hb.mono HW.out.size));clear hb;go_wp2_with fail;refine (Sr x2 HT.out).mono ?_;rintro e x3 ⟨k,rfl,hst,hb⟩;replace aE:=aS hb aE;have I7:Hid (FC x3 (NS x2.heap.size k (fun _=>False) x3) d (.agg #[.int .i64 o,.bool b,.slice ao l c,.string nm,.slice ko kl kc]) t):=aa (by
  obtain⟨u,e,hft⟩:=HF.out;exact⟨u,e,hft.MZ hb (fun g h=>h.elim)⟩)
 have Ya:=aa (HW.out.trans (hb.mono HW.out.size));have HWB:=aa HW.out.size;have Gn:=aa hst;have nj:=aa hb;obtain⟨B,hB⟩:∃ B,B=x2.heap.size:=⟨_,rfl⟩;rw[<-hB] at Gn I7 HWB nj;clear hst hb HF HT HW hB;obtain⟨⟨c0,c1,c2,c3,c4⟩,-⟩:=ak aE.out;go_wp2_with fail;refine (QV d _ _ _ _ _ x3 _ t Gn.out I7.out I5.out Q7.out HD.out (by have:=nP.out;simp only[uA];omega)).mono ?_;rintro e x4 ⟨i,s1,rfl,q1,q2,q3,q4⟩;clear c0 c1 c2 c3 c4;have Gr:Hid (s1.length<=1000):=aa (by have h1:=q2.len;have h2:=nP.out;simp only[uA] at h1;omega);have HI:=aa q3;have Rf:Hid (aA B x3 x4):=aa (q4.below Gn.out.sK.1);have I4:=aa q1;clear q1 q2 q3 q4 Gn I7 aE;obtain⟨x5,kq,eq,zE,gQ,sk,jX⟩:=aM x4 #[.int .i64 ((i:Nat):Int)] 116
 have RM:=aa (I4.out.below gQ.out);have wI:Hid (aA B x3 x5):=aa (Rf.out.trans (gQ.out.mono I4.out.sK.1));have tB:=aa (uj (l:=[i]) jX.out (by show 1<=bI;decide));go_wp2_with fail;refine (FH x5 RM.out List.nodup_nil (some ⟨kq,0,none⟩) 1 1 [i] tB.out [t] (by simp only[List.map_cons,List.map_nil,HI.out]) (by decide)).mono ?_;rintro e x6 ⟨v1,l1,rfl,r1,r2,r3,r4⟩;have r8:hO [] [t]=rD [] t:=by rw[hO,hO]
 rw[r8] at r2 r3;rw[JV] at r2;obtain⟨T1,IZ⟩:∃ x,x=(rD [] t).filter nb:=⟨_,rfl⟩;rw[<-IZ] at r2;have pX:=aa IZ;have UI:Hid (T1.length<=1000):=aa (by
  obtain⟨km,v0,us,M,hU⟩:=r3;have h1:=sZ (Bm t [] List.nodup_nil) hU.sub;have h2:=List.length_filter_le nb (rD [] t);have h3:=Gr.out;rw[IZ];omega)
 obtain⟨po,pc,rfl,OH,Hx,-⟩:=r1.form;obtain⟨n1,xY⟩:∃ n,n=l1.length:=⟨_,rfl⟩;have HN1:=aa xY;have Rm:Hid (T1.length=n1):=aa (by rw[xY];exact de r2);rw[<-xY] at r1 r3 OH ⊢;have hpm:pc<=9223372036854775807:=Hx;have HR1:=aa r1.at;have Yw:=aa r2;have HS6:Hid (St B k (fun g=>(jm none 0 0).ownBlock=some g) (rD [] t) s1 x6):=aa (r3.less (fun g hg=>by cases hg));have HB6:Hid (aA B x3 x6):=aa (wI.out.trans (r4.below RM.out.sK.1));have Ag:Hid (B<=x6.heap.size/\k<x6.heap.size):=aa r3.sK;clear r1 r2 r3 r4 IZ r8 xY Hx RM I4 tB jX Rf wI;go_wp2_with fail
 go_loopw [4,20] (fun av iv wr=>∃ (j:Nat) (ia:List Nat) (sj:List F),iv=.int .i64 (j:Nat)/\j<=n1/\Hid (iI.Row wr x6.heap.size av ia)/\Hid (ia.map (fun i=>sj[i]?)=((T1.take j).flatMap cZ).map some)/\Hid (St B k (fun g=>av.ownBlock=some g) (rD [] t) sj wr)/\Hid (Ext s1 sj (46*j))/\Hid (dz B k x6 wr)) (fun _ iv _=>n1 - (ei iv).toNat)
 case atStart=>exact⟨0,[],s1,rfl,au _,aa (El.Row.nil _ _),aa (by simp),HS6,aa (Ext.refl s1),aa (dz.refl _ _ _)⟩
 case round =>
  clear HS6;obtain⟨j,ia,sj,rfl,hj,HR,HM,HS,HE,HP⟩:=hrel;obtain⟨oo,oc,rfl,SV,WZ,-⟩:=HR.out.form;have YD:Hid (ia.length<=6*j):=aa (by
   have h1:=de HM.out;have h2:=wv zC (T1.take j);rw[aX] at h2;have h3:6*min j T1.length<=6*j:=Nat.mul_le_mul_left _ (Nat.min_le_left _ _);omega)
  by_cases hlt:j<n1
  ·have lN:j<l1.length:=by rw[<-HN1.out];exact hlt
   have DI:j<T1.length:=by rw[Rm.out];exact hlt
   obtain⟨a,rfl,ca⟩:=vT HR1.out HP.out j lN;obtain⟨i2,qm⟩:∃ x,x=l1[j]:=⟨_,rfl⟩;rw[<-qm] at ca;have LI:Hid (sj[i2]?=some T1[j]):=aa (HE.out.get (by rw[qm];exact nD Yw.out j lN DI));have II:Hid (∀ y ∈ cZ T1[j],Gd y):=aa (fun y hy=>We.out y (by
    rw[of_eq];refine List.mem_append_left _ ?_;unfold tH;rw[<-pX.out];exact List.mem_flatMap.2 ⟨_,ct DI,hy⟩))
   have Pd:Hid (sj.length+46<=900000/\j<=1000):=aa (by
    have h1:=HE.out.len;have h2:=Gr.out;have h3:=UI.out;exact⟨by omega,by omega⟩)
   have U5:=aa (EA (f:=cZ) DI);clear qm;go_wp2_with fail;refine (Lb wr HS.out Pd.out.1 i2 T1[j] LI.out II.out).mono ?_;rintro e w7 ⟨fv,K8,s2,rfl,p1,p2,p3,p4,p5⟩;obtain⟨XR,fc,rfl,-,-⟩:=id p1;have Yn:=aa (kC HR.out p5);have tB:=aa p1;have HM7:=aa p2;have HS7:=aa p3;have HE7:=aa p4;have HP7:=aa (HP.out.trans p5);have Ol:Hid (K8.length<=6):=aa (by have h1:=de p2;have h2:=zC T1[j];omega);clear p1 p2 p3 p4 p5 ca;go_wp2_with (at_builtin;refine El.Row.Gl (E:=iI) Yn.out rfl (.tmp 24) (.tmp 27) rfl rfl rfl tB.out (by have h1:=YD.out;have h2:=Ol.out;have h3:=Pd.out.2;omega) HP7.out.size ?_;intro v9 w9 a1 a2 a3);go_roundw
   case rel =>
    have vU:∀ g,(jm oo ia.length oc).ownBlock=some g->x6.heap.size<=g:=fun g hg=>(Yn.out.ge hg).1
    exact⟨j+1,ia++K8,s2,by go_num,hlt,aa a1,aa (by rw[cn,U5.out,cn,s_ HE7.out HM.out,HM7.out]),aa (HS7.out.Uh (fun g hg=>hg) Yn.out Ag.out.1 a3 a2 a1),aa (HE.out.trans HE7.out (by omega)),aa (HP7.out.app a3 vU Ag.out.2)⟩
   case measure=>simp[ei];omega
  have ej:j=n1:=by omega
  have RO:Hid (ia.map (fun i=>sj[i]?)=(tH t).map some):=aa (by
   have h1:=HM.out;rw[ej,<-Rm.out,bK,pX.out] at h1;exact h1)
  have V9:Hid (sj.length<=47000/\ia.length<=6000):=aa (by
   have h1:=HE.out.len;have h2:=Gr.out;have h3:=UI.out;have h4:=Rm.out;have h5:=YD.out;exact⟨by omega,by omega⟩)
  obtain⟨x7,Zi⟩:∃ x,x=wr:=⟨_,rfl⟩;rw[<-Zi] at HR HS HP ⊢;clear Zi HM YD;go_wp2_with fail;refine (FH x7 HS.out (Bm t [] List.nodup_nil) oo ia.length oc ia HR.out.at (tH t) RO.out (by have:=V9.out.2;omega)).mono ?_;rintro e x8 ⟨v2,l2,rfl,r1,r2,r3,r4⟩;obtain⟨T2,XG⟩:∃ x,x=mR (rD [] t) (hO (rD [] t) (tH t)):=⟨_,rfl⟩;obtain⟨L2,RH⟩:∃ x,x=hO (rD [] t) (tH t):=⟨_,rfl⟩;rw[<-XG] at r2;rw[<-RH] at r3;have Me:Hid (T2=mR (rD [] t) L2):=aa (by rw[XG,RH]);have I6:=aa RH;have UH:Hid (T2.length<=47000):=aa (by
   obtain⟨km,v0,us,M,hU⟩:=r3;have h1:=sZ (by rw[RH];exact Bl (tH t) _ (Bm t [] List.nodup_nil)) hU.sub;have h2:=JW (L:=rD [] t) (L1:=L2) (by rw[RH];exact p8 _ _);have h3:=V9.out.1;rw[Me.out];omega)
  obtain⟨qo,qc,rfl,hq1,hq2,-⟩:=r1.form;obtain⟨n2,IW⟩:∃ n,n=l2.length:=⟨_,rfl⟩;have Oi:=aa IW;have Rl:Hid (T2.length=n2):=aa (by rw[IW];exact de r2);rw[<-IW] at r1 r3 hq1 ⊢;have Zx:qc<=9223372036854775807:=hq2;have Pe:=aa r1.at;have lO:Hid (∀ a,qo=some a->(jm oo ia.length oc).ownBlock≠some a.block/\a.block<x8.heap.size):=aa (fun a ha=>by
   have h1:(jm qo n2 qc).ownBlock=some a.block:=by rw[ha];rfl
   have h2:=r1.ge h1;refine⟨fun e=>?_,h2.2⟩;have h3:=HR.out.ge e;omega)
  have HQM:=aa r2;have UK:Hid (St B k (fun g=>(jm oo ia.length oc).ownBlock=some g) L2 sj x8):=aa (r3.less (fun g hg=>.inl hg));have Rc:Hid (iI.Row x8 x6.heap.size (.slice oo ia.length oc) ia):=aa (kC HR.out r4);have UN:=aa (HP.out.trans r4);clear r1 r2 r3 r4 XG RH IW hq2 HS HR HP;obtain⟨av0,Qr⟩:∃ x:aq,x=.slice oo ia.length oc:=⟨_,rfl⟩;rw[<-Qr] at UK Rc lO;have Wg:=aa Qr;clear Qr;go_wp2_with fail
  go_loopw [4,34] (fun av iv wr=>∃ (j:Nat) (ib:List Nat) (sq:List F),iv=.int .i64 (j:Nat)/\j<=n2/\Hid (iI.Row wr x6.heap.size av ib)/\Hid (ib.map (fun i=>sq[i]?)=(tH t++((T2.take j).filter PT).flatMap fO).map some)/\Hid (St B k (fun g=>av.ownBlock=some g) L2 sq wr)/\Hid (Ext sj sq (9*j))/\Hid (dz B k x6 wr)/\Hid (iI.At wr (.slice qo n2 qc) l2)/\Hid (∀ a,qo=some a->av.ownBlock≠some a.block/\a.block<wr.heap.size)) (fun _ iv _=>n2 - (ei iv).toNat)
  case atStart=>exact⟨0,ia,sj,rfl,au _,by rw[<-Wg.out];exact Rc,aa (by rw[RO.out];simp),by rw[<-Wg.out];exact UK,aa (Ext.refl sj),UN,Pe,by rw[<-Wg.out];exact lO⟩
  case round =>
   clear UK Rc UN Wg Pe lO;obtain⟨jj,ib,sq,rfl,hjj,HR,HM,HS,Om,HP,Pe,lO⟩:=hrel;obtain⟨uo,uc,rfl,Ry,huc,-⟩:=HR.out.form;have Wd:Hid (ib.length<=6000+2*jj):=aa (by
    have h1:=de HM.out;have h2:=de RO.out;have h3:=wv vQ ((T2.take jj).filter PT);have h4:=List.length_filter_le PT (T2.take jj);rw[aX] at h4;have h6:min jj T2.length<=jj:=Nat.min_le_left _ _;have h7:=V9.out.2;rw[eY] at h1;omega)
   by_cases hlt:jj<n2
   ·have lN:jj<l2.length:=by rw[<-Oi.out];exact hlt
    have DI:jj<T2.length:=by rw[Rl.out];exact hlt
    obtain⟨a,rfl,ca⟩:=vT Pe.out (dz.refl B k wr) jj lN;obtain⟨i2,qm⟩:∃ x,x=l2[jj]:=⟨_,rfl⟩;rw[<-qm] at ca;have LI:Hid (sq[i2]?=some T2[jj]):=aa (Om.out.get (by rw[qm];exact nD HQM.out jj lN DI));have Pd:Hid (sq.length+9<=900000/\jj<=47000):=aa (by
     have h1:=Om.out.len;have h2:=V9.out.1;have h3:=UH.out;exact⟨by omega,by omega⟩)
    have qq:=aa (bH DI);clear qm;go_wp2_with fail;refine (Bw wr HS.out i2 T2[jj] LI.out).mono ?_;rintro e w7 ⟨rfl,hb⟩;replace HR:=aa (HR.out.below hb);replace HS:=aa (HS.out.below hb);replace HP:=aa (HP.out.trans (dz.aN hb));replace Pe:=aa (zh Pe.out (dz.aN (B:=B) (k:=k) hb));replace lO:=aa (fun q hq=>(⟨(lO.out q hq).1,az (lO.out q hq).2 hb.size⟩:(jm uo ib.length uc).ownBlock≠some q.block/\q.block<w7.heap.size));clear hb ca;obtain⟨z,hz⟩:∃ z,z=eI T2[jj].op:=⟨_,rfl⟩;rw[<-hz];by_cases pJ:z=2
    ·have Wc:Hid (PT T2[jj]=true):=aa (decide_eq_true (by rw[<-hz];exact pJ));have Oc:Hid (eI T2[jj].op=2):=aa (by rw[<-hz];exact pJ);have e1:(z==2)=true:=by rw[pJ];rfl
     clear hz pJ;have II:Hid (∀ y ∈ fO T2[jj],Gd y):=aa (fun y hy=>We.out y (by
      rw[of_eq];refine List.mem_append_right _ (List.mem_flatMap.2 ⟨T2[jj],?_,hy⟩);rw[<-AS,<-I6.out,<-Me.out];exact List.mem_filter.2 ⟨ct DI,Wc.out⟩))
     go_wp2_with fail;refine (uU w7 HS.out Pd.out.1 i2 T2[jj] LI.out II.out).mono ?_;rintro e w8 ⟨fv,K8,s2,rfl,p1,p2,p3,p4,p5⟩;obtain⟨XR,fc,rfl,-,-⟩:=id p1.form;have Rc:=aa (kC HR.out p5);have tB:=aa p1.at;have HM8:=aa p2;have UK:=aa p3;have HE8:=aa p4;have UN:=aa (HP.out.trans p5);have HQ8:=aa (zh Pe.out p5);have Oh:=aa (fun q hq=>(⟨(lO.out q hq).1,az (lO.out q hq).2 p5.size⟩:(jm uo ib.length uc).ownBlock≠some q.block/\q.block<w8.heap.size));have Ol:Hid (K8.length<=2):=aa (by have h1:=de p2;have h2:=vQ T2[jj];omega);clear p1 p2 p3 p4 p5 e1
     go_wp2_with (at_builtin;refine El.Row.Gl (E:=iI) Rc.out rfl (.tmp 42) (.tmp 45) rfl rfl rfl tB.out (by have h1:=Wd.out;have h2:=Ol.out;have h3:=Pd.out.2;omega) UN.out.size ?_;intro v9 w9 a1 a2 a3);go_roundw
     case rel =>
      have vU:∀ g,(jm uo ib.length uc).ownBlock=some g->x6.heap.size<=g:=fun g hg=>(Rc.out.ge hg).1
      refine⟨jj+1,ib++K8,s2,by go_num,hlt,aa a1,aa (by rw[cn,qq.out,List.filter_append,LQ,<-List.append_assoc,cn,s_ HE8.out HM.out,HM8.out];simp[Wc.out]),aa (UK.out.Uh (fun g hg=>.inl hg) Rc.out Ag.out.1 a3 a2 a1),aa (Om.out.trans HE8.out (by omega)),aa (UN.out.app a3 vU Ag.out.2),aa (BJ HQ8.out a3 (fun q hq e=>(Oh.out q hq).1 e.symm)),aa (fun q hq=>⟨fun e=>?_,az (Oh.out q hq).2 a3.size⟩)⟩;rcases a2 _ e with h1 | h1
      ·exact (Oh.out q hq).1 h1
      have:=(Oh.out q hq).2;omega
     case measure=>simp[ei];omega
    have Wc:Hid (PT T2[jj]=false):=aa (decide_eq_false (by rw[<-hz];exact pJ));have e1:(z==2)=false:=beq_eq_false_iff_ne.2 pJ;clear hz pJ;go_wp2_with fail;go_roundw
    case rel =>
     exact⟨jj+1,ib,sq,by go_num,hlt,HR,aa (by rw[HM.out,qq.out,List.filter_append];simp[Wc.out]),HS,aa (Om.out.up (by omega)),HP,Pe,lO⟩
    case measure=>simp[ei];omega
   have ejj:jj=n2:=by omega
   have Ch:Hid (ib.map (fun i=>sq[i]?)=(JR t).map some):=aa (by
    have h1:=HM.out;rw[ejj,<-Rl.out,bK,Me.out,AS,I6.out] at h1;rw[of_eq];exact h1)
   have hS:=HS.out.less (E':=fun _=>False) (fun g hg=>hg.elim);have qO:=Kz (B:=B) (k:=k) (E:=fun _=>False) HR.out (fun g hg he=>he);have V2:=aa hS;have xR:=aa qO;clear hS qO;go_wp2_with fail;refine (zA wr V2.out _ ib xR.out (JR t) Ch.out (by have h1:=Wd.out;have h2:=UH.out;have h3:=Rl.out;omega)).mono ?_;rintro e x9 ⟨v',rfl,hfl,hb⟩;have Ok:=aa hfl;have IJ:=aa hb;clear hfl hb;go_wp2_with fail;go_ret;refine⟨v',rfl,Ok.out.mono (fun _ _=>trivial),?_⟩;have eH:=(HP.out.below Ag.out.1).trans (IJ.out.mono (ah Ag.out.1 HP.out.size));exact Ya.out.trans ((HB6.out.trans eH).mono HWB.out)
attribute [local go_sem] eF eE eC eB
def Uw (P:F->Prop) (d:Nat):Prop:=∀ (ve v:aq) (env:List (ByteArray × V)) (t:F) (S:Nat->Prop) (w:ag),P t->FC w S d v t->EL w ve env->rt t=true->eI t.op=0->Sm (cR env) t ->
 aW aj 164 #[ve,v] w fun e w'=>∃ x,e=.returned x/\CI w' x (iq (ev (cR env) t)) 600/\aA w.heap.size w w'
def Ux (P:F->Prop) (d:Nat):Prop:=∀ (ve v:aq) (env:List (ByteArray × V)) (t:F) (S:Nat->Prop) (w:ag),P t->FC w S d v t->EL w ve env->rt t=true->eI t.op=2->Sm (cR env) t ->
 aW aj 163 #[ve,v] w fun e w'=>∃ x,e=.returned x/\NL w' x (mN (ev (cR env) t))/\aA w.heap.size w w'
def Us (P:F->Prop) (d:Nat):Prop:=∀ (ve v:aq) (env:List (ByteArray × V)) (t:F) (S:Nat->Prop) (w:ag),P t->FC w S d v t->EL w ve env->rt t=true->eI t.op=1->Sm (cR env) t ->
 aW aj 162 #[ve,v] w fun e w'=>e=.returned (.bool (gU (ev (cR env) t)))/\aA w.heap.size w w'
def QX (P:F->Prop) (d:Nat):Prop:=∀ (ve v:aq) (env:List (ByteArray × V)) (t:F) (S:Nat->Prop) (w:ag),P t->FC w S d v t->EL w ve env->rt t=true->Sm (cR env) t ->
 aW aj 114 #[ve,v] w fun e w'=>∃ x,e=.returned x/\VC w' x (ev (cR env) t)/\aA w.heap.size w w'
def Ng (t:F):Prop:=t.op=8
def Nh (t:F):Prop:=t.op=0\/(t.op=6/\∀ k ∈ t.kids,Ng k)
def xh (t:F):Prop:=t.op=15/\∀ k ∈ t.kids,Nh k
theorem Sx (d:Nat):Ux Ng (d+1):=by
 intro ve v env t S w hP h he hr hs iD;obtain⟨eo,en,ec,rfl⟩:=he.shape;obtain⟨b,ao,l,c,ko,kl,kc,rfl,⟨-,hz,iy,hkc,hkm⟩,-,hk⟩:=h.open;obtain⟨o,z,nm,ks⟩:=t;simp only[F.op,F.num,F.name,F.kids] at hz hk iy hs ⊢;rw[show d+1 - 1=d from rfl] at hk;obtain⟨hfit,jT⟩:=iX hr;have As:kc<=9223372036854775807:=hkm;have SW:o=8:=hP;have HE:=aa he;have HW:=aa (ax w.heap.size w);clear h hkm iy hkc hz hk he hr hs hP;subst SW;clear iD jT hfit;go_enter Tryz.func163,Tryz.ntmps163;obtain⟨x1,kf,ef,jK,bL,jc,aE⟩:=aM w #[.int .i64 8,.bool b,.slice ao l c,.string nm,.slice ko kl kc] 29;replace HE:=aa (HE.out.below bL.out);replace HW:=aa (HW.out.trans (bL.out.mono HW.out.size));obtain⟨⟨c0,c1,c2,c3,c4⟩,cA,cG,cF,cE,cC⟩:=ak aE.out;go_wp2_with fail
 refine (Ka _ env nm 2 x1 HE.out).mono ?_;rintro e x2 ⟨v,rfl,hv,hb⟩;clear c0 cA c1 cG c2 cF c3 cE c4 cC;replace HW:=aa (HW.out.trans (hb.mono HW.out.size));obtain⟨k1,b1,o1,l1,c1,d1,p1,m1,q1,rfl,hn⟩:=hv.lk2;have HV:=aa hn;clear hv hn;go_wp2_with fail;go_ret;exact⟨_,rfl,HV.out,HW.out⟩
theorem So (d:Nat) (IL:Ux Ng d):Uw Nh (d+1):=by
 intro ve v env t S w hP h he hr hs iD;obtain⟨b,ao,l,c,ko,kl,kc,rfl,⟨-,hz,iy,hkc,hkm⟩,-,hk⟩:=h.open;obtain⟨o,z,nm,ks⟩:=t;simp only[F.op,F.num,F.name,F.kids] at hz hk iy hs ⊢;rw[show d+1 - 1=d from rfl] at hk;obtain⟨hfit,jT⟩:=iX hr;have ho:o=0\/o=6:=hP.imp id (fun h=>h.1);have RN:Hid (o=6->∀ k ∈ ks,Ng k):=aa (fun e=>hP.elim (fun h=>absurd (show o=0 from h) (by omega)) (fun h=>h.2));obtain⟨eo,en,ec,rfl⟩:=he.shape;have As:kc<=9223372036854775807:=hkm;have hval:=iD.val;clear h hr hs hkm hP;rcases ho with rfl | rfl
 ·have HZ:=aa hz;have HW:=aa (ax w.heap.size w);clear iy hkc;clear hz hk he iD jT hval hfit;go_enter Tryz.func164,Tryz.ntmps164;obtain⟨x1,kf,ef,jK,bL,jc,aE⟩:=aM w #[.int .i64 0,.bool b,.slice ao l c,.string nm,.slice ko kl kc] 29;replace HZ:=aa (HZ.out.below bL.out);replace HW:=aa (HW.out.trans (bL.out.mono HW.out.size));have YA:=jc;obtain⟨x2,kr,er,pE,cN,iH,aJ⟩:=aM x1 #[.bool false,.slice none 0 0] 26;replace aE:=aS cN.out aE;replace HZ:=aa (HZ.out.below cN.out);replace HW:=aa (HW.out.trans (cN.out.mono HW.out.size));have iS:Hid (w.heap.size<=kr):=aa (ah bL.out.size iH.out);obtain⟨⟨c0,c1,c2,c3,c4⟩,cA,cG,cF,cE,cC⟩:=ak aE.out;obtain⟨r0,Wx,jx,jw⟩:=cO aJ.out;go_wp2_with fail
  clear c0 cA c1 cG c2 cF c3 cE c4 cC;obtain⟨r1,r2⟩:=AM HW.out aJ.out qb iS.out (.bool b) (.slice ao l c);(try simp only[aK,aT]);exact aD (v:=.agg #[.bool b,.slice ao l c]) (by simp[results,Tryz.results164,go_sem,r0,Wx]) rfl ⟨_,rfl,(HZ.out).fr r1,r2⟩
 have HX:=aa hk;have HE:=aa he;have HW:=aa (ax w.heap.size w);have gJ:=aa iy;clear iy hkc;obtain⟨p,rfl,hp⟩:=nY (ks:=ks) (s:=2) (by simpa [dP,bF] using hfit);have wF:=aa (iD.pC p (by simp));have wG:=aa (jT p (by simp));have HP:=aa hp;have r7:=mC (r:=cR env) hp;have jk:Hid (iq (ev (cR env) (.node 6 z nm [p]))=iq (Ec (cR env) 6 z nm [ev (cR env) p])):=aa (by rw[ev,oW,oW]);have UZ:Hid ((mN (ev (cR env) p)).length<=1000/\∀ z ∈ mN (ev (cR env) p),z.natAbs<aG ^ 600):=aa (by have:=(iD.pC p (by simp)).val;rw[r7] at this;exact this);have mj:kl=1:=gJ.out;subst mj;clear hz hk he iD jT hval hfit hp r7 gJ;go_enter Tryz.func164,Tryz.ntmps164
 obtain⟨x1,kf,ef,jK,bL,jc,aE⟩:=aM w #[.int .i64 6,.bool b,.slice ao l c,.string nm,.slice ko 1 kc] 29;replace HX:=aa (HX.out.below bL.out);replace HE:=aa (HE.out.below bL.out);replace HW:=aa (HW.out.trans (bL.out.mono HW.out.size));have YA:=jc;obtain⟨x2,kr,er,pE,cN,iH,aJ⟩:=aM x1 #[.bool false,.slice none 0 0] 26;replace aE:=aS cN.out aE;replace HX:=aa (HX.out.below cN.out);replace HE:=aa (HE.out.below cN.out);replace HW:=aa (HW.out.trans (cN.out.mono HW.out.size));have iS:Hid (w.heap.size<=kr):=aa (ah bL.out.size iH.out);obtain⟨⟨c0,c1,c2,c3,c4⟩,cA,cG,cF,cE,cC⟩:=ak aE.out;obtain⟨a,bp,op,lp,cp,xd,xe,xg,mh,⟨p0,p1,p2,p3,p4⟩,jV⟩:=HX.out.first;have rJ:=aa jV;clear jV
 obtain⟨wO,iE⟩:∃ x,x=p.op:=⟨_,rfl⟩;obtain⟨wY,iF⟩:∃ x,x=p.name:=⟨_,rfl⟩;rw[<-iE] at p0 rJ;rw[<-iF] at p3 rJ;clear iE iF;subst mh;go_wp2_with fail;refine (IL _ _ env p S x2 (RN.out (by first | rfl | trivial) p (by simp)) rJ.out HE.out wG.out HP.out wF.out).mono ?_;rintro e x3 ⟨x,rfl,hx,hb⟩;clear c0 cA c1 cG c2 cF c3 cE c4 cC p0 p1 p2 p3 p4;replace aJ:=aS hb aJ;replace HW:=aa (HW.out.trans (hb.mono HW.out.size));obtain⟨L,hL⟩:∃ L,L=mN (ev (cR env) p):=⟨_,rfl⟩;rw[<-hL] at hx;have HL:=aa hL;have UY:=UZ.out;rw[<-hL] at UY;clear rJ hL;obtain⟨xo,xc,rfl,⟨No,r7⟩,hxc⟩:=hx.form;have Nn:xc<=9223372036854775807:=r7;clear hx;clear hxc;go_wp2_with fail;refine (sR (L.length:Nat) x3 (by omega) (by have:=UY.1;omega)).mono ?_
 rintro e x4 ⟨x,rfl,hx,hb⟩;replace aJ:=aS hb aJ;replace HW:=aa (HW.out.trans (hb.mono HW.out.size));obtain⟨b1,o1,l1,c1,rfl⟩:=hx.shape;have HV:=aa (hx.mono (k':=600) (by decide));clear hx;obtain⟨r0,Wx,jx,jw⟩:=cO aJ.out;go_wp2_with fail;obtain⟨r1,r2⟩:=AM HW.out aJ.out qb iS.out (.bool b1) (.slice o1 l1 c1);(try simp only[aK,aT]);exact aD (v:=.agg #[.bool b1,.slice o1 l1 c1]) (by simp[results,Tryz.results164,go_sem,r0,Wx]) rfl ⟨_,rfl,((show CI _ _ (iq (ev (cR env) (.node 6 z nm [p]))) 600 from by rw[jk.out];show CI _ _ ((mN (ev (cR env) p)).length:Int) 600;rw[<-HL.out];exact HV.out)).fr r1,r2⟩
theorem R_ (d:Nat) (IN:Uw Nh d):Us xh (d+1):=by
 intro ve v env t S w hP h he hr hs iD;obtain⟨b,ao,l,c,ko,kl,kc,rfl,⟨-,hz,iy,hkc,hkm⟩,-,hk⟩:=h.open;obtain⟨o,z,nm,ks⟩:=t;simp only[F.op,F.num,F.name,F.kids] at hz hk iy hs ⊢;rw[show d+1 - 1=d from rfl] at hk;obtain⟨hfit,jT⟩:=iX hr;have ho:o=15:=hP.1;have RN:Hid (∀ k ∈ ks,Nh k):=aa hP.2;obtain⟨eo,en,ec,rfl⟩:=he.shape;have As:kc<=9223372036854775807:=hkm;clear h hr hs hkm hkc hz hP;subst ho;have HX:=aa hk;have HE:=aa he;have gJ:=aa iy;have HW:=aa (ax w.heap.size w);obtain⟨p,q,rfl,hp,hq⟩:=nX (ks:=ks) (s:=0) (r:=0) (by simpa [dP,bF] using hfit);have wF:=aa (iD.pC p (by simp));have wG:=aa (jT p (by simp));have HP:=aa hp;have IF:=aa (iD.pC q (by simp));have IG:=aa (jT q (by simp))
 have HQ:=aa hq;have jk:Hid (gU (ev (cR env) (.node 15 z nm [p,q]))=gU (Ec (cR env) 15 z nm [ev (cR env) p,ev (cR env) q])):=aa (by rw[ev,oW,oW,oW]);have mj:kl=2:=gJ.out;subst mj;clear hk he iD jT hfit iy gJ hp hq;go_enter Tryz.func162,Tryz.ntmps162;obtain⟨x1,ke,ee,eke,iY,hke,Rr⟩:=aM w #[.slice eo en ec] 154;replace HX:=aa (HX.out.below iY.out);replace HE:=aa (HE.out.below iY.out);replace HW:=aa (HW.out.trans (iY.out.mono HW.out.size));obtain⟨x2,kf,ef,jK,bL,jc,aE⟩:=aM x1 #[.int .i64 15,.bool b,.slice ao l c,.string nm,.slice ko 2 kc] 29;replace Rr:=aS bL.out Rr;replace HX:=aa (HX.out.below bL.out);replace HE:=aa (HE.out.below bL.out);replace HW:=aa (HW.out.trans (bL.out.mono HW.out.size))
 have e0:=af (v:=.slice eo en ec) Rr.out 0 rfl;have XT:=aP Rr.out 0;obtain⟨⟨c0,c1,c2,c3,c4⟩,cA,cG,cF,cE,cC⟩:=ak aE.out;obtain⟨a,bp,op,lp,cp,xd,xe,xg,mh,⟨p0,p1,p2,p3,p4⟩,jV⟩:=HX.out.first;subst mh;obtain⟨wO,iE⟩:∃ x,x=p.op:=⟨_,rfl⟩;obtain⟨wY,iF⟩:∃ x,x=p.name:=⟨_,rfl⟩;rw[<-iE] at p0 jV;rw[<-iF] at p3 jV;have rJ:=aa jV;have t_:Hid (zZ x2 a wO bp op lp cp wY xd xe xg):=aa ⟨p0,p1,p2,p3,p4⟩;clear iE iF jV p0 p1 p2 p3 p4;obtain⟨a2,bq,oq,lq,cq,Hj,Hl,Ho,vW,⟨q0,q1,q2,q3,q4⟩,rj⟩:=HX.out.second;injection vW with Au;subst Au;obtain⟨G_,qh⟩:∃ x,x=q.op:=⟨_,rfl⟩;obtain⟨Hf,qj⟩:∃ x,x=q.name:=⟨_,rfl⟩;rw[<-qh] at q0 rj;rw[<-qj] at q3 rj;have mw:=aa rj
 have jd:Hid (zZ x2 ⟨a.block,a.off+5,none⟩ G_ bq oq lq cq Hf Hj Hl Ho):=aa ⟨q0,q1,q2,q3,q4⟩;clear qh qj rj q0 q1 q2 q3 q4;go_upto_region 7 with fail;clear e0 XT c0 cA c1 cG c2 cF c3 cE c4 cC;have KM:=ae Rr.out;have fB:=ae aE.out;have ik:Hid (∀ q,q<0->(fun q=>0) q<x2.heap.size):=aa (fun q h=>absurd h (ay _));refine R7.region (by kernel_rfl) [[],[],[1],[1,2],[1,2,3],[0,1,2,3,4],[],[],[7],[7,8],[7,8,9],[0,1,2,3,4,5,6,7,8,9,10],[0,1,2,3,4,5,6,7,8,9,10,11],[0,1,2,3,4,5,6,7,8,9,10,11,12],[0,1,2,3,4,5,6,7,8,9,10,11,12,13]] [] [] (fun q=>0) 0 15 (by kernel_rfl) (by kernel_rfl) (by rfl) ik.out (fun q q' h h' hn=>absurd hn (by omega)) ?_;refine R7.aB.da ?_ (by rfl) (fun T xs wr hA=>?_) ?_;rotate_left 1
 ·have e2:=hA.pre 2 (by kernel_rfl);simp only[g_,iC,iz] at e2;have bx:wr.heap[ke]?=_:=(hA.bl _ KM (fun q h=>absurd h (ay _))).trans Rr.out;have q0:=af (v:=.slice eo en ec) bx 0 rfl;clear bx;clear hA;refine⟨(by rfl),?_⟩;go_simp<;>(try with_reducible rfl)
 refine R7.aB.da ?_ (by rfl) (fun T xs wr hA=>?_) ?_;rotate_left 1
 ·have e3:=hA.pre 3 (by kernel_rfl);simp only[g_,iC,iz] at e3;clear hA;refine⟨(by rfl),?_⟩;go_simp<;>(try with_reducible rfl)
 refine R7.aB.da ?_ (by rfl) (fun T xs wr hA=>?_) ?_;rotate_left 1
 ·have Dh:=hA.tm 1 19 (by rfl) (by rfl);have f19:xs 1=_:=hA.fa 1 (by rfl);(try simp (disch:=first | rfl | decide) only [R7.an] at f19);rw[f19] at Dh;clear f19;have bx:wr.heap[kf]?=_:=(hA.bl _ fB (fun q h=>absurd h (ay _))).trans aE.out;have q0:=af (v:=.int .i64 15) bx 0 rfl;have q1:=af (v:=.bool b) bx 1 rfl;have q2:=af (v:=.slice ao l c) bx 2 rfl;have q3:=af (v:=.string nm) bx 3 rfl;have q4:=af (v:=.slice (some a) 2 kc) bx 4 rfl;clear bx;clear hA;refine⟨(by rfl),?_⟩;go_simp<;>(try with_reducible rfl)
 refine R7.aB.da ?_ (by rfl) (fun T xs wr hA=>?_) ?_;rotate_left 1
 ·have Lj:=hA.tm 2 20 (by rfl) (by rfl);have f20:xs 2=_:=hA.fa 2 (by rfl);(try simp (disch:=first | rfl | decide) only [R7.an] at f20);rw[f20] at Lj;clear f20;clear hA;refine⟨(by rfl),?_⟩;go_simp<;>(try with_reducible rfl)
 refine R7.aB.da ?_ (by rfl) (fun T xs wr hA=>?_) ?_;rotate_left 1
 ·have L_:=hA.tm 3 21 (by rfl) (by rfl);have f21:xs 3=_:=hA.fa 3 (by rfl);(try simp (disch:=first | rfl | decide) only [R7.an] at f21);rw[f21] at L_;clear f21;have kD:=cm (hA.be x2.heap.size (ai _) (fun q h=>absurd h (ay q)));obtain⟨q0,q1,q2,q3,q4⟩:=t_.out.below kD;try simp only at q0 q1 q2 q3 q4
  clear hA;refine⟨(by rfl),?_⟩;go_simp<;>(try with_reducible rfl)
 refine R7.aB.call (fun xs v w=>∃ y,v=y/\CI w y (iq (ev (cR env) p)) 600) (fun _ _ _ _ h hb=>by obtain⟨y,h1,h2⟩:=h;exact⟨y,h1,h2.below hb⟩) (fun _ _ _ _ _ _ h _=>by obtain⟨q,hq,_⟩:=h;exact absurd hq (ay _)) (by rfl) (fun T xs wr hA=>?_) ?_
 ·have th:=(hA.be 0 (au _) (fun _ _=>au _)).size;have QI:=hA.tm 0 18 (by rfl) (by rfl);have f18:xs 0=_:=hA.fa 0 (by rfl);(try simp (disch:=first | rfl | decide) only [R7.an] at f18);rw[f18] at QI;clear f18;have L9:=hA.tm 4 22 (by rfl) (by rfl);have f22:xs 4=_:=hA.fa 4 (by rfl);(try simp (disch:=first | rfl | decide) only [R7.an] at f22);rw[f22] at L9;clear f22;have kD:=cm (hA.be x2.heap.size (ai _) (fun q h=>absurd h (ay q)));have rj:=rJ.out.below kD;clear hA;refine⟨(by rfl),fun K hK=>?_⟩;go_simp;refine (IN _ _ env p S _ (RN.out p (by simp)) rj (HE.out.below kD) wG.out HP.out wF.out).mono ?_;rintro e w' ⟨y,rfl,hy,hb'⟩;exact hK.out _ _ ⟨y,rfl,hy⟩ hb'
 refine R7.aB.da ?_ (by rfl) (fun T xs wr hA=>?_) ?_;rotate_left 1
 ·have e2:=hA.pre 2 (by kernel_rfl);simp only[g_,iC,iz] at e2;have bx:wr.heap[ke]?=_:=(hA.bl _ KM (fun q h=>absurd h (ay _))).trans Rr.out;have q0:=af (v:=.slice eo en ec) bx 0 rfl;clear bx;clear hA;refine⟨(by rfl),?_⟩;go_simp<;>(try with_reducible rfl)
 refine R7.aB.da ?_ (by rfl) (fun T xs wr hA=>?_) ?_;rotate_left 1
 ·have e3:=hA.pre 3 (by kernel_rfl);simp only[g_,iC,iz] at e3;clear hA;refine⟨(by rfl),?_⟩;go_simp<;>(try with_reducible rfl)
 refine R7.aB.da ?_ (by rfl) (fun T xs wr hA=>?_) ?_;rotate_left 1
 ·have O0:=hA.tm 7 25 (by rfl) (by rfl);have f25:xs 7=_:=hA.fa 7 (by rfl);(try simp (disch:=first | rfl | decide) only [R7.an] at f25);rw[f25] at O0;clear f25;have bx:wr.heap[kf]?=_:=(hA.bl _ fB (fun q h=>absurd h (ay _))).trans aE.out;have q0:=af (v:=.int .i64 15) bx 0 rfl;have q1:=af (v:=.bool b) bx 1 rfl;have q2:=af (v:=.slice ao l c) bx 2 rfl;have q3:=af (v:=.string nm) bx 3 rfl;have q4:=af (v:=.slice (some a) 2 kc) bx 4 rfl;clear bx;clear hA;refine⟨(by rfl),?_⟩;go_simp<;>(try with_reducible rfl)
 refine R7.aB.da ?_ (by rfl) (fun T xs wr hA=>?_) ?_;rotate_left 1
 ·have Ua:=hA.tm 8 26 (by rfl) (by rfl);have f26:xs 8=_:=hA.fa 8 (by rfl);(try simp (disch:=first | rfl | decide) only [R7.an] at f26);rw[f26] at Ua;clear f26;clear hA;refine⟨(by rfl),?_⟩;go_simp<;>(try with_reducible rfl)
 refine R7.aB.da ?_ (by rfl) (fun T xs wr hA=>?_) ?_;rotate_left 1
 ·have T_:=hA.tm 9 27 (by rfl) (by rfl);have f27:xs 9=_:=hA.fa 9 (by rfl);(try simp (disch:=first | rfl | decide) only [R7.an] at f27);rw[f27] at T_;clear f27;have kD:=cm (hA.be x2.heap.size (ai _) (fun q h=>absurd h (ay q)));obtain⟨q0,q1,q2,q3,q4⟩:=jd.out.below kD;try simp only at q0 q1 q2 q3 q4
  clear hA;refine⟨(by rfl),?_⟩;go_simp<;>(try with_reducible rfl)
 refine R7.aB.call (fun xs v w=>∃ y,v=y/\CI w y (iq (ev (cR env) q)) 600) (fun _ _ _ _ h hb=>by obtain⟨y,h1,h2⟩:=h;exact⟨y,h1,h2.below hb⟩) (fun _ _ _ _ _ _ h _=>by obtain⟨q,hq,_⟩:=h;exact absurd hq (ay _)) (by rfl) (fun T xs wr hA=>?_) ?_
 ·have th:=(hA.be 0 (au _) (fun _ _=>au _)).size;have I1:=hA.tm 6 24 (by rfl) (by rfl);have f24:xs 6=_:=hA.fa 6 (by rfl);(try simp (disch:=first | rfl | decide) only [R7.an] at f24);rw[f24] at I1;clear f24;have X4:=hA.tm 10 28 (by rfl) (by rfl);have f28:xs 10=_:=hA.fa 10 (by rfl);(try simp (disch:=first | rfl | decide) only [R7.an] at f28);rw[f28] at X4;clear f28;have kD:=cm (hA.be x2.heap.size (ai _) (fun q h=>absurd h (ay q)));have rj:=mw.out.below kD;clear hA;refine⟨(by rfl),fun K hK=>?_⟩;go_simp;refine (IN _ _ env q S _ (RN.out q (by simp)) rj (HE.out.below kD) IG.out HQ.out IF.out).mono ?_;rintro e w' ⟨y,rfl,hy,hb'⟩;exact hK.out _ _ ⟨y,rfl,hy⟩ hb'
 refine R7.aB.call (fun xs v w=>v=.int .i64 (eX (iq (ev (cR env) p) - iq (ev (cR env) q)))) (fun _ _ _ _ h _=>h) (fun _ _ _ _ _ h _ _=>h) (by rfl) (fun T xs wr hA=>?_) ?_
 ·have th:=(hA.be 0 (au _) (fun _ _=>au _)).size;have Li:=hA.tm 5 23 (by rfl) (by rfl);have e29:=hA.tm 11 29 (by rfl) (by rfl);have hF5:∃ y,(xs 5)=y/\CI wr y (iq (ev (cR env) p)) 600:=hA.fa 5 (by rfl);obtain⟨y5,e5,Zh⟩:=hF5;have XJ:∃ y,(xs 11)=y/\CI wr y (iq (ev (cR env) q)) 600:=hA.fa 11 (by rfl);obtain⟨y11,Ll,SF⟩:=XJ;clear hA;refine⟨(by rfl),fun K hK=>?_⟩;go_simp;refine (yA _ _ (iq (ev (cR env) p)) (iq (ev (cR env) q)) 600 600 _ (by first | exact Zh.gi | (rw[e5];exact Zh.gi)) (by first | exact SF.gi | (rw[Ll];exact SF.gi)) (by decide) (by decide)).mono ?_;rintro e w' ⟨rfl,hb'⟩;exact hK.out _ _ rfl hb'
 refine R7.aB.da ?_ (by rfl) (fun T xs wr hA=>?_) ?_;rotate_left 1
 ·have X3:=hA.tm 12 30 (by rfl) (by rfl);have f30:xs 12=(.int .i64 (eX (iq (ev (cR env) p) - iq (ev (cR env) q)))):=hA.fa 12 (by rfl);rw[f30] at X3;clear f30;clear hA;refine⟨(by rfl),?_⟩;go_simp<;>(try with_reducible rfl)
 refine R7.aB.da ?_ (by rfl) (fun T xs wr hA=>?_) ?_;rotate_left 1
 ·have X0:=hA.tm 13 31 (by rfl) (by rfl);have f31:xs 13=_:=hA.fa 13 (by rfl);(try simp (disch:=first | rfl | decide) only [R7.an] at f31);rw[f31] at X0;clear f31;clear hA;refine⟨(by rfl),?_⟩;go_simp<;>(try with_reducible rfl)
 refine R7.aB.done (fun xs x3 hL=>?_);obtain⟨⟨iY,dw⟩,hf,-,-⟩:=hL;have f0:xs 0=_:=hf 0 (by decide);(try simp (disch:=first | rfl | decide) only [R7.an] at f0);have f1:xs 1=_:=hf 1 (by decide);(try simp (disch:=first | rfl | decide) only [R7.an] at f1);have f2:xs 2=_:=hf 2 (by decide);(try simp (disch:=first | rfl | decide) only [R7.an] at f2);have f3:xs 3=_:=hf 3 (by decide);(try simp (disch:=first | rfl | decide) only [R7.an] at f3);have f4:xs 4=_:=hf 4 (by decide);(try simp (disch:=first | rfl | decide) only [R7.an] at f4);have F5:∃ y,(xs 5)=y/\CI x3 y (iq (ev (cR env) p)) 600:=hf 5 (by decide);have f6:xs 6=_:=hf 6 (by decide);(try simp (disch:=first | rfl | decide) only [R7.an] at f6);have f7:xs 7=_:=hf 7 (by decide)
 (try simp (disch:=first | rfl | decide) only [R7.an] at f7);have f8:xs 8=_:=hf 8 (by decide);(try simp (disch:=first | rfl | decide) only [R7.an] at f8);have f9:xs 9=_:=hf 9 (by decide);(try simp (disch:=first | rfl | decide) only [R7.an] at f9);have f10:xs 10=_:=hf 10 (by decide);(try simp (disch:=first | rfl | decide) only [R7.an] at f10);have F11:∃ y,(xs 11)=y/\CI x3 y (iq (ev (cR env) q)) 600:=hf 11 (by decide);have f12:xs 12=(.int .i64 (eX (iq (ev (cR env) p) - iq (ev (cR env) q)))):=hf 12 (by decide);have f13:xs 13=_:=hf 13 (by decide);(try simp (disch:=first | rfl | decide) only [R7.an] at f13);have f14:xs 14=_:=hf 14 (by decide);(try simp (disch:=first | rfl | decide) only [R7.an] at f14)
 have hb0:aA 0 x2 x3:=cm (iY 0 (au _) (fun _ _=>au _));have mP:∀ j,j<x2.heap.size->(∀ q,q<0->(fun q=>0) q≠j)->x3.heap[j]?=x2.heap[j]?:=dw;clear iY dw hf;have hb:aA x2.heap.size x2 x3:=⟨hb0.os,hb0.tape,hb0.output,hb0.size,fun q hq=>mP q hq (fun q h=>absurd h (ay _))⟩;refine R7.jE ?_;simp only[R7.fill,GG,GF,GD,f0,f1,f2,f3,f4,f6,f7,f8,f9,f10,f12,f13,f14];clear hb0 mP ik KM fB f0 f1 f2 f3 f4 f6 f7 f8 f9 f10 f12 f13 f14;replace HW:=aa (HW.out.trans (hb.mono HW.out.size));replace hb:=aa hb;go_wp2_with fail;go_ret;refine⟨?_,HW.out⟩;have hle:decide (eX (iq (ev (cR env) p) - iq (ev (cR env) q))<=0)=decide (iq (ev (cR env) p)<=iq (ev (cR env) q)):=by
  unfold eX;congr 1;apply propext;(repeat' split)<;>constructor<;>intro h<;>first | omega | (exfalso;omega)
 rw[jk.out];show Ending.returned _=Ending.returned (.bool (decide (iq (ev (cR env) p)<=iq (ev (cR env) q))))
 rw[<-hle];rfl
theorem R5 (d:Nat) (IT:Us xh d):QX xh d:=by
 intro ve v env t S w hP h he hr iD;obtain⟨eo,en,ec,rfl⟩:=he.shape;have hs:eI t.op=1:=by rw[hP.1];rfl
 have RN:=aa hP;clear hP;have HS:=aa hs;clear hs;have HT:=aa h;obtain⟨b,ao,l,c,ko,kl,kc,rfl,-,-,-⟩:=h.open;obtain⟨o,IU⟩:∃ o,o=t.op:=⟨_,rfl⟩;obtain⟨nm,hnm⟩:∃ o,o=t.name:=⟨_,rfl⟩;rw[<-IU] at HT ⊢;rw[<-hnm] at HT ⊢;have HOO:=aa IU;have HE:=aa he;have HR:=aa hr;have Ob:=aa iD;clear h he hr iD IU hnm;have HW:=aa (ax w.heap.size w);go_enter Tryz.func114,Tryz.ntmps114;obtain⟨x1,kf,ef,jK,bL,jc,aE⟩:=aM w #[.int .i64 o,.bool b,.slice ao l c,.string nm,.slice ko kl kc] 29;replace HT:=aa (HT.out.below bL.out);replace HE:=aa (HE.out.below bL.out);replace HW:=aa (HW.out.trans (bL.out.mono HW.out.size))
 obtain⟨x2,kr,er,pE,cN,iH,aJ⟩:=aM x1 #[.int .i64 0,.bool false,.slice none 0 0,.bool false,.slice none 0 0] 41;replace aE:=aS cN.out aE;replace HT:=aa (HT.out.below cN.out);replace HE:=aa (HE.out.below cN.out);replace HW:=aa (HW.out.trans (cN.out.mono HW.out.size));have iS:Hid (w.heap.size<=kr):=aa (ah bL.out.size iH.out);obtain⟨⟨c0,c1,c2,c3,c4⟩,cA,cG,cF,cE,cC⟩:=ak aE.out;go_wp2_with fail;refine (yM o b ao l c nm ko kl kc x2).mono ?_;rintro e x3 ⟨rfl,hb⟩;clear c0 cA c1 cG c2 cF c3 cE c4 cC;replace aE:=aS hb aE;replace aJ:=aS hb aJ;replace HT:=aa (HT.out.below hb);replace HE:=aa (HE.out.below hb);replace HW:=aa (HW.out.trans (hb.mono HW.out.size));rw[show eI o=1 from (by rw[HOO.out];exact HS.out)]
 obtain⟨⟨c0,c1,c2,c3,c4⟩,cA,cG,cF,cE,cC⟩:=ak aE.out;go_wp2_with fail;refine (IT _ _ env t S x3 RN.out HT.out HE.out HR.out HS.out Ob.out).mono ?_;rintro e x4 ⟨rfl,hb⟩;clear c0 cA c1 cG c2 cF c3 cE c4 cC;replace aJ:=aS hb aJ;replace HW:=aa (HW.out.trans (hb.mono HW.out.size));go_wp2_with fail;refine (iR _ x4).mono ?_;rintro e x5 ⟨v,rfl,hv,hb⟩;replace aJ:=aS hb aJ;replace HW:=aa (HW.out.trans (hb.mono HW.out.size));have r8:=hv.bool;subst r8;have HV:=aa hv;clear hv;obtain⟨⟨r0,r1,r2,r3,r4⟩,jx,jw,jP,jO,jN⟩:=ak aJ.out;go_wp2_with fail;obtain⟨s1,s2⟩:=gG HW.out aJ.out fb iS.out (.int .i64 1) (.bool false) (.slice none 0 0) (.bool (gU (ev (cR env) t))) (.slice none 0 0);(try simp only[aK,aT])
 exact aD (v:=.agg #[.int .i64 1,.bool false,.slice none 0 0,.bool (gU (ev (cR env) t)),.slice none 0 0]) (by simp[results,Tryz.results114,go_sem,r0,r1,r2,r3,r4]) rfl ⟨_,rfl,(show VC _ _ (ev (cR env) t) from by rw[yd HS.out];exact HV.out).fr (by decide) s1,s2⟩
theorem QE (d:Nat) (ve v:aq) (env:List (ByteArray × V)) (t:F) (S:Nat->Prop) (w:ag) (hP:xh t) (IV:QX xh d) (h:FC w S d v t) (he:EL w ve env) (hr:rt t=true) (iD:Sm (cR env) t) :
  aW aj 66 #[v,ve] w fun e w'=>∃ x,e=.returned x/\VC w' x (ev (cR env) t)/\aA w.heap.size w w':=by
 obtain⟨eo,en,ec,rfl⟩:=he.shape;have HT:=aa h;obtain⟨b,ao,l,c,ko,kl,kc,rfl,-,-,-⟩:=h.open;obtain⟨o,IU⟩:∃ o,o=t.op:=⟨_,rfl⟩;obtain⟨nm,hnm⟩:∃ o,o=t.name:=⟨_,rfl⟩;rw[<-IU] at HT ⊢;rw[<-hnm] at HT ⊢;have HE:=aa he;have HR:=aa hr;have Ob:=aa iD;clear h he hr iD IU hnm;have HW:=aa (ax w.heap.size w);go_enter Tryz.func66,Tryz.ntmps66;obtain⟨x1,kf,ef,jK,bL,jc,aE⟩:=aM w #[.int .i64 o,.bool b,.slice ao l c,.string nm,.slice ko kl kc] 29;replace HT:=aa (HT.out.below bL.out);replace HE:=aa (HE.out.below bL.out);replace HW:=aa (HW.out.trans (bL.out.mono HW.out.size));obtain⟨x2,kr,er,pE,cN,iH,aJ⟩:=aM x1 #[.int .i64 0,.bool false,.slice none 0 0,.bool false,.slice none 0 0] 41;replace aE:=aS cN.out aE
 replace HT:=aa (HT.out.below cN.out);replace HE:=aa (HE.out.below cN.out);replace HW:=aa (HW.out.trans (cN.out.mono HW.out.size));have iS:Hid (w.heap.size<=kr):=aa (ah bL.out.size iH.out);obtain⟨⟨c0,c1,c2,c3,c4⟩,cA,cG,cF,cE,cC⟩:=ak aE.out;go_wp2_with fail;refine (By d _ t S x2 HT.out).mono ?_;rintro e x3 ⟨rfl,hb⟩;clear c0 cA c1 cG c2 cF c3 cE c4 cC;replace aE:=aS hb aE;replace aJ:=aS hb aJ;replace HT:=aa (HT.out.below hb);replace HE:=aa (HE.out.below hb);replace HW:=aa (HW.out.trans (hb.mono HW.out.size));rw[HR.out];obtain⟨⟨c0,c1,c2,c3,c4⟩,cA,cG,cF,cE,cC⟩:=ak aE.out;go_wp2_with fail;refine (IV _ _ env t S x3 hP HT.out HE.out HR.out Ob.out).mono ?_;rintro e x4 ⟨x,rfl,hx,hb⟩
 clear c0 cA c1 cG c2 cF c3 cE c4 cC;replace aJ:=aS hb aJ;replace HW:=aa (HW.out.trans (hb.mono HW.out.size));obtain⟨k1,b1,o1,l1,c1,p1,m1,q1,rfl⟩:=hx.shape;have HV:=aa hx;clear hx;obtain⟨⟨r0,r1,r2,r3,r4⟩,jx,jw,jP,jO,jN⟩:=ak aJ.out;go_wp2_with fail;obtain⟨s1,s2⟩:=gG HW.out aJ.out fb iS.out (.int .i64 k1) (.bool b1) (.slice o1 l1 c1) (.bool (gU (ev (cR env) t))) (.slice p1 m1 q1);(try simp only[aK,aT]);exact aD (v:=.agg #[.int .i64 k1,.bool b1,.slice o1 l1 c1,.bool (gU (ev (cR env) t)),.slice p1 m1 q1]) (by simp[results,Tryz.results66,go_sem,r0,r1,r2,r3,r4]) rfl ⟨_,rfl,(HV.out).fr (by decide) s1,s2⟩
theorem Nv (d:Nat) (ve v:aq) (env:List (ByteArray × V)) (t:F) (S:Nat->Prop) (w:ag) (hP:xh t) (IV:QX xh d) (h:FC w S d v t) (he:EL w ve env) (hr:rt t=true) (iD:Sm (cR env) t) :
  aW aj 18 #[v,ve] w fun e w'=>e=.returned (.bool (gU (ev (cR env) t)))/\aA w.heap.size w w':=by
 obtain⟨eo,en,ec,rfl⟩:=he.shape;have HT:=aa h;obtain⟨b,ao,l,c,ko,kl,kc,rfl,-,-,-⟩:=h.open;obtain⟨o,IU⟩:∃ o,o=t.op:=⟨_,rfl⟩;obtain⟨nm,hnm⟩:∃ o,o=t.name:=⟨_,rfl⟩;rw[<-IU] at HT ⊢;rw[<-hnm] at HT ⊢;have HE:=aa he;have HR:=aa hr;have Ob:=aa iD;clear h he hr iD IU hnm;have HW:=aa (ax w.heap.size w);go_enter Tryz.func18,Tryz.ntmps18;obtain⟨x1,kf,ef,jK,bL,jc,aE⟩:=aM w #[.int .i64 o,.bool b,.slice ao l c,.string nm,.slice ko kl kc] 29;replace HT:=aa (HT.out.below bL.out);replace HE:=aa (HE.out.below bL.out);replace HW:=aa (HW.out.trans (bL.out.mono HW.out.size));obtain⟨⟨c0,c1,c2,c3,c4⟩,cA,cG,cF,cE,cC⟩:=ak aE.out;go_wp2_with fail
 refine (QE d _ _ env t S x1 hP IV HT.out HE.out HR.out Ob.out).mono ?_;rintro e x2 ⟨x,rfl,hx,hb⟩;clear c0 cA c1 cG c2 cF c3 cE c4 cC;replace HW:=aa (HW.out.trans (hb.mono HW.out.size));obtain⟨k1,b1,o1,l1,c1,p1,m1,q1,rfl⟩:=hx.shape;clear hx;go_wp2_with fail;go_ret;exact⟨rfl,HW.out⟩
theorem Hy (v:aq) (S:Nat->Prop) (w:ag) (h:FC w S 9 v (dV (nF 0) (cY sY))) (he:EL w (.slice none 0 0) []) (iD:Sm (cR []) (dV (nF 0) (cY sY))) :
  aW aj 18 #[v,.slice none 0 0] w fun e w'=>e=.returned (.bool true)/\aA w.heap.size w w':=by
 have P:xh (dV (nF 0) (cY sY)):=⟨rfl,fun k hk=>by
  have ff:k=nF 0\/k=cY sY:=by simpa [dV,fo,F.kids] using hk
  rcases ff with rfl | rfl
  ·exact .inl rfl
  exact .inr ⟨rfl,fun q hq=>by
   have hq2:q=sY:=by simpa [cY,fo,F.kids] using hq
   rw[hq2];rfl⟩⟩
 exact Nv 9 _ _ [] _ S w P (R5 9 (R_ 8 (So 7 (Sx 6)))) h he rfl iD
attribute [local go_sem] eF eE eC eB
theorem Pw:Sm (cR []) (dV (nF 0) (cY sY)):=by
 have z:rO (.I 0):=BE.sm (BE.zero 4 6) (by decide) (by decide);have z0:rO (.L []):=BE.sm (v:=.L []) (e:=4) (n:=6) ⟨au _,fun z hz=>by cases hz⟩ (by decide) (by decide);exact⟨trivial,⟨z,trivial⟩,⟨z,⟨z0,trivial⟩,trivial⟩,trivial⟩
theorem IC (a:Addr):a.add 0=a:=by
 obtain⟨b,o,s⟩:=a
 cases s<;>rfl
theorem Qv:∀ y ∈ JR (cY sY),Gd y:=by
 have L1:rt sY=true/\Tg 1 sY:=⟨rfl,AU.2.2.2.2.2 sY (by simp[cY,fo,F.kids])⟩;have h2:∀ k ∈ [cY sY],Tg 2 k:=fun k hk=>by rw[List.mem_singleton] at hk;rw[hk];exact AU.2
 have BZ:∀ {e:Nat} {o:Int} {ks:List F},¬ (o=1\/o=8\/o=14)->ks.length<=8->(∀ k ∈ ks,Tg e k)->Tg (e+1) (fo o ks):=fun ho hl hk =>
  ⟨by unfold Md;rw[if_neg (show ¬ ((fo _ _).op=1\/(fo _ _).op=8\/(fo _ _).op=14) from ho)];rfl,z4,fun _ _ _=>rfl,hl,hk⟩
 have Z:Tg 1 (nF 0):=(qn (d:=5) (e:=1) Rv (by omega)).2.g;have LE:Tg 3 (dV (nF 0) (cY sY)):=BZ (by decide) (by simp) (m2 (Z.up (by decide)) AU.2);have LE':Tg 3 (dV (cY sY) (nF 0)):=BZ (by decide) (by simp) (m2 AU.2 (Z.up (by decide)));have NT:Tg 4 (bW (dV (cY sY) (nF 0))):=BZ (by decide) (by simp) (m1 LE');have NI:Tg 1 lS:=BZ (e:=0) (by decide) (by simp) (fun k hk=>by cases hk);have EQ:Tg 2 (b_ sY lS):=BZ (by decide) (by simp) (m2 L1.2 NI);have LN:Tg 2 (cY lS):=BZ (by decide) (by simp) (m1 NI);intro y hy;rw[JO] at hy;simp only[List.mem_cons,aU,or_false] at hy;rcases hy with rfl | rfl | rfl | rfl
 ·exact⟨rfl,LE.up (by decide)⟩
 ·exact⟨rfl,Tg.up (BZ (by decide) (by simp) (m2 NT (EQ.up (by decide))):Tg 5 (kN sY)) (by decide)⟩
 ·exact⟨rfl,Tg.up (BZ (by decide) (by simp) (m2 (Z.up (by decide)) LN):Tg 3 (dV (nF 0) (cY lS))) (by decide)⟩
 exact⟨rfl,Tg.up (BZ (by decide) (by simp) (m2 LN (Z.up (by decide))):Tg 3 (b_ (cY lS) (nF 0))) (by decide)⟩
theorem NV (w:ag) (ht:AA w):aW aj 20 #[] w fun e w'=>e=.returned (.bool true)/\aA w.heap.size w w':=by
 have HT:=aa ht;clear ht;have HW:=aa (ax w.heap.size w);go_enter Tryz.func20,Tryz.ntmps20;obtain⟨x1,kl,el,ekl,dw,iy,HBl⟩:=aM w #[.int .i64 8,.bool false,.slice none 0 0,.string ⟨#[108]⟩,.slice none 0 0] 29;replace HW:=aa (HW.out.trans (dw.out.mono HW.out.size));replace HT:=aa (HT.out.below dw.out);have vt:Hid (FC x1 tS 2 (.agg #[.int .i64 6,.bool false,.slice none 0 0,.string ⟨#[]⟩,.slice (some ⟨kl,0,none⟩) 1 1]) (cY sY)):=aa (FC.mk (op:=6) (nm:=⟨#[]⟩) ⟨by decide,by decide⟩ (X9 x1) (FL.one HBl.out trivial (FC.mk (op:=8) (nm:=⟨#[108]⟩) ⟨by decide,by decide⟩ (X9 x1) (FL.nil x1 tS 0))));go_wp2_with fail;refine (FE 2 _ (cY sY) x1 vt.out (by decide) AU.1 AU.2 (by decide) Qv HT.out).mono ?_;rintro e x2 ⟨v,rfl,hfl,hb⟩
 replace HW:=aa (HW.out.trans (hb.mono HW.out.size));rw[JO] at hfl;obtain⟨ko,kc,rfl,Xv,Xu,-⟩:=hfl.form;have NG:kc<=9223372036854775807:=Xu;obtain⟨a,b,ao,l,c,po,pl,pc,rfl,⟨c0,c1,c2,c3,c4⟩,Xo⟩:=hfl.cells 0 (by decide);have U8:Hid (FC x2 tS 9 (.agg #[.int .i64 15,.bool b,.slice ao l c,.string ⟨#[]⟩,.slice po pl pc]) (dV (nF 0) (cY sY))):=aa Xo;clear Xo Xu;have ea:a.add (0*5)=a:=IC a;rw[ea] at c0 c1 c2 c3 c4;replace c0:x2.cell? a=some (.int .i64 15):=c0;replace c3:x2.cell? ⟨a.block,a.off+3,none⟩=some (.string ⟨#[]⟩):=c3;clear ea;have Mi:Hid (EL x2 (.slice none 0 0) []):=aa ⟨[],El.At.nil x2,rfl⟩;go_wp2_with fail;refine (Hy _ tS x2 U8.out Mi.out Pw).mono ?_;rintro e x3 ⟨rfl,hb⟩;rw[<-hb.cell (cu c0)] at c0
 replace HW:=aa (HW.out.trans (hb.mono HW.out.size));clear hb;go_wp2_with fail;go_ret;exact⟨rfl,HW.out⟩
theorem Sa (s:Int) (o:Int) (b:Bool) (ao:Option Addr) (l c:Nat) (nm:ByteArray) (ko:Option Addr) (kl kc:Nat) (w:ag) (hs:s=0\/s=1\/s=2) (h:pg w 5 ⟨o,b,ao,l,c,nm,ko,kl,kc⟩) :
  aW aj 13 #[.agg #[.int .i64 o,.bool b,.slice ao l c,.string nm,.slice ko kl kc],.int .i64 s,.int .i64 5] w (mO 5 s w):=Ot 4 (by decide) s o b ao l c nm ko kl kc w hs h
theorem Nu (x:RU) (ko:Option Addr) (kl kc:Nat) (p:Int) (K:Nat) (w:ag) (hx:∀ d,pg w d x) (hv:rz w ko kl kc) (ht:AA w) (hK:bits BinOp.and IntKind.i64 p 255=(K:Int)) (s:Int) (h3:s=0\/s=1\/s=2) (hs:((K:Nat):Int).tmod 3=s) :
  aW aj 4 #[rV x,.slice ko kl kc,.int .i64 p] w fun e w'=>e=.returned (.bool true)/\aA w.heap.size w w':=by
 obtain⟨xo,xb,fZ,xl,xc,fY,gu,fT,fU⟩:=x;have HX:=aa (hx 5);have HV:=aa hv;have HT:=aa ht;have H3:=aa h3;unfold rV;simp only;clear hx hv ht h3;have HW:=aa (ax w.heap.size w);go_enter Tryz.func4,Tryz.ntmps4;obtain⟨x1,kf,ef,jK,bL,jc,aE⟩:=aM w #[.int .i64 xo,.bool xb,.slice fZ xl xc,.string fY,.slice gu fT fU] 29;replace HW:=aa (HW.out.trans (bL.out.mono HW.out.size));replace HX:=aa (HX.out.below bL.out);replace HV:=aa (HV.out.below bL.out);replace HT:=aa (HT.out.below bL.out);go_wp2_with fail;refine (NV x1 HT.out).mono ?_;rintro e x2 ⟨rfl,hb⟩;replace aE:=aS hb aE;replace HW:=aa (HW.out.trans (hb.mono HW.out.size));replace HX:=aa (HX.out.below hb);replace HV:=aa (HV.out.below hb)
 replace HT:=aa (HT.out.below hb);obtain⟨⟨c0,c1,c2,c3,c4⟩,cA,cG,cF,cE,cC⟩:=ak aE.out;go_wp2_with fail;clear hK hs;refine (Sa s _ _ _ _ _ _ _ _ _ x2 H3.out HX.out).mono ?_;rintro e x3 ⟨v,t,rfl,FW,qg,KD,BP,hb⟩;clear c0 cA c1 cG c2 cF c3 cE c4 cC;replace HW:=aa (HW.out.trans (hb.mono HW.out.size));replace HV:=aa (HV.out.below hb);replace HT:=aa (HT.out.below hb);obtain⟨b,ao,l,c,po,pl,pc,rfl,⟨hr,hz,iy,hkc,hkm⟩,-,-⟩:=FW.open;obtain⟨ty,hty⟩:∃ x,x=t.op:=⟨_,rfl⟩;obtain⟨tn,htn⟩:∃ x,x=t.name:=⟨_,rfl⟩;rw[<-hty,<-htn] at FW;rw[<-hty,<-htn];have vt:=aa (FW.mono (S':=tS) (fun _ _=>trivial));have I5:=aa qg;have RL:=aa BP;clear FW qg KD BP hr hz iy hkc hkm hty htn;clear HX
 obtain⟨x4,kx,ex,Z9,dK,ZE,LK⟩:=aM x3 #[.int .i64 ty,.bool b,.slice ao l c,.string tn,.slice po pl pc] 29;replace HW:=aa (HW.out.trans (dK.out.mono HW.out.size));replace HV:=aa (HV.out.below dK.out);replace HT:=aa (HT.out.below dK.out);replace vt:=aa (vt.out.below dK.out);go_wp2_with fail;refine (TY ko kl kc x4 HV.out).mono ?_;rintro e x5 ⟨ve,env,rfl,hel,Xp,hb⟩;replace LK:=aS hb LK;replace HW:=aa (HW.out.trans (hb.mono HW.out.size));replace HT:=aa (HT.out.below hb);replace vt:=aa (vt.out.below hb);have Mi:=aa hel;obtain⟨eo,en,ec,rfl⟩:=hel.shape;have xQ:=aa (QH Xp);have UU:=aa (of_law I5.out RL.out Xp.2.2);clear hel Xp HV;obtain⟨⟨d0,d1,d2,d3,d4⟩,tK,A_,Ik,Ij,Ii⟩:=ak LK.out;go_wp2_with fail
 refine (FE 5 _ t x5 vt.out (by decide) I5.out RL.out.g (ah (Jp 5 t RL.out) Ud) (Sk I5.out RL.out) HT.out).mono ?_;rintro e x6 ⟨v,rfl,hfl,hb⟩;clear d0 tK d1 A_ d2 Ik d3 Ij d4 Ii;replace HW:=aa (HW.out.trans (hb.mono HW.out.size));replace Mi:=aa (Mi.out.below hb);obtain⟨yo,yc,rfl,PX,Rx,-⟩:=hfl.form;have Nl:yc<=9223372036854775807:=Rx;obtain⟨ys,hys⟩:∃ x,x=JR t:=⟨_,rfl⟩;rw[<-hys] at hfl UU PX ⊢;obtain⟨n,hn⟩:∃ x,x=ys.length:=⟨_,rfl⟩;rw[<-hn] at hfl PX ⊢;have HN:=aa hn;have Ok:=aa hfl;clear hfl hys hn Rx;go_wp2_with fail;go_loopw [23] (fun iv wr=>∃ j:Nat,iv=.int .i64 (j:Nat)/\j<=n/\Hid (aA x6.heap.size x6 wr)) (fun iv _=>n - (ei iv).toNat)
 case atStart=>exact⟨0,rfl,au _,aa (ax _ _)⟩
 case round =>
  obtain⟨j,rfl,hj,HB⟩:=hrel;by_cases hlt:j<n
  ·have lN:j<ys.length:=by rw[<-HN.out];exact hlt
   have HFW:=aa (Ok.out.below HB.out);have Ro:=aa (Mi.out.below HB.out);obtain⟨a,bb,qo,ql,qc,ro,rl,rc,rfl,⟨c0,c1,c2,c3,c4⟩,hf⟩:=HFW.out.cells j lN;obtain⟨q1,q2,q3,q4,q5⟩:=UU.out ys[j] (ct lN);have HRY:=aa q1;have UJ:=aa q2;have UE:=aa q3;have HTY:=aa q4;have HMY:=aa q5;clear q1 q2 q3 q4 q5;obtain⟨YQ,PW⟩:∃ x,x=ys[j].op:=⟨_,rfl⟩;obtain⟨yn,Zf⟩:∃ x,x=ys[j].name:=⟨_,rfl⟩;have jy:=aa PW;rw[<-PW] at c0 hf;rw[<-Zf] at c3 hf;have Pf:=aa hf;clear hf PW Zf HFW;obtain⟨Wj,ky,ey,pW,hby,vB,mW⟩:=aM wr #[.int .i64 YQ,.bool bb,.slice qo ql qc,.string yn,.slice ro rl rc] 29;replace HB:=aa (HB.out.trans (hby.out.mono HB.out.size));replace Pf:=aa (Pf.out.below hby.out)
   replace Ro:=aa (Ro.out.below hby.out);obtain⟨⟨g0,g1,g2,g3,g4⟩,ni,nh,oH,oG,oF⟩:=ak mW.out;go_wp2_with fail;refine (By 9 _ ys[j] tS Wj Pf.out).mono ?_;rintro e YT ⟨rfl,hb⟩;clear g0 ni g1 nh g2 oH g3 oG g4 oF;replace mW:=aS hb mW;replace HB:=aa (HB.out.trans (hb.mono HB.out.size));replace Pf:=aa (Pf.out.below hb);replace Ro:=aa (Ro.out.below hb);rw[HRY.out];clear hb;obtain⟨⟨g0,g1,g2,g3,g4⟩,ni,nh,oH,oG,oF⟩:=ak mW.out;go_wp2_with fail;refine (yM _ _ _ _ _ _ _ _ _ _).mono ?_;rintro e YS ⟨rfl,hb⟩;clear g0 ni g1 nh g2 oH g3 oG g4 oF;replace mW:=aS hb mW;replace HB:=aa (HB.out.trans (hb.mono HB.out.size));replace Pf:=aa (Pf.out.below hb);replace Ro:=aa (Ro.out.below hb)
   rw[show eI YQ=1 from by rw[jy.out];exact UJ.out];clear hb;obtain⟨⟨g0,g1,g2,g3,g4⟩,ni,nh,oH,oG,oF⟩:=ak mW.out;go_wp2_with fail;refine (AF 9 _ _ env ys[j] tS YS Pf.out Ro.out HRY.out HMY.out HTY.out xQ.out).mono ?_;rintro e x24 ⟨yv,rfl,Ze,hb⟩;clear g0 ni g1 nh g2 oH g3 oG g4 oF;replace HB:=aa (HB.out.trans (hb.mono HB.out.size));obtain⟨k1,b1,o1,l1,d1,p1,m1,z1,rfl⟩:=Ze.shape;rw[UE.out];simp only[gU];clear Ze hb c0 c1 c2 c3 c4;go_wp2_with fail;go_roundw
   case rel=>exact⟨j+1,by go_num,hlt,HB⟩
   case measure=>simp[ei];omega
  go_wp2_with fail;go_ret;exact⟨rfl,HW.out.trans (HB.out.mono HW.out.size)⟩
theorem zB (x:RU) (ko:Option Addr) (kl kc:Nat) (p:Int) (w:ag) (hx:∀ d,pg w d x) (hv:rz w ko kl kc) (OH : -9223372036854775808<=p) (Hx:p<=9223372036854775807) (ht:AA w) :
  aW aj 4 #[rV x,.slice ko kl kc,.int .i64 p] w fun e w'=>e=.returned (.bool true)/\aA w.heap.size w w':=by
 obtain⟨K,hK,-⟩:=qV p;exact Nu x ko kl kc p K w hx hv ht hK _ (kG K).1 rfl
end Go.Proofs.YtoncclhbdkjhmaaGreatDoor
namespace Go.Proofs.YtoncclhbdkjhmaaGreatDoor
open Go.ChangeShapes Go.WideShapes Go.ChangeAt Go.RowKit
set_option maxRecDepth 100000
theorem own:ownKnob Tryz.prog.godebug=none:=by kernel_rfl
theorem laidOut:laidOutB aj=true:=by kernel_rfl
theorem D7 {w:ag} {a:Addr} {len cap:Nat} {zs:List Int} (hl:len<=cap) (hm:cap<=bI) (hz:len<=zs.length)
  (hcell:∀ i,i<zs.length->w.cell? (a.add i)=some (.int .u32 (zs.getD i 0))) (hwf:∀ n ∈ zs,(Lit.int .u32 n).wf=true) :
  ∃ xs,Sl w .u32 (.slice (some a) len cap) xs/\eV 4294967296 xs:=by
 have hb:∀ n ∈ zs,0<=n/\n<4294967296:=fun n hn=>by
  have:=hwf n hn;simp[Lit.wf,IntKind.min,IntKind.max,IntKind.bits,IntKind.signed] at this;omega
 refine⟨(zs.take len).map Int.toNat,⟨some a,cap,?_,?_,by unfold bI at hm;omega,(fun e=>by cases e),fun i hi=>⟨a,rfl,?_⟩⟩,?_⟩
 ·rw[cT,aX,cX hz]
 ·rw[cT,aX,cX hz];exact hl
 ·rw[cT,aX,cX hz] at hi;have hi':i<zs.length:=by omega
  rw[hcell i hi'];have:=hb zs[i] (ct hi');unfold nth;simp[List.getD,hi,hi'];omega
 intro x hx;obtain⟨n,hn,rfl⟩:=List.mem_map.1 hx;have:=hb n (List.mem_of_mem_take hn);omega
theorem Kg (os:Os) (args:Array aq):laidMet aj Rows.factsHoldRow.laid ((World.laidAll aj os Rows.factsHoldRow.laid).forCall (fun _ _=>0) ⟨#[],args,[]⟩).memory:=
 laidMet_laidAll _ (by kernel_rfl) (by kernel_rfl)
theorem XQ : (Tryz.prog.globalNamed "internal/strconv.uint64pow10").bind (fun g => (Tryz.prog.globals[g]?).map fun x => (Tryz.prog.underlying x.type, Tryz.prog.cellsOf x.type)) = some (some (.array 20 130), 20) := by kernel_rfl
theorem Lm:Tryz.prog.cellsOf 130=1:=by kernel_rfl
theorem MW:(Rows.laid_internal_strconv_uint64pow10:DataW Unit)=Lib.tabData .u64 Lib.pow10Tab:=rfl
theorem table {W : ag} (h : laidMetH aj Rows.factsHoldRow.laid W) : Lib.TabIs aj W "internal/strconv.uint64pow10" .u64 Lib.pow10Tab := by
 have h':laidMet aj Rows.factsHoldRow.laid W:=h;obtain⟨_,⟨_,_,_,_,_,_,_,_,_,_,⟨_,_,_,_,_,_,_,_,_,_,⟨g,t,cs,fuel,p,q,hg,ht,hvar,hd,_,_⟩,_⟩,_⟩,_⟩:=h';have e:=XQ;rw[hg,Option.bind_some] at e;obtain⟨x,hx,ex⟩:=Option.map_eq_some_iff.1 e;rw[hx,Option.map_some] at ht;injection ht with ht;injection ex with e1 e2;rw[ht] at e1 e2;unfold Lib.TabIs;rw[hvar,<-Lib.cells_of_tab e1 Tryz.underlying130 Lm e2 (MW ▸ hd)]
set_option linter.unusedVariables false
theorem Ay {H:Type} {enc:bn × aq->H} {P:Program} {w:ag} {base:Nat} {sp:Nat->Bool} {held:Bool} {fuel:Nat} {t e:bn} {n:Nat} {cs:List aq} {ss:List Bs} {p:List MemPlace}
  (ht:P.underlying t=some (.array n e)) (he:P.underlying e=some .string) (hce:P.cellsOf e=1) (hct:P.cellsOf t=n)
  (h:jY enc P w base sp held fuel t cs=some (.agg (ss.map fun s=>.lit (.string s)),p)):cs=ss.map fun s=>Value.string ⟨s.toArray⟩:=by
 cases fuel with
 | zero=>simp[jY] at h
 | succ fuel =>
  simp only[jY,ht,hce,hct,Nat.mul_one] at h;split at h
  ·rename_i hl;obtain⟨xs,hm,hx⟩:=Option.map_eq_some_iff.1 h;have hxs:xs.map (·.1)=ss.map fun s=>(DataW.lit (.string s):DataW H):=by
    have:=congrArg Prod.fst hx;simpa using this
   have hxl:xs.length=n:=by simpa using Lib.mapM_length hm
   have hzl:ss.length=n:=by
    have:=congrArg List.length hxs;simp at this;omega
   apply List.ext_getElem?;intro i;by_cases hi:i<n
   ·obtain⟨b,hb,hf⟩:=Lib.mapM_at hm i i (by simp[hi]);obtain⟨z,hc,rfl,_⟩:=DataW.trod_string he hf;have h1:cs[i]?=some (.string z):=by
     have:=congrArg (·[0]?) hc;simpa [List.getElem?_take,List.getElem?_drop] using this
    have h2:(xs.map (·.1))[i]?=some (DataW.lit (.string z.data.toList):DataW H):=by simp[hb]
    rw[hxs] at h2;simp only[List.getElem?_map,Option.map_eq_some_iff,DataW.lit.injEq,Lit.string.injEq] at h2;obtain⟨s,hs,hz⟩:=h2;simp[h1,hs,hz]
   rw[List.getElem?_eq_none (by omega),List.getElem?_eq_none (by simp;omega)]
  cases h
theorem XP : (Tryz.prog.globalNamed "litmus/logic.words").bind (fun g => (Tryz.prog.globals[g]?).map fun x => (Tryz.prog.underlying x.type, Tryz.prog.cellsOf x.type)) = some (some (.array 21 9), 21) := by kernel_rfl
theorem WD : Tryz.prog.globalNamed "litmus/logic.words" = some 1 := by kernel_rfl
theorem Lp:Tryz.prog.cellsOf 9=1:=by kernel_rfl
theorem Po:(Rows.laid_litmus_logic_words:DataW Unit)=.agg (rQ.map fun s=>.lit (.string s)):=by rfl
theorem QW:(Rows.laid_unicode_utf8_acceptRanges:DataW Unit)=Lib.acceptData:=by rfl
theorem RY:rQ.length=21:=by rfl
theorem Sc {W:ag} (hL:laidMetH aj Rows.factsHoldRow.laid W):AA W:=by
 refine⟨table hL,fun i hi=>?_,?_,?_⟩
 ·obtain ⟨g, t, cs, fuel, p, hg, hty, hvar, hd⟩ := gX hL (n := "litmus/logic.words") (d := Rows.laid_litmus_logic_words) (.tail _ (.tail _ (.tail _ (.tail _ (.head _)))));have e := XP;rw [hg, Option.bind_some] at e;obtain ⟨x, hx, ex⟩ := Option.map_eq_some_iff.1 e;rw [hx, Option.map_some] at hty;injection hty with hty;injection ex with e1 e2;rw [hty] at e1 e2;have hc := Ay e1 fh Lp e2 (Po ▸ hd);rw [World.var?_cell WD hvar i];have : cs[i]? = cs.toList[i]? := by simp
  rw[this,hc];have hw:=RY;simp[List.getD,hi,hw]
 ·exact printTabs_of_reads (ρ:=Tryz.qJ) { Tryz.ze with } ⟨by kernel_rfl,by kernel_rfl,by kernel_rfl,by kernel_rfl,by kernel_rfl,by kernel_rfl,by kernel_rfl,by kernel_rfl,by kernel_rfl,by kernel_rfl⟩
   (Pinned.isPrint16_eq ▸ gX hL (.tail _ (.tail _ (.tail _ (.tail _ (.tail _ (.tail _ (.tail _ (.tail _ (.head _))))))))))
   (Pinned.isNotPrint16_eq ▸ gX hL (.tail _ (.tail _ (.tail _ (.tail _ (.tail _ (.tail _ (.head _))))))))
   (Pinned.isPrint32_eq ▸ gX hL (.tail _ (.tail _ (.tail _ (.tail _ (.tail _ (.tail _ (.tail _ (.tail _ (.tail _ (.head _)))))))))))
   (Pinned.isNotPrint32_eq ▸ gX hL (.tail _ (.tail _ (.tail _ (.tail _ (.tail _ (.tail _ (.tail _ (.head _)))))))))
 exact utf8Tabs_of_reads (ρ:=Tryz.qJ) { Tryz.ze with } ⟨by kernel_rfl,by kernel_rfl,by kernel_rfl,by kernel_rfl,by kernel_rfl,by kernel_rfl,by kernel_rfl⟩
  (Pinned.utf8First_eq ▸ gX hL (.tail _ (.tail _ (.tail _ (.tail _ (.tail _ (.tail _ (.tail _ (.tail _ (.tail _ (.tail _ (.head _))))))))))))
  (QW ▸ gX hL (.tail _ (.tail _ (.tail _ (.head _)))))
theorem Dr:Tryz.prog.cellsOf 41=5:=by kernel_rfl
theorem EV:Tryz.prog.cellsOf 36=1:=by kernel_rfl
theorem tw:Tryz.prog.cellsOf 26=2:=by kernel_rfl
theorem ET:Tryz.prog.cellsOf 39=1:=by kernel_rfl
theorem zJ:Tryz.prog.cellsOf 4=1:=by kernel_rfl
theorem Iz:Tryz.prog.cellsOf 24=1:=by kernel_rfl
theorem Eg {H:Type} {enc:bn × aq->H} {W:ag} {fuel:Nat} {c:aq} {y:DataW H × List MemPlace}
  (h:jY enc aj W 0 (fun _=>true) true fuel 24 [c]=some y):∃ ao n q,c=.slice ao n q/\ux W (.slice ao n q):=by
 rcases open_ints Tryz.underlying24 Tryz.underlying153 (by kernel_rfl) h with ⟨hcs,_⟩ | ⟨x,l,c',zs,hcs,_,hl,hm,hz,_,hcell,hwz⟩
 ·simp at hcs;subst hcs;exact⟨none,0,0,rfl,[],Sl.nil _ _,fun x hx=>by cases hx⟩
 simp at hcs;subst hcs;obtain⟨xs,hs,hd⟩:=D7 hl hm (by rw[hz];split<;>omega) hcell hwz;exact⟨_,_,_,rfl,xs,hs,hd⟩
theorem oz {z:Int} (h:(Lit.int .i64 z).wf=true) : -9223372036854775808<=z/\z<=9223372036854775807:=by
 simp[Lit.wf,IntKind.min,IntKind.max,IntKind.bits,IntKind.signed] at h
 omega
theorem vR {H:Type} {enc:bn × aq->H} {W:ag} {fuel:Nat} {cs:List aq} {y:DataW H × List MemPlace} (h:jY enc aj W 0 (fun _=>true) true fuel 26 cs=some y) :
  ∃ b o l c,cs=[.bool b,.slice o l c]/\ux W (.slice o l c):=by
 obtain⟨xs,m,-,-,C6,WM,Ad⟩:=DataW.trod_struct Tryz.underlying26 h;rw[tw] at C6;match cs,C6 with
 | [c0,c1],_ =>
  match xs,WM with
  | [u0,u1],_ =>
   have q0:=Ad 0 _ rfl;have q1:=Ad 1 _ rfl;simp[zJ] at q0;simp[Iz] at q1;obtain⟨b,eb,-⟩:=DataW.trod_bool lJ q0;obtain⟨ao,ln,lc,rfl,hs⟩:=Eg q1;simp at eb;subst eb;exact⟨_,_,_,_,rfl,hs⟩
theorem Ej {H:Type} {enc:bn × aq->H} {W:ag} {fuel:Nat} {c:aq} {y:DataW H × List MemPlace}
  (h:jY enc aj W 0 (fun _=>true) true fuel 39 [c]=some y):∃ o n q,c=.slice o n q/\tZ W o n q:=by
 rcases Go.Deep.open_slice Tryz.underlying39 h with ⟨hcs,-⟩ | ⟨a,len,cap,mm,n',D,Pl,hcs,-,hle,hm,RD,-,hi⟩
 ·simp at hcs;subst hcs;exact⟨none,0,0,rfl,⟨ai _,au _⟩,fun i hi=>absurd hi (ay _)⟩
 simp at hcs;subst hcs;refine⟨_,_,_,rfl,⟨hle,hm⟩,fun i Qg=>?_⟩;obtain⟨cs',hc,ht'⟩:=hi i (by simp only[if_true] at RD;omega);rw[tw] at hc;obtain⟨_,dO,BX⟩:=World.cells?_some hc;obtain⟨b,o,l,c,rfl,hr⟩:=vR ht';exact⟨a,b,o,l,c,rfl,(BX 0 (by decide)),(BX 1 (by decide)),hr⟩
theorem Gz {H:Type} {enc:bn × aq->H} {W:ag} {fuel:Nat} {cs:List aq} {y:DataW H × List MemPlace} (h:jY enc aj W 0 (fun _=>true) true fuel 41 cs=some y) :
  ∃ k b o l c d p m q,cs=[.int .i64 k,.bool b,.slice o l c,.bool d,.slice p m q]/\(-9223372036854775808<=k/\k<=9223372036854775807)/\ux W (.slice o l c)/\tZ W p m q:=by
 obtain⟨ys,n,-,-,hlen,WN,hf⟩:=DataW.trod_struct Tryz.underlying41 h;rw[Dr] at hlen;match cs,hlen with
 | [c0,c1,c2,c3,c4],_ =>
  match ys,WN with
  | [y0,y1,y2,y3],_ =>
   have g0:=hf 0 _ rfl;have g1:=hf 1 _ rfl;have g2:=hf 2 _ rfl;have g3:=hf 3 _ rfl;simp[EV] at g0;simp[tw] at g1;simp[zJ] at g2;simp[ET] at g3;obtain⟨k,e0,-,w0⟩:=DataW.trod_int Tryz.underlying36 g0;obtain⟨b,o,l,c,e1,hn⟩:=vR g1;obtain⟨d,e2,-⟩:=DataW.trod_bool lJ g2;obtain⟨p,m,q,e3,hi⟩:=Ej g3;simp at e0 e1 e2;obtain⟨X6,X5⟩:=e1;subst e0 X6 X5 e2 e3;exact⟨_,_,_,_,_,_,_,_,_,rfl,oz w0,hn,hi⟩
theorem G' {H:Type} {enc:bn × aq->H} {W:ag} {base:Nat} {r:Reach} {v:aq} {d:DataW H} {p:List MemPlace}
  (hv:Value.okWide aj W r base 30 v) (h:DataW.Trod enc aj W 0 (fun _=>true) true 30 v d p):∃ ko n kc,v=.slice ko n kc/\rz W ko n kc:=by
 obtain⟨a0,aJc,aK3,rfl⟩:=okWide_slice Tryz.underlying30 hv;obtain⟨fuel,hf⟩:=h;refine⟨_,_,_,rfl,?_⟩;rcases Go.Deep.open_slice Tryz.underlying30 hf with ⟨hcs,-⟩ | ⟨a,len,cap,mm,n',D,Pl,hcs,-,hle,hm,RD,-,hi⟩
 ·simp[Value.cells] at hcs;obtain⟨rfl,rfl,rfl⟩:=hcs;exact⟨⟨ai _,au _⟩,fun i hi=>absurd hi (ay _)⟩
 simp[Value.cells] at hcs;obtain⟨rfl,rfl,rfl⟩:=hcs;refine⟨⟨hle,hm⟩,fun i Qg=>?_⟩;obtain⟨cs',hc,ht'⟩:=hi i (by simp only[if_true] at RD;omega);rw[Dr] at hc;obtain⟨_,dO,BX⟩:=World.cells?_some hc;obtain⟨k,b,o,l,c,d,p,m,q,rfl,h1,h2,h3⟩:=Gz ht';exact⟨a,k,b,o,l,c,d,p,m,q,rfl,⟨BX 0 (by decide),BX 1 (by decide),BX 2 (by decide),BX 3 (by decide),BX 4 (by decide)⟩,h1,h2,h3⟩
theorem Be:Tryz.prog.cellsOf 29=5:=by kernel_rfl
theorem Ln:Tryz.prog.cellsOf 22=1:=by kernel_rfl
theorem Iy:Tryz.prog.cellsOf 9=1:=by kernel_rfl
theorem EU:Tryz.prog.cellsOf 27=1:=by kernel_rfl
theorem sG {H:Type} {enc:bn × aq->H} {W:ag} {fuel:Nat} {cs:List aq} {y:DataW H × List MemPlace} (h:jY enc aj W 0 (fun _=>true) true fuel 29 cs=some y) :
  ∃ x:RU,cs=rC x/\IR x.o/\ux W (.slice x.ao x.l x.c)/\x.nm.size<=9223372036854775807/\(x.kl<=x.kc/\x.kc<=bI) /\
   ∀ i,i<x.kl->∃ cs' n' y',Mk 5 W x.ko i cs'/\jY enc aj W 0 (fun _=>true) true n' 29 cs'=some y':=by
 obtain⟨ys,n,-,-,hlen,WN,hf⟩:=DataW.trod_struct Tryz.underlying29 h;rw[Be] at hlen;match cs,hlen with
 | [c0,c1,c2,c3,c4],_ =>
  match ys,WN with
  | [y0,y1,y2,y3],_ =>
   have g0:=hf 0 _ rfl;have g1:=hf 1 _ rfl;have g2:=hf 2 _ rfl;have g3:=hf 3 _ rfl;simp[Ln] at g0;simp[tw] at g1;simp[Iy] at g2;simp[EU] at g3;obtain⟨k,e0,-,w0⟩:=DataW.trod_int Tryz.underlying22 g0;obtain⟨b,o,l,c,e1,hn⟩:=vR g1;obtain⟨s,e2,-,w2⟩:=DataW.trod_string fh g2;simp at e0 e1 e2;obtain⟨X6,X5⟩:=e1;subst e0 X6 X5 e2;rcases Go.Deep.open_slice Tryz.underlying27 g3 with ⟨hcs,-⟩ | ⟨a,len,cap,mm,n',D,Pl,hcs,-,hle,hm,RD,-,hi⟩
   ·simp at hcs;subst hcs;exact⟨⟨k,b,o,l,c,s,none,0,0⟩,rfl,oz w0,hn,by unfold bI at w2;exact w2,⟨ai _,au _⟩,fun i hi=>absurd hi (ay i)⟩
   simp at hcs;subst hcs;refine⟨⟨k,b,o,l,c,s,some a,len,cap⟩,rfl,oz w0,hn,by unfold bI at w2;exact w2,⟨hle,hm⟩,fun i Qg=>?_⟩;obtain⟨cs',hc,ht'⟩:=hi i (by simp only[if_true] at RD;have:i<len:=Qg;omega);rw[Be] at hc;obtain⟨_,dO,BX⟩:=World.cells?_some hc;refine⟨cs',n',_,⟨a,rfl,fun j v hj=>?_⟩,ht'⟩;have lN:j<5:=by have:=(List.getElem?_eq_some_iff.1 hj).1;omega
   rw[BX j lN];exact hj
theorem PG {x y:RU} (e:rC x=rC y):x=y:=by
 obtain⟨o,b,ao,l,c,nm,ko,kl,kc⟩:=x;obtain⟨o',b',QU,l',c',Sq,AX,kl',A2⟩:=y;simp only[rC,List.cons.injEq,Value.int.injEq,Value.string.injEq,Value.bool.injEq,Value.slice.injEq,true_and,and_true] at e;obtain⟨e1,e2,⟨e3,e4,e5⟩,e6,⟨e7,e8,e9⟩⟩:=e;subst e1 e2 e3 e4 e5 e6 e7 e8 e9
 rfl
theorem AN {H:Type} {enc:bn × aq->H} {W:ag}:∀ (d:Nat) {fuel:Nat} {x:RU} {y:DataW H × List MemPlace},jY enc aj W 0 (fun _=>true) true fuel 29 (rC x)=some y->pg W d x
 | 0,_,_,_,_=>trivial
 | d+1,fuel,x,y,h=>by
  obtain⟨x',e,h1,h2,h3,h4,h5⟩:=sG h;have ex:=PG e;subst ex;refine⟨h1,h2,h3,h4,fun i hi=>?_⟩;obtain⟨cs',n',y',hc,ht⟩:=h5 i hi;obtain⟨u,hu,-⟩:=sG ht;subst hu;exact⟨u,hc,AN d ht⟩
theorem He {H:Type} {enc:bn × aq->H} {W:ag} {base:Nat} {r:Reach} {v:aq} {d:DataW H} {p:List MemPlace}
  (hv:Value.okWide aj W r base 29 v) (h:DataW.Trod enc aj W 0 (fun _=>true) true 29 v d p):∃ x:RU,v=rV x/\∀ d,pg W d x:=by
 obtain⟨cs,rfl,hsz⟩:=okWide_struct Tryz.underlying29 hv;obtain⟨fuel,hf⟩:=h;have hcs:(Value.agg cs).cells.toList=cs.toList:=rfl;rw[hcs] at hf;obtain⟨x,e,-⟩:=sG hf;rw[e] at hf;exact⟨x,by unfold rV;congr 1;apply Array.ext';rw[e];rfl,fun d=>AN d hf⟩
end Go.Proofs.YtoncclhbdkjhmaaGreatDoor
