/-
 Joined texts: ScLi,ScLawChecks,ScDoor.
-/
import Derived.Test.YtpclhpfcbjgokaaGreatDoorCards
import Derived.Test.YtpclhpfcbjgokaaGreatDoorTie
import Derived.ProofKit
import Derived.OpenShut
import Derived.ShutString
import Derived.ChangeOld
import Derived.Deep.DeepHandedRow
import Derived.LaidMore
import Derived.LaidHandle
import Derived.LaidSub
import Derived.Lib.LaidTab
import Derived.Test.YtpclhpfcbjgokaaGreatDoorJScopeChecks2
import Derived.Test.YtpclhpfcbjgokaaGreatDoorJScopeChecks4
import Derived.Test.YtpclhpfcbjgokaaGreatDoorJScopeChecks8
import Derived.Test.YtpclhpfcbjgokaaGreatDoorJScopeChecks9
import Derived.Test.YtpclhpfcbjgokaaGreatDoorJScopeChecks10
set_option maxHeartbeats 32000000
namespace Go.Proofs.YtpclhpfcbjgokaaGreatDoor
open Go.RowKit Go.Maps
set_option maxRecDepth 100000
set_option linter.unusedVariables false
set_option linter.unusedSimpArgs false
theorem kO {w w':World} {v:Value} {k:Nat} {o:Obj} (hg:w.grownBy w' v.ownBlock) (hn:v.ownBlock≠some k) (hb:Hid (w.heap[k]?=some o)):Hid (w'.heap[k]?=some o):=h_ ((hg.block _ (lt_of_block hb.out) (fun e=>hn e.symm)).trans hb.out)
theorem freshO {w:World} {v v':Value} {k:Nat} (hf:Fresh w v v') (hn:v.ownBlock≠some k) (hk:k<w.heap.size):v'.ownBlock≠some k:=fun e=>by
 rcases hf k e with h | h
 ·exact hn h
 omega
section
variable {α:Type} {E:El α}
theorem El.Row.appendF {w:World} {B:Nat} {S:Nat->Prop} {v:Value} {el:List α} (h:E.Row w B S v el) {ops:Array Oper} {rest:List Oper} {o:Oper} {a:Act} {Q:Exit->Act->World->Prop} (hgd:o.guard=none) (s x:Operand) (t:TypeId)
  (ho:o.op=.call { callee:=.builtin .append,args:=#[s,x],argTypes:=#[t,t] }) (ht:Tryz.prog.underlying t=some (.slice E.e)) {z:Value} {bytes:Nat} (hinfo:(Tryz.prog.info? E.e).map (fun i=>(i.zero,i.size,i.bytes))=some (some z,E.n,bytes)) (hzs:z.cells.size=E.n) 
  (hs:a.eval s=v) (u:α) (k:Nat) (T:TypeId) (hx:a.eval x=.slice (some ⟨k,0,none⟩) 1 1) (hc:w.heap[k]?=some (.cells (E.f u).toArray T (0,0))) (hu:E.R w (fun b=>S b/\v.ownBlock≠some b) u) (hb2:(el.length+1)*bytes<=140737488355328) (hlen:el.length<=1000000000000) (hB:B<=w.heap.size)
  (hK:∀ v' w',E.Row w' B S v' (el++[u])->w.grownBy w' v.ownBlock->Fresh w v v'->wpList Tryz.prog ops Q rest (a.put o.dst v') w'):wpList Tryz.prog ops Q (o::rest) a w:=by
 refine wpList_append_elB w hgd s x t ho E.e ht hinfo hzs E.pos B v el.length (el.flatMap E.f) hs h.1 k T (E.f u) (E.len u) (E.one u) hx hc hb2 hlen hB fun v' w' h1 h2 h3=>hK v' w' ⟨?_,?_⟩ h2 h3
 ·rw[lsa,List.flatMap_append];simpa using h1
 have key:∀ q,E.R w (fun b=>S b/\v.ownBlock≠some b) q->E.R w' (fun b=>S b/\v'.ownBlock≠some b) q:=fun q hq =>
  E.mono (S:=fun b=>(S b/\v.ownBlock≠some b)/\b<w.heap.size) (fun b hb=>⟨hb.1.1,fun e=>by rcases h3 b e with h | h;exact hb.1.2 h;omega⟩) (E.keep (fun g hg=>h2.block g hg.2 (fun e=>hg.1.2 e.symm)) (E.lt hq))
 intro q hq;rcases List.mem_append.1 hq with hq | hq
 ·exact key q (h.2 q hq)
 rw[List.mem_singleton] at hq;subst hq;exact key _ hu
end
theorem cut_at {P:Program} {c:Code} {Q:Exit->Act->World->Prop} {a:Act} {w:World} {K1:Act->World->Prop} (R:Act->Act->World->Prop) (h1:∀ a' w',R a a' w'->K1 a' w') (h2:(∀ a' w',R a a' w'->K1 a' w')->c.wp P Q a w):c.wp P Q a w:=h2 h1
theorem dup_hit {α:Type} (l:List α) (g:α->Bool) (c:Flt) (m:Nat) (hm:m<l.length) (h:g l[m]=true):((l.take (m+1)).filter g).map (fun _=>c)=((l.take m).filter g).map (fun _=>c)++[c]:=by
 rw[List.take_succ_eq_append_getElem hm,List.filter_append,List.map_append,List.filter_cons_of_pos h];rfl
theorem dup_miss {α:Type} (l:List α) (g:α->Bool) (c:Flt) (m:Nat) (hm:m<l.length) (h:g l[m]=false):((l.take (m+1)).filter g).map (fun _=>c)=((l.take m).filter g).map (fun _=>c):=by
 rw[List.take_succ_eq_append_getElem hm,List.filter_append,List.map_append,List.filter_cons_of_neg (by rw[h];decide)];simp
theorem fm_take {α:Type} (l:List α) (f:α->List Flt) (m:Nat) (hm:m<l.length):(l.take (m+1)).flatMap f=(l.take m).flatMap f++f l[m]:=by
 rw[List.take_succ_eq_append_getElem hm,List.flatMap_append,List.flatMap_cons,List.flatMap_nil,List.append_nil]
theorem any_take {α:Type} (l:List α) (g:α->Bool) (m:Nat) (hm:m<l.length):(l.take (m+1)).any g=((l.take m).any g || g l[m]):=by
 rw[List.take_succ_eq_append_getElem hm,List.any_append,List.any_cons,List.any_nil,Bool.or_false]
theorem fQual_at (l:List QlU) (j:Nat) (q:QlU) (h:j<l.length) (hq:l[j]=q):fQual l j=((l.take j).filter (·.nm==q.nm)).map (fun _=>(3,q.ln,q.cl))++(List.range q.ps.length).map (twc q.ps)++[tru q.body (lkp q.ps)]:=by
 unfold fQual;rw[List.getElem?_eq_getElem h,hq]
theorem fDup_at (l:List FnU) (j:Nat) (q:FnU) (h:j<l.length) (hq:l[j]=q):fDup l j=((l.take j).filter (·.nm==q.nm)).map (fun _=>(3,q.ln,q.cl)):=by
 unfold fDup;rw[List.getElem?_eq_getElem h,hq]
theorem rowK {w w':World} {B g:Nat} {v:Value} {el:List Flt} (h:fltE.Row w B (fun _=>False) v el) (hg:w.grownBy w' (some g)) (hn:v.ownBlock≠some g):fltE.Row w' B (fun _=>False) v el:=by
 refine⟨World.ownsRow.kept h.1 hg ?_,fun q hq=>trivial⟩
 cases hv:v.ownBlock with
 | none=>exact .inl rfl
 | some j=>exact .inr (fun e=>hn (hv.trans e))
theorem fPar_at (l:List PmU) (j:Nat) (q:PmU) (h:j<l.length) (hq:l[j]=q):fPar l j=twc l j::(if q.kn then [tru q.ref (lkp (l.take j++[vOf q]))] else []):=by
 unfold fPar;rw[List.getElem?_eq_getElem h,hq]
theorem fPar_kn (l:List PmU) (j:Nat) (q:PmU) (h:j<l.length) (hq:l[j]=q) (hk:q.kn=true):fPar l j=[twc l j,tru q.ref (lkp (l.take j++[pmN wV q.b]))]:=by
 rw[fPar_at l j q h hq,if_pos hk];rfl
theorem fPar_no (l:List PmU) (j:Nat) (q:PmU) (h:j<l.length) (hq:l[j]=q) (hk:q.kn=false):fPar l j=[twc l j]:=by
 rw[fPar_at l j q h hq,if_neg (by rw[hk];decide)]
theorem faults_l (w:World) (S:Nat->Prop) (vq vf:Value) (p:PgU) (hp:ProgAt w S vq vf p) (hb:PgB p) (hw:PgDp p) (hn:PgSz p) :
  Calls Tryz.prog 8 #[.agg #[vq,vf]] w fun e w'=>∃ v,e=.returned v/\fltE.At w' (fun _=>True) v (flts p)/\Below w.heap.size w w':=by
 have HPB:=h_ hb;have HWD:=h_ hw;have HCN:=h_ hn;obtain⟨qs,fs,hqs,hfs,hqa,hfa⟩:=hp;obtain⟨qo,qc,hvq,⟨hq1,hq2⟩,-,hqe⟩:=hqa;have hfa0:=hfa;obtain⟨ko,kc,hvf,⟨hf1,hf2⟩,-,hfe⟩:=hfa;have HQS:=h_ hqs;have HFS:=h_ hfs;have HQE:=h_ hqe;have HEL:=h_ hfe;subst hvq;subst hvf;have HFA:=h_ hfa0;have hql:qs.length<=9223372036854775807:=Nat.le_trans hq1 hq2;have hfl:fs.length<=9223372036854775807:=Nat.le_trans hf1 hf2;have HQC:Hid (qs.length<=qc):=h_ hq1;have HFC:Hid (fs.length<=kc):=h_ hf1;clear hqs hfs hqe hfe hfa0 hq1 hq2 hf1 hf2 hb hw hn;have HQN:Hid (qs.length<=100000):=h_ (by have:=HCN.out.2.1;rw[<-HQS.out,List.length_map] at this;exact this);have HFN:Hid (fs.length<=100000):=h_ (by have:=HCN.out.2.2;rw[<-HFS.out,List.length_map] at this;exact this)
 have HPQ:Hid (p.qs.length=qs.length):=h_ (by rw[<-HQS.out,List.length_map]);have HPF:Hid (p.fs.length=fs.length):=h_ (by rw[<-HFS.out,List.length_map]);have HBW:=h_ (Below.refl w.heap.size w);go_enter Tryz.func8,Tryz.ntmps8
 go_upto_region 1 with fail
 obtain⟨w1,ke,hw,hkk,hb,hs1,HBe⟩:=newb w #[.slice qo qs.length qc,.slice ko fs.length kc] 26;rw[hw,<-hkk];replace HBW:=bw_ HBW hb;have hke:w.heap.size<=ke:=by rw[hkk];exact Nat.le_refl _
 clear hw hb hkk hs1;have HRO:Hid (fltE.Row w1 (ke+1) (fun _=>False) (.slice none 0 0) []):=h_ (El.Row.nil _ _ _);obtain⟨c0,c1⟩:=cl2 HBe.out;go_wp2_with fail
 clear c0 c1;have HL:Hid (([]:List Flt)=(List.range 0).flatMap (fQual p.qs)):=h_ rfl;have HLN:Hid (([]:List Flt).length<=200001*0):=h_ (Nat.zero_le _)
 go_loopw [23,3] (fun i ov wr=>∃ (j:Nat) (L:List Flt),i=.int .i64 (j:Nat)/\j<=qs.length/\Hid (L=(List.range j).flatMap (fQual p.qs))/\Hid (L.length<=200001*j)/\Hid (fltE.Row wr (ke+1) (fun _=>False) ov L)/\Hid (wr.heap[ke]?=some (.cells #[.slice qo qs.length qc,.slice ko fs.length kc] 26 (0,0)))/\Hid (Below w.heap.size w wr)) (fun i _ _=>qs.length - (intOf i).toNat)
 case atStart=>exact⟨0,[],rfl,Nat.zero_le _,HL,HLN,HRO,HBe,HBW⟩
 case round =>
  obtain⟨wl,hwl⟩:∃ q,q=wr:=⟨_,rfl⟩
  subst hwl;clear HRO HBe HBW HL HLN;obtain⟨j,L,rfl,hj,HL,HLN,HRO,HBe,HBW⟩:=hrel
  by_cases hi:j<qs.length
  ·have hpm:(qs[j]).q ∈ p.qs:=by rw[<-HQS.out];exact List.mem_map_of_mem (List.getElem_mem hi)
   have hjp:j<p.qs.length:=by rw[HPQ.out];exact hi
   have hqe:p.qs[j]=(qs[j]).q:=by simp only[<-HQS.out,List.getElem_map]
   obtain⟨hAt,hRj⟩:=HQE.out j hi;obtain⟨⟨q,v,px⟩,hqd⟩:∃ z,z=qs[j]:=⟨_,rfl⟩
   rw[<-hqd] at hAt hRj;obtain⟨hone,hux,hpm2⟩:=hRj;have hone2:v.oneCell'=true:=hone;have e12:qlE.f ⟨q,v,px⟩=qlC q v px:=if_pos hone2;have hAt2:AtN 12 w qo j (qlC q v px):=by rw[<-e12];exact hAt
   obtain⟨rs,hrs,po,pc,hvv,⟨hp1,hp2⟩,-,hpe⟩:=id hpm2;subst hvv;have HRS:=h_ hrs;have HPE:=h_ hpe;have hrl:rs.length<=9223372036854775807:=Nat.le_trans hp1 hp2;clear hrs hpe hp1 hp2;obtain⟨B,hB⟩:∃ z,z=qlC q (.slice po rs.length pc) px:=⟨_,rfl⟩
   rw[<-hB] at hAt2;obtain⟨qa,rfl,hc⟩:=hAt2;have hcb:∀ i u,B[i]?=some u->wl.cell? ((qa.add (j*12)).add i)=some u:=fun i u hu=>by have:=hc i u hu;rw[HBW.out.cell (cell_lt this)];exact this
   have HCB:=h_ hcb;have HB1:Hid (B.length=12):=h_ (by rw[hB];rfl);have HB2:Hid (∀ u ∈ B,u.oneCell'=true):=h_ (by rw[hB];exact qlC_one hone2);have HBD:=h_ hB;have HQD:=h_ hqd;have HUX:=h_ (show Um w S px q.body from hux);have HPM:=h_ (show PmsAt w S (.slice po rs.length pc) q.ps from hpm2);clear hAt hux hpm2 hone hone2 e12 hc hcb hB hqd;rw[<-HQD.out] at hpm hqe;have HPP:=h_ (show q ∈ p.qs from hpm);have HQJ:=h_ (show p.qs[j]=q from hqe);clear hpm hqe;have HRL:Hid (q.ps.length=rs.length):=h_ (by rw[<-HRS.out,List.length_map]);have HRN1:Hid (rs.length<=100000):=h_ (by have:=HCN.out.1.1 q HPP.out;rw[HRL.out] at this;exact this);go_upto_region 4 with fail
   refine wp_region_lit ?_
   iterate 2 (refine wpList_plain rfl fun K0 hK0=>?_;go_simp;refine hK0 _ _ ?_;clear hK0)
   refine wpList_plain rfl fun K0 hK0=>?_
   refine wp_load_row 78 (.tmp 26) rfl _ rfl B _ HCB.out Tryz.underlying78 rfl (by rw[HB1.out];kernel_rfl) ?_;refine hK0 _ _ ?_;clear hK0
   iterate 2 (refine wpList_plain rfl fun K0 hK0=>?_;go_simp;refine hK0 _ _ ?_;clear hK0)
   refine wpList_plain rfl fun K0 hK0=>?_
   refine wp_store_row 78 (.tmp 5) (.tmp 27) rfl wl.heap.size B.toArray rfl rfl 78 _ (heap_alloc_last wl _) (by rw[List.size_toArray,HB1.out];kernel_rfl) (by rw[show B.toArray.size=12 from by rw[List.size_toArray];exact HB1.out];rfl) (by rw[List.all_toArray];exact List.all_eq_true.2 HB2.out) ?_;rw[World.setRow_alloc_new];refine hK0 _ _ ?_;clear hK0;go_upto_region 5 with fail
   have HRO0:=HRO;obtain⟨w3,kq,hw,hkk,hb,hs1,HBq⟩:=newb wl B.toArray 78;have he_q:=lk_ hkk HBe;rw[hw,<-hkk];replace HBe:=kB hb HBe;replace HBW:=bw_ HBW hb;replace HRO:=h_ (HRO.out.below hb);have HOq:Hid (u3.ownBlock≠some kq):=h_ (fun e=>by have:=(HRO0.out.ge e).2;omega);clear hw hb hkk hs1 HRO0;have HBq2:Hid (w3.heap[kq]?=some (.cells #[.string ⟨q.nm.toArray⟩,.slice po rs.length pc,.int .i64 px.k,.string px.nm,.string px.ot,.bool px.b,.slice px.ao px.n px.c,.slice px.ko px.kn px.kc,.int .i64 px.ln,.int .i64 px.cl,.int .i64 (q.ln:Nat),.int .i64 (q.cl:Nat)] 78 (0,0))):=h_ (by have h:=HBq.out;rw[HBD.out] at h;exact h);clear HBq;have HBq:=HBq2;clear HBq2;obtain⟨c0,c1⟩:=cl2 HBe.out;have hjc:j<=qc:=Nat.le_trans hj HQC.out;go_wp2_with fail
   clear c0 c1;clear hjc;have HL2:Hid (L=L++((p.qs.take 0).filter (fun x=>x.nm==q.nm)).map (fun _=>((3,q.ln,q.cl):Flt))):=h_ (by rw[List.take_zero];simp);have HLN2:Hid (L.length<=200001*j+0):=HLN
   go_loopw [33,3] (fun i2 ov wr=>∃ (m:Nat) (L2:List Flt),i2=.int .i64 (m:Nat)/\m<=j/\Hid (L2=L++((p.qs.take m).filter (fun x=>x.nm==q.nm)).map (fun _=>((3,q.ln,q.cl):Flt)))/\Hid (L2.length<=200001*j+m)/\Hid (fltE.Row wr (ke+1) (fun _=>False) ov L2)/\Hid (ov.ownBlock≠some kq)/\Hid (wr.heap[ke]?=some (.cells #[.slice (some qa) qs.length qc,.slice ko fs.length kc] 26 (0,0)))/\Hid (wr.heap[kq]?=some (.cells #[.string ⟨q.nm.toArray⟩,.slice po rs.length pc,.int .i64 px.k,.string px.nm,.string px.ot,.bool px.b,.slice px.ao px.n px.c,.slice px.ko px.kn px.kc,.int .i64 px.ln,.int .i64 px.cl,.int .i64 (q.ln:Nat),.int .i64 (q.cl:Nat)] 78 (0,0)))/\Hid (Below w.heap.size w wr)) (fun i2 _ _=>j - (intOf i2).toNat)
   case atStart=>exact⟨0,L,rfl,Nat.zero_le _,HL2,HLN2,HRO,HOq,HBe,HBq,HBW⟩
   case round =>
    obtain⟨wl,hwl⟩:∃ q,q=wr:=⟨_,rfl⟩
    subst hwl;clear HRO HOq HBe HBq HBW HL2 HLN2;obtain⟨m,L2,rfl,hm,HL2,HLN2,HRO,HOq,HBe,HBq,HBW⟩:=hrel;have HLN0:=HLN;clear HLN;have HLN:=HLN2;clear HLN2
    by_cases hmj:m<j
    ·have hmq:m<qs.length:=by omega
     have hmp:m<p.qs.length:=by rw[HPQ.out];exact hmq
     have hqe:p.qs[m]=(qs[m]).q:=by simp only[<-HQS.out,List.getElem_map]
     obtain⟨hAt,hRj⟩:=HQE.out m hmq;obtain⟨⟨q2,v2,px2⟩,hqd⟩:∃ z,z=qs[m]:=⟨_,rfl⟩
     rw[<-hqd] at hAt hRj;obtain⟨hone,hux,hpm2⟩:=hRj;have hone2:v2.oneCell'=true:=hone;have e12:qlE.f ⟨q2,v2,px2⟩=qlC q2 v2 px2:=if_pos hone2;have hAt2:AtN 12 w (some qa) m (qlC q2 v2 px2):=by rw[<-e12];exact hAt
     obtain⟨B3,hB⟩:∃ z,z=qlC q2 v2 px2:=⟨_,rfl⟩
     rw[<-hB] at hAt2;obtain⟨qa2,hqa2,hc⟩:=hAt2;injection hqa2 with hqa2;subst hqa2;have hcb:∀ i u,B3[i]?=some u->wl.cell? ((qa.add (m*12)).add i)=some u:=fun i u hu=>by have:=hc i u hu;rw[HBW.out.cell (cell_lt this)];exact this
     have HCB3:=h_ hcb;have HB13:Hid (B3.length=12):=h_ (by rw[hB];rfl);have HB23:Hid (∀ u ∈ B3,u.oneCell'=true):=h_ (by rw[hB];exact qlC_one hone2);have HBD3:=h_ hB;have HQD3:=h_ hqd;clear hAt hux hpm2 hone hone2 e12 hc hcb hB hqd;rw[<-HQD3.out] at hqe;have HQM:=h_ (show p.qs[m]=q2 from hqe);clear hqe;go_upto_region 7 with fail
     refine wp_region_lit ?_;refine wpList_plain rfl fun K0 hK0=>?_
     go_simp
     refine hK0 _ _ ?_;clear hK0;refine wpList_plain rfl fun K0 hK0=>?_
     refine wp_load_row 78 (.tmp 35) rfl _ rfl B3 _ HCB3.out Tryz.underlying78 rfl (by rw[HB13.out];kernel_rfl) ?_;refine hK0 _ _ ?_;clear hK0;refine wpList_plain rfl fun K0 hK0=>?_
     go_simp
     refine hK0 _ _ ?_;clear hK0;refine wpList_plain rfl fun K0 hK0=>?_
     refine wp_store_row 78 (.tmp 7) (.tmp 36) rfl wl.heap.size B3.toArray rfl rfl 78 _ (heap_alloc_last wl _) (by rw[List.size_toArray,HB13.out];kernel_rfl) (by rw[show B3.toArray.size=12 from by rw[List.size_toArray];exact HB13.out];rfl) (by rw[List.all_toArray];exact List.all_eq_true.2 HB23.out) ?_;rw[World.setRow_alloc_new];refine hK0 _ _ ?_;clear hK0;go_upto_region 8 with fail
     have HRO0:=HRO;obtain⟨w5,koo,hw,hkk,hb,hs1,HBoo⟩:=newb wl B3.toArray 78;have he_oo:=lk_ hkk HBe;have hq_oo:=lk_ hkk HBq;rw[hw,<-hkk];replace HBe:=kB hb HBe;replace HBq:=kB hb HBq;replace HBW:=bw_ HBW hb;replace HRO:=h_ (HRO.out.below hb);have HOoo:Hid (u3.ownBlock≠some koo):=h_ (fun e=>by have:=(HRO0.out.ge e).2;omega);clear hw hb hkk hs1 HRO0;have hb0:B3.toArray[0]?=some (.string ⟨q2.nm.toArray⟩):=by rw[HBD3.out];rfl
     have o0:=cell_at (v:=.string ⟨q2.nm.toArray⟩) HBoo.out 0 hb0;clear hb0
     by_cases hnm:q2.nm=q.nm
     ·have hmb:(q2.nm==q.nm)=true:=by rw[hnm];exact beq_self_eq_true _
      have HNM:=h_ hmb;clear hnm;obtain⟨c0,c1,c2,c3,c4,c5,c6,c7,c8,c9,c10,c11⟩:=cl12 HBq.out;go_upto_region 9 with fail
      clear c0 c1 c2 c3 c4 c5 c6 c7 c8 c9 c10 c11 o0 hmb;clear HBoo HOoo;obtain⟨c0,c1,c2,c3,c4,c5,c6,c7,c8,c9,c10,c11⟩:=cl12 HBq.out;obtain⟨w6,kn9,hw,hkk,hb,hs1,HBn⟩:=newb w5 #[.int .i64 3,.int .i64 (q.ln:Nat),.int .i64 (q.cl:Nat)] 36;have hkk2:=hkk.symm;have HBB:=h_ hb;clear hb hs1 hkk;have hr6:=HRO.out.below HBB.out;have HR6:=h_ hr6;have HB6:Hid (ke+1<=w6.heap.size):=h_ (by have:=HBB.out.size;have:=lt_of_block HBe.out;omega);clear hr6
      go_upto_region 10 with (first | (at_builtin;refine El.Row.appendF (E:=fltE) HR6.out rfl (.tmp 42) (.tmp 48) 32 rfl Tryz.underlying32 infoFlt rfl rfl (3,q.ln,q.cl) kn9 36 rfl HBn.out trivial (by have:=HLN.out;have:=HQN.out;have:=HFN.out;(try have:=HRN1.out);(try simp only[lsa,List.length_singleton]);omega) (by have:=HLN.out;have:=HQN.out;have:=HFN.out;(try have:=HRN1.out);(try simp only[lsa,List.length_singleton]);omega) HB6.out ?_;intro ov7 w7 hrow hgw hfr;have HRN:=h_ hrow;have HGW:=h_ hgw;have HFR:=h_ hfr;clear hrow hgw hfr) | fail)
      clear c0 c1 c2 c3 c4 c5 c6 c7 c8 c9 c10 c11;clear hw hkk2;replace HBe:=kB HBB.out HBe;replace HBq:=kB HBB.out HBq;replace HBW:=h_ (HBW.out.trans (HBB.out.mono HBW.out.size));replace HRO:=h_ (HRO.out.below HBB.out);replace HBe:=HR6.out.kR HGW.out (by omega) HBe;have hoq:=freshO HFR.out HOq.out (lt_of_block HBq.out);replace HBq:=kO HGW.out HOq.out HBq;clear HOq;have HOq:=h_ hoq;clear hoq;replace HBW:=h_ (⟨HGW.out.os.trans HBW.out.os,HGW.out.tape.trans HBW.out.tape,HGW.out.output.trans HBW.out.output,Nat.le_trans HBW.out.size HGW.out.size,fun g hg=>(HGW.out.block g (by have:=HBW.out.size;omega) (fun e=>by have:=(HR6.out.ge e.symm).1;omega)).trans (HBW.out.block g hg)⟩:Below w.heap.size w w7);clear HRO HR6 HB6 HBB HBn HGW HFR;have HRO:=HRN;clear HRN
      have HLX:Hid (L2++[((3,q.ln,q.cl):Flt)]=L++((p.qs.take (m+1)).filter (fun x=>x.nm==q.nm)).map (fun _=>((3,q.ln,q.cl):Flt))):=h_ (by rw[dup_hit _ _ _ m hmp (by rw[HQM.out];exact HNM.out),HL2.out,List.append_assoc]);have HLY:Hid ((L2++[((3,q.ln,q.cl):Flt)]).length<=200001*j+(m+1)):=h_ (by rw[lsa,List.length_singleton];have:=HLN.out;omega);go_wp2_with fail
      go_roundw
      case rel=>exact⟨m+1,_,by go_num,hmj,HLX,HLY,HRO,HOq,HBe,HBq,HBW⟩
      case measure=>simp[intOf];omega
     have hmb:(q2.nm==q.nm)=false:=beq_eq_false_iff_ne.2 hnm;have HNM:=h_ hmb;clear hnm;obtain⟨c0,c1,c2,c3,c4,c5,c6,c7,c8,c9,c10,c11⟩:=cl12 HBq.out;have HLX:Hid (L2=L++((p.qs.take (m+1)).filter (fun x=>x.nm==q.nm)).map (fun _=>((3,q.ln,q.cl):Flt))):=h_ (by rw[dup_miss _ _ _ m hmp (by rw[HQM.out];exact HNM.out),HL2.out]);have HLY:Hid (L2.length<=200001*j+(m+1)):=h_ (by have:=HLN.out;omega);go_wp2_with fail
     go_roundw
     case rel=>exact⟨m+1,_,by go_num,hmj,HLX,HLY,HRO,HOq,HBe,HBq,HBW⟩
     case measure=>simp[intOf];omega
    have hmm:m=j:=by omega
    subst hmm;clear hmj hm;obtain⟨c0,c1,c2,c3,c4,c5,c6,c7,c8,c9,c10,c11⟩:=cl12 HBq.out;go_wp2_with fail
    clear c0 c1 c2 c3 c4 c5 c6 c7 c8 c9 c10 c11;have HL3:Hid (L2=L2++(List.range 0).map (twc q.ps)):=h_ (by simp);have HLN3:Hid (L2.length<=200001*m+m+0):=HLN
    go_loopw [54,3] (fun i3 ov wr=>∃ (n:Nat) (L3:List Flt),i3=.int .i64 (n:Nat)/\n<=rs.length/\Hid (L3=L2++(List.range n).map (twc q.ps))/\Hid (L3.length<=200001*m+m+n)/\Hid (fltE.Row wr (ke+1) (fun _=>False) ov L3)/\Hid (ov.ownBlock≠some kq)/\Hid (wr.heap[ke]?=some (.cells #[.slice (some qa) qs.length qc,.slice ko fs.length kc] 26 (0,0)))/\Hid (wr.heap[kq]?=some (.cells #[.string ⟨q.nm.toArray⟩,.slice po rs.length pc,.int .i64 px.k,.string px.nm,.string px.ot,.bool px.b,.slice px.ao px.n px.c,.slice px.ko px.kn px.kc,.int .i64 px.ln,.int .i64 px.cl,.int .i64 (q.ln:Nat),.int .i64 (q.cl:Nat)] 78 (0,0)))/\Hid (Below w.heap.size w wr)) (fun i3 _ _=>rs.length - (intOf i3).toNat)
    case atStart=>exact⟨0,L2,rfl,Nat.zero_le _,HL3,HLN3,HRO,HOq,HBe,HBq,HBW⟩
    case round =>
     obtain⟨wl,hwl⟩:∃ q,q=wr:=⟨_,rfl⟩
     subst hwl;clear HRO HOq HBe HBq HBW HL3 HLN3;obtain⟨n,L3,rfl,hn,HL3,HLN3,HRO,HOq,HBe,HBq,HBW⟩:=hrel;clear HLN;have HLN:=HLN3;clear HLN3
     by_cases hnr:n<rs.length
     ·have c0:=cell_at (v:=.string ⟨q.nm.toArray⟩) HBq.out 0 rfl;have c1:=cell_at (v:=.slice po rs.length pc) HBq.out 1 rfl;have c2:=cell_at (v:=.int .i64 px.k) HBq.out 2 rfl;have c3:=cell_at (v:=.string px.nm) HBq.out 3 rfl;have c4:=cell_at (v:=.string px.ot) HBq.out 4 rfl;have c5:=cell_at (v:=.bool px.b) HBq.out 5 rfl;have c6:=cell_at (v:=.slice px.ao px.n px.c) HBq.out 6 rfl;have c7:=cell_at (v:=.slice px.ko px.kn px.kc) HBq.out 7 rfl;have c8:=cell_at (v:=.int .i64 px.ln) HBq.out 8 rfl;have c9:=cell_at (v:=.int .i64 px.cl) HBq.out 9 rfl;have c10:=cell_at (v:=.int .i64 (q.ln:Nat)) HBq.out 10 rfl;have c11:=cell_at (v:=.int .i64 (q.cl:Nat)) HBq.out 11 rfl;go_wp2_with fail
      refine (twice_l wl S _ q.ps n (HPM.out.below HBW.out) (by rw[HRL.out];exact hnr)).mono ?_;rintro e w6 ⟨rfl,hb⟩;clear c0 c1 c2 c3 c4 c5 c6 c7 c8 c9 c10 c11;replace HBe:=kB hb HBe;replace HBq:=kB hb HBq;replace HBW:=bw_ HBW hb;replace HRO:=h_ (HRO.out.below hb);clear hb;obtain⟨t0,ht0⟩:∃ z,z=twc q.ps n:=⟨_,rfl⟩
      rw[<-ht0];have HT0:=h_ ht0;clear ht0;obtain⟨t00,t01,t02⟩:=t0;simp only[fltV];obtain⟨w7,kn9,hw,hkk,hb,hs1,HBn⟩:=newb w6 #[.int .i64 (t00:Nat),.int .i64 (t01:Nat),.int .i64 (t02:Nat)] 36;have hkk2:=hkk.symm;have HBB:=h_ hb;clear hb hs1 hkk;have hr6:=HRO.out.below HBB.out;have HR6:=h_ hr6;have HB6:Hid (ke+1<=w7.heap.size):=h_ (by have:=HBB.out.size;have:=lt_of_block HBe.out;omega);clear hr6
      go_upto_region 15 with (first | (at_builtin;refine El.Row.appendF (E:=fltE) HR6.out rfl (.tmp 57) (.tmp 62) 32 rfl Tryz.underlying32 infoFlt rfl rfl (t00,t01,t02) kn9 36 rfl HBn.out trivial (by have:=HLN.out;have:=HQN.out;have:=HFN.out;(try have:=HRN1.out);(try simp only[lsa,List.length_singleton]);omega) (by have:=HLN.out;have:=HQN.out;have:=HFN.out;(try have:=HRN1.out);(try simp only[lsa,List.length_singleton]);omega) HB6.out ?_;intro ov8 w8 hrow hgw hfr;have HRN:=h_ hrow;have HGW:=h_ hgw;have HFR:=h_ hfr;clear hrow hgw hfr) | fail)
      clear hw hkk2;replace HBe:=kB HBB.out HBe;replace HBq:=kB HBB.out HBq;replace HBW:=h_ (HBW.out.trans (HBB.out.mono HBW.out.size));replace HRO:=h_ (HRO.out.below HBB.out);replace HBe:=HR6.out.kR HGW.out (by omega) HBe;have hoq:=freshO HFR.out HOq.out (lt_of_block HBq.out);replace HBq:=kO HGW.out HOq.out HBq;clear HOq;have HOq:=h_ hoq;clear hoq;replace HBW:=h_ (⟨HGW.out.os.trans HBW.out.os,HGW.out.tape.trans HBW.out.tape,HGW.out.output.trans HBW.out.output,Nat.le_trans HBW.out.size HGW.out.size,fun g hg=>(HGW.out.block g (by have:=HBW.out.size;omega) (fun e=>by have:=(HR6.out.ge e.symm).1;omega)).trans (HBW.out.block g hg)⟩:Below w.heap.size w w8);clear HRO HR6 HB6 HBB HBn HGW HFR;have HRO:=HRN;clear HRN
      have HLX:Hid (L3++[((t00,t01,t02):Flt)]=L2++(List.range (n+1)).map (twc q.ps)):=h_ (by rw[range_mp,HT0.out,HL3.out,List.append_assoc]);have HLY:Hid ((L3++[((t00,t01,t02):Flt)]).length<=200001*m+m+(n+1)):=h_ (by rw[lsa,List.length_singleton];have:=HLN.out;omega);go_wp2_with fail
      go_roundw
      case rel=>exact⟨n+1,_,by go_num,hnr,HLX,HLY,HRO,HOq,HBe,HBq,HBW⟩
      case measure=>simp[intOf];omega
     have hnn:n=rs.length:=by omega
     subst hnn;clear hnr hn;obtain⟨c0,c1,c2,c3,c4,c5,c6,c7,c8,c9,c10,c11⟩:=cl12 HBq.out;have HPM2:=h_ (HPM.out.below HBW.out);go_wp2_with fail
     refine (truth_l w wl S S px q.body _ q.ps HUX.out (HPB.out.1 q HPP.out).2.2.1 (HWD.out.1 q HPP.out).1 HBW.out HPM2.out (by have:=(HWD.out.1 q HPP.out).2;have:=HCN.out.1.1 q HPP.out;omega)).mono ?_;rintro e w6 ⟨rfl,hb⟩;clear c0 c1 c2 c3 c4 c5 c6 c7 c8 c9 c10 c11;replace HBe:=kB hb HBe;replace HBq:=kB hb HBq;replace HBW:=bw_ HBW hb;replace HRO:=h_ (HRO.out.below hb);clear hb;obtain⟨t0,ht0⟩:∃ z,z=tru q.body (lkp q.ps):=⟨_,rfl⟩
     rw[<-ht0];have HT0:=h_ ht0;clear ht0;obtain⟨t00,t01,t02⟩:=t0;simp only[fltV];obtain⟨w7,kn9,hw,hkk,hb,hs1,HBn⟩:=newb w6 #[.int .i64 (t00:Nat),.int .i64 (t01:Nat),.int .i64 (t02:Nat)] 36;have hkk2:=hkk.symm;have HBB:=h_ hb;clear hb hs1 hkk;have hr6:=HRO.out.below HBB.out;have HR6:=h_ hr6;have HB6:Hid (ke+1<=w7.heap.size):=h_ (by have:=HBB.out.size;have:=lt_of_block HBe.out;omega);clear hr6
     go_upto_region 17 with (first | (at_builtin;refine El.Row.appendF (E:=fltE) HR6.out rfl (.tmp 65) (.tmp 71) 32 rfl Tryz.underlying32 infoFlt rfl rfl (t00,t01,t02) kn9 36 rfl HBn.out trivial (by have:=HLN.out;have:=HQN.out;have:=HFN.out;(try have:=HRN1.out);(try simp only[lsa,List.length_singleton]);omega) (by have:=HLN.out;have:=HQN.out;have:=HFN.out;(try have:=HRN1.out);(try simp only[lsa,List.length_singleton]);omega) HB6.out ?_;intro ov8 w8 hrow hgw hfr;have HRN:=h_ hrow;have HGW:=h_ hgw;have HFR:=h_ hfr;clear hrow hgw hfr) | fail)
     clear hw hkk2;replace HBe:=kB HBB.out HBe;replace HBq:=kB HBB.out HBq;replace HBW:=h_ (HBW.out.trans (HBB.out.mono HBW.out.size));replace HRO:=h_ (HRO.out.below HBB.out);replace HBe:=HR6.out.kR HGW.out (by omega) HBe;have hoq:=freshO HFR.out HOq.out (lt_of_block HBq.out);replace HBq:=kO HGW.out HOq.out HBq;clear HOq;have HOq:=h_ hoq;clear hoq;replace HBW:=h_ (⟨HGW.out.os.trans HBW.out.os,HGW.out.tape.trans HBW.out.tape,HGW.out.output.trans HBW.out.output,Nat.le_trans HBW.out.size HGW.out.size,fun g hg=>(HGW.out.block g (by have:=HBW.out.size;omega) (fun e=>by have:=(HR6.out.ge e.symm).1;omega)).trans (HBW.out.block g hg)⟩:Below w.heap.size w w8);clear HRO HR6 HB6 HBB HBn HGW HFR;have HRO:=HRN;clear HRN
     have HLX:Hid (L3++[((t00,t01,t02):Flt)]=(List.range (m+1)).flatMap (fQual p.qs)):=h_ (by rw[range_fm,fQual_at _ _ q hjp HQJ.out,HT0.out,HL3.out,HL2.out,HL.out,HRL.out];simp only[List.append_assoc]);have HLY:Hid ((L3++[((t00,t01,t02):Flt)]).length<=200001*(m+1)):=h_ (by rw[lsa,List.length_singleton];have:=HLN.out;have:=HRN1.out;have:=HQN.out;omega);go_wp2_with fail
     go_roundw
     case rel=>exact⟨m+1,_,by go_num,hi,HLX,HLY,HRO,HBe,HBW⟩
     case measure=>simp[intOf];omega
  have hjj:j=qs.length:=by omega
  subst hjj;clear hi hj;obtain⟨c0,c1⟩:=cl2 HBe.out;go_wp2_with fail
  clear c0 c1;have HL2:Hid (L=L++(List.range 0).flatMap (fDup p.fs)):=h_ (by simp);have HLN2:Hid (L.length<=200001*qs.length+100000*0):=HLN
  go_loopw [77,9,3] (fun i mv ov wr=>∃ (j:Nat) (L2:List Flt),i=.int .i64 (j:Nat)/\j<=fs.length/\mv=.bool ((p.fs.take j).any (fun x=>x.nm==wMain))/\Hid (L2=L++(List.range j).flatMap (fDup p.fs))/\Hid (L2.length<=200001*qs.length+100000*j)/\Hid (fltE.Row wr (ke+1) (fun _=>False) ov L2)/\Hid (wr.heap[ke]?=some (.cells #[.slice qo qs.length qc,.slice ko fs.length kc] 26 (0,0)))/\Hid (Below w.heap.size w wr)) (fun i _ _ _=>fs.length - (intOf i).toNat)
  case atStart=>exact⟨0,L,rfl,Nat.zero_le _,rfl,HL2,HLN2,HRO,HBe,HBW⟩
  case round =>
   obtain⟨wl,hwl⟩:∃ q,q=wr:=⟨_,rfl⟩
   subst hwl;clear HRO HBe HBW HL2 HLN2;obtain⟨j,L2,rfl,hj,rfl,HL2,HLN2,HRO,HBe,HBW⟩:=hrel;have HLN0:=HLN;clear HLN;have HLN:=HLN2;clear HLN2;obtain⟨mb,hmb⟩:∃ z,z=(p.fs.take j).any (fun x=>x.nm==wMain):=⟨_,rfl⟩
   rw[<-hmb];have HMB:=h_ hmb;clear hmb
   by_cases hi:j<fs.length
   ·have hpm:(fs[j]).q ∈ p.fs:=by rw[<-HFS.out];exact List.mem_map_of_mem (List.getElem_mem hi)
    have hjp:j<p.fs.length:=by rw[HPF.out];exact hi
    have hqe:p.fs[j]=(fs[j]).q:=by simp only[<-HFS.out,List.getElem_map]
    obtain⟨hAt,hRj⟩:=HEL.out j hi;obtain⟨⟨q,v,px,py⟩,hqd⟩:∃ z,z=fs[j]:=⟨_,rfl⟩
    rw[<-hqd] at hAt hRj;obtain⟨hone,hux,huy,hpm2⟩:=hRj;have hone2:v.oneCell'=true:=hone;have e25:fnE.f ⟨q,v,px,py⟩=fnC q v px py:=if_pos hone2;have hAt2:AtN 25 w ko j (fnC q v px py):=by rw[<-e25];exact hAt
    obtain⟨B,hB⟩:∃ z,z=fnC q v px py:=⟨_,rfl⟩
    rw[<-hB] at hAt2;obtain⟨fa,rfl,hc⟩:=hAt2;have hcb:∀ i u,B[i]?=some u->wl.cell? ((fa.add (j*25)).add i)=some u:=fun i u hu=>by have:=hc i u hu;rw[HBW.out.cell (cell_lt this)];exact this
    have HCB:=h_ hcb;have HB1:Hid (B.length=25):=h_ (by rw[hB];rfl);have HB2:Hid (∀ u ∈ B,u.oneCell'=true):=h_ (by rw[hB];exact fnC_one hone2);have HBD:=h_ hB;have HQD:=h_ hqd;clear hAt hux huy hpm2 hone hone2 e25 hc hcb hB hqd;rw[<-HQD.out] at hpm hqe;have HPP:=h_ (show q ∈ p.fs from hpm);have HQJ:=h_ (show p.fs[j]=q from hqe);clear hpm hqe;go_upto_region 21 with fail
    refine wp_region_lit ?_
    iterate 2 (refine wpList_plain rfl fun K0 hK0=>?_;go_simp;refine hK0 _ _ ?_;clear hK0)
    refine wpList_plain rfl fun K0 hK0=>?_
    refine wp_load_row 59 (.tmp 80) rfl _ rfl B _ HCB.out Tryz.underlying59 rfl (by rw[HB1.out];kernel_rfl) ?_;refine hK0 _ _ ?_;clear hK0
    iterate 2 (refine wpList_plain rfl fun K0 hK0=>?_;go_simp;refine hK0 _ _ ?_;clear hK0)
    refine wpList_plain rfl fun K0 hK0=>?_
    refine wp_store_row 59 (.tmp 11) (.tmp 81) rfl wl.heap.size B.toArray rfl rfl 59 _ (heap_alloc_last wl _) (by rw[List.size_toArray,HB1.out];kernel_rfl) (by rw[show B.toArray.size=25 from by rw[List.size_toArray];exact HB1.out];rfl) (by rw[List.all_toArray];exact List.all_eq_true.2 HB2.out) ?_;rw[World.setRow_alloc_new];refine hK0 _ _ ?_;clear hK0;go_upto_region 22 with fail
    have HRO0:=HRO;obtain⟨w4,kf,hw,hkk,hb,hs1,HBf⟩:=newb wl B.toArray 59;have he_f:=lk_ hkk HBe;rw[hw,<-hkk];replace HBe:=kB hb HBe;replace HBW:=bw_ HBW hb;replace HRO:=h_ (HRO.out.below hb);have HOf:Hid (u3.ownBlock≠some kf):=h_ (fun e=>by have:=(HRO0.out.ge e).2;omega);clear hw hb hkk hs1 HRO0
    have HBf2:Hid (w4.heap[kf]?=some (.cells #[.string ⟨q.nm.toArray⟩,v,.string ⟨q.res.nm.toArray⟩,.int .i64 (q.res.b:Nat),.bool q.res.kn,.int .i64 px.k,.string px.nm,.string px.ot,.bool px.b,.slice px.ao px.n px.c,.slice px.ko px.kn px.kc,.int .i64 px.ln,.int .i64 px.cl,.int .i64 (q.res.ln:Nat),.int .i64 (q.res.cl:Nat),.int .i64 py.k,.string py.nm,.string py.ot,.bool py.b,.slice py.ao py.n py.c,.slice py.ko py.kn py.kc,.int .i64 py.ln,.int .i64 py.cl,.int .i64 (q.ln:Nat),.int .i64 (q.cl:Nat)] 59 (0,0))):=h_ (by have h:=HBf.out;rw[HBD.out] at h;exact h);clear HBf;have HBf:=HBf2;clear HBf2;have hor:mb=true\/(mb=false/\(q.nm==wMain)=true)\/(mb=false/\(q.nm==wMain)=false):=by cases mb<;>cases (q.nm==wMain)<;>simp
    rcases hor with h1 | ⟨h1,h2⟩ | ⟨h1,h2⟩
    focus
     subst h1;have HMX:Hid ((p.fs.take (j+1)).any (fun x=>x.nm==wMain)=true):=h_ (by rw[any_take _ _ j hjp,<-HMB.out,HQJ.out];exact Bool.true_or _);have c0:=cell_at (v:=.string ⟨q.nm.toArray⟩) HBf.out 0 rfl;go_upto_region 23 with fail
     clear c0
    rotate_left
    focus
     subst h1;have HMX:Hid ((p.fs.take (j+1)).any (fun x=>x.nm==wMain)=true):=h_ (by rw[any_take _ _ j hjp,<-HMB.out,HQJ.out];rw[h2];rfl);unfold wMain at h2;have c0:=cell_at (v:=.string ⟨q.nm.toArray⟩) HBf.out 0 rfl;go_upto_region 23 with fail
     clear c0;clear h2
    rotate_left
    focus
     subst h1;have HMX:Hid ((p.fs.take (j+1)).any (fun x=>x.nm==wMain)=false):=h_ (by rw[any_take _ _ j hjp,<-HMB.out,HQJ.out];rw[h2];rfl);unfold wMain at h2;have c0:=cell_at (v:=.string ⟨q.nm.toArray⟩) HBf.out 0 rfl;go_upto_region 23 with fail
     clear c0;clear h2
    rotate_left
    all_goals (
     obtain⟨c0,c1⟩:=cl2 HBe.out;have hjc:j<=kc:=Nat.le_trans hj HFC.out;go_wp2_with fail
     clear c0 c1;clear hjc;have HL3:Hid (L2=L2++((p.fs.take 0).filter (fun x=>x.nm==q.nm)).map (fun _=>((3,q.ln,q.cl):Flt))):=h_ (by rw[List.take_zero];simp);have HLN3:Hid (L2.length<=200001*qs.length+100000*j+0):=HLN
     go_loopw [93,3] (fun i2 ov wr=>∃ (m:Nat) (L3:List Flt),i2=.int .i64 (m:Nat)/\m<=j/\Hid (L3=L2++((p.fs.take m).filter (fun x=>x.nm==q.nm)).map (fun _=>((3,q.ln,q.cl):Flt)))/\Hid (L3.length<=200001*qs.length+100000*j+m)/\Hid (fltE.Row wr (ke+1) (fun _=>False) ov L3)/\Hid (ov.ownBlock≠some kf)/\Hid (wr.heap[ke]?=some (.cells #[.slice qo qs.length qc,.slice (some fa) fs.length kc] 26 (0,0)))/\Hid (wr.heap[kf]?=some (.cells #[.string ⟨q.nm.toArray⟩,v,.string ⟨q.res.nm.toArray⟩,.int .i64 (q.res.b:Nat),.bool q.res.kn,.int .i64 px.k,.string px.nm,.string px.ot,.bool px.b,.slice px.ao px.n px.c,.slice px.ko px.kn px.kc,.int .i64 px.ln,.int .i64 px.cl,.int .i64 (q.res.ln:Nat),.int .i64 (q.res.cl:Nat),.int .i64 py.k,.string py.nm,.string py.ot,.bool py.b,.slice py.ao py.n py.c,.slice py.ko py.kn py.kc,.int .i64 py.ln,.int .i64 py.cl,.int .i64 (q.ln:Nat),.int .i64 (q.cl:Nat)] 59 (0,0)))/\Hid (Below w.heap.size w wr)) (fun i2 _ _=>j - (intOf i2).toNat)
     case atStart=>exact⟨0,L2,rfl,Nat.zero_le _,HL3,HLN3,HRO,HOf,HBe,HBf,HBW⟩
     case round =>
      obtain⟨wl,hwl⟩:∃ q,q=wr:=⟨_,rfl⟩
      subst hwl;clear HRO HOf HBe HBf HBW HL3 HLN3;obtain⟨m,L3,rfl,hm,HL3,HLN3,HRO,HOf,HBe,HBf,HBW⟩:=hrel;clear HLN;have HLN:=HLN3;clear HLN3
      by_cases hmj:m<j
      ·have hmq:m<fs.length:=by omega
       have hmp:m<p.fs.length:=by rw[HPF.out];exact hmq
       have hqe:p.fs[m]=(fs[m]).q:=by simp only[<-HFS.out,List.getElem_map]
       obtain⟨hAt,hRj⟩:=HEL.out m hmq;obtain⟨⟨q2,v2,px2,py2⟩,hqd⟩:∃ z,z=fs[m]:=⟨_,rfl⟩
       rw[<-hqd] at hAt hRj;obtain⟨hone,hux,huy,hpm2⟩:=hRj;have hone2:v2.oneCell'=true:=hone;have e25:fnE.f ⟨q2,v2,px2,py2⟩=fnC q2 v2 px2 py2:=if_pos hone2;have hAt2:AtN 25 w (some fa) m (fnC q2 v2 px2 py2):=by rw[<-e25];exact hAt
       obtain⟨B3,hB⟩:∃ z,z=fnC q2 v2 px2 py2:=⟨_,rfl⟩
       rw[<-hB] at hAt2;obtain⟨qa2,hqa2,hc⟩:=hAt2;injection hqa2 with hqa2;subst hqa2;have hcb:∀ i u,B3[i]?=some u->wl.cell? ((fa.add (m*25)).add i)=some u:=fun i u hu=>by have:=hc i u hu;rw[HBW.out.cell (cell_lt this)];exact this
       have HCB3:=h_ hcb;have HB13:Hid (B3.length=25):=h_ (by rw[hB];rfl);have HB23:Hid (∀ u ∈ B3,u.oneCell'=true):=h_ (by rw[hB];exact fnC_one hone2);have HBD3:=h_ hB;have HQD3:=h_ hqd;clear hAt hux huy hpm2 hone hone2 e25 hc hcb hB hqd;rw[<-HQD3.out] at hqe;have HQM:=h_ (show p.fs[m]=q2 from hqe);clear hqe;go_upto_region 25 with fail
       refine wp_region_lit ?_;refine wpList_plain rfl fun K0 hK0=>?_
       go_simp
       refine hK0 _ _ ?_;clear hK0;refine wpList_plain rfl fun K0 hK0=>?_
       refine wp_load_row 59 (.tmp 95) rfl _ rfl B3 _ HCB3.out Tryz.underlying59 rfl (by rw[HB13.out];kernel_rfl) ?_;refine hK0 _ _ ?_;clear hK0;refine wpList_plain rfl fun K0 hK0=>?_
       go_simp
       refine hK0 _ _ ?_;clear hK0;refine wpList_plain rfl fun K0 hK0=>?_
       refine wp_store_row 59 (.tmp 13) (.tmp 96) rfl wl.heap.size B3.toArray rfl rfl 59 _ (heap_alloc_last wl _) (by rw[List.size_toArray,HB13.out];kernel_rfl) (by rw[show B3.toArray.size=25 from by rw[List.size_toArray];exact HB13.out];rfl) (by rw[List.all_toArray];exact List.all_eq_true.2 HB23.out) ?_;rw[World.setRow_alloc_new];refine hK0 _ _ ?_;clear hK0;go_upto_region 26 with fail
       have HRO0:=HRO;obtain⟨w6,koo,hw,hkk,hb,hs1,HBoo⟩:=newb wl B3.toArray 59;have he_oo:=lk_ hkk HBe;have hf_oo:=lk_ hkk HBf;rw[hw,<-hkk];replace HBe:=kB hb HBe;replace HBf:=kB hb HBf;replace HBW:=bw_ HBW hb;replace HRO:=h_ (HRO.out.below hb);have HOoo:Hid (u3.ownBlock≠some koo):=h_ (fun e=>by have:=(HRO0.out.ge e).2;omega);clear hw hb hkk hs1 HRO0;have hb0:B3.toArray[0]?=some (.string ⟨q2.nm.toArray⟩):=by rw[HBD3.out];rfl
       have o0:=cell_at (v:=.string ⟨q2.nm.toArray⟩) HBoo.out 0 hb0;clear hb0
       by_cases hnm:q2.nm=q.nm
       ·have hmb:(q2.nm==q.nm)=true:=by rw[hnm];exact beq_self_eq_true _
        have HNM:=h_ hmb;clear hnm;have c0:=cell_at (v:=.string ⟨q.nm.toArray⟩) HBf.out 0 rfl;go_upto_region 27 with fail
        clear c0 o0 hmb;clear HBoo HOoo;have c23:=cell_at (v:=.int .i64 (q.ln:Nat)) HBf.out 23 rfl;have c24:=cell_at (v:=.int .i64 (q.cl:Nat)) HBf.out 24 rfl;obtain⟨w7,kn9,hw,hkk,hb,hs1,HBn⟩:=newb w6 #[.int .i64 3,.int .i64 (q.ln:Nat),.int .i64 (q.cl:Nat)] 36;have hkk2:=hkk.symm;have HBB:=h_ hb;clear hb hs1 hkk;have hr6:=HRO.out.below HBB.out;have HR6:=h_ hr6;have HB6:Hid (ke+1<=w7.heap.size):=h_ (by have:=HBB.out.size;have:=lt_of_block HBe.out;omega);clear hr6
        go_upto_region 28 with (first | (at_builtin;refine El.Row.appendF (E:=fltE) HR6.out rfl (.tmp 102) (.tmp 108) 32 rfl Tryz.underlying32 infoFlt rfl rfl (3,q.ln,q.cl) kn9 36 rfl HBn.out trivial (by have:=HLN.out;have:=HQN.out;have:=HFN.out;(try have:=HRN1.out);(try simp only[lsa,List.length_singleton]);omega) (by have:=HLN.out;have:=HQN.out;have:=HFN.out;(try have:=HRN1.out);(try simp only[lsa,List.length_singleton]);omega) HB6.out ?_;intro ov8 w8 hrow hgw hfr;have HRN:=h_ hrow;have HGW:=h_ hgw;have HFR:=h_ hfr;clear hrow hgw hfr) | fail)
        clear c23 c24;clear hw hkk2;replace HBe:=kB HBB.out HBe;replace HBf:=kB HBB.out HBf;replace HBW:=h_ (HBW.out.trans (HBB.out.mono HBW.out.size));replace HRO:=h_ (HRO.out.below HBB.out);replace HBe:=HR6.out.kR HGW.out (by omega) HBe;have hoq:=freshO HFR.out HOf.out (lt_of_block HBf.out);replace HBf:=kO HGW.out HOf.out HBf;clear HOf;have HOf:=h_ hoq;clear hoq;replace HBW:=h_ (⟨HGW.out.os.trans HBW.out.os,HGW.out.tape.trans HBW.out.tape,HGW.out.output.trans HBW.out.output,Nat.le_trans HBW.out.size HGW.out.size,fun g hg=>(HGW.out.block g (by have:=HBW.out.size;omega) (fun e=>by have:=(HR6.out.ge e.symm).1;omega)).trans (HBW.out.block g hg)⟩:Below w.heap.size w w8);clear HRO HR6 HB6 HBB HBn HGW HFR;have HRO:=HRN;clear HRN
        have HLX:Hid (L3++[((3,q.ln,q.cl):Flt)]=L2++((p.fs.take (m+1)).filter (fun x=>x.nm==q.nm)).map (fun _=>((3,q.ln,q.cl):Flt))):=h_ (by rw[dup_hit _ _ _ m hmp (by rw[HQM.out];exact HNM.out),HL3.out,List.append_assoc]);have HLY:Hid ((L3++[((3,q.ln,q.cl):Flt)]).length<=200001*qs.length+100000*j+(m+1)):=h_ (by rw[lsa,List.length_singleton];have:=HLN.out;omega);go_wp2_with fail
        go_roundw
        case rel=>exact⟨m+1,_,by go_num,hmj,HLX,HLY,HRO,HOf,HBe,HBf,HBW⟩
        case measure=>simp[intOf];omega
       have hmb:(q2.nm==q.nm)=false:=beq_eq_false_iff_ne.2 hnm;have HNM:=h_ hmb;clear hnm;have c0:=cell_at (v:=.string ⟨q.nm.toArray⟩) HBf.out 0 rfl;have HLX:Hid (L3=L2++((p.fs.take (m+1)).filter (fun x=>x.nm==q.nm)).map (fun _=>((3,q.ln,q.cl):Flt))):=h_ (by rw[dup_miss _ _ _ m hmp (by rw[HQM.out];exact HNM.out),HL3.out]);have HLY:Hid (L3.length<=200001*qs.length+100000*j+(m+1)):=h_ (by have:=HLN.out;omega);go_wp2_with fail
       go_roundw
       case rel=>exact⟨m+1,_,by go_num,hmj,HLX,HLY,HRO,HOf,HBe,HBf,HBW⟩
       case measure=>simp[intOf];omega
      have hmm:m=j:=by omega
      subst hmm;clear hmj hm;have HLX:Hid (L3=L++(List.range (m+1)).flatMap (fDup p.fs)):=h_ (by rw[range_fm,fDup_at _ _ q hjp HQJ.out,HL3.out,HL2.out,List.append_assoc]);have HLY:Hid (L3.length<=200001*qs.length+100000*(m+1)):=h_ (by have:=HLN.out;have:=HFN.out;omega);go_wp2_with fail
      go_roundw
      case rel=>exact⟨m+1,_,by go_num,hi,by rw[HMX.out],HLX,HLY,HRO,HBe,HBW⟩
      case measure=>simp[intOf];omega
    )
   have hjj:j=fs.length:=by omega
   subst hjj;clear hi hj;have hmn:mb=hasMain p:=by rw[HMB.out,<-HPF.out,List.take_length];rfl
   have HMN:=h_ hmn;clear hmn HMB;go_upto_region 30 with fail
   rename_i K1 hK1 K0 hK0
   refine cut_at (K1:=K1) (fun a a' w'=>∃ (s112 s113 s114 s115 s116 s117 ov5:Value) (L5:List Flt),a'=⟨(((((((a.tmps.setIfInBounds 112 s112).setIfInBounds 113 s113).setIfInBounds 114 s114).setIfInBounds 115 s115).setIfInBounds 116 s116).setIfInBounds 117 s117).setIfInBounds 3 ov5),a.defers⟩/\Hid (L5=L++(List.range fs.length).flatMap (fDup p.fs)++(if hasMain p then [] else [((5,1,1):Flt)]))/\Hid (L5.length<=200001*qs.length+100000*fs.length+1)/\Hid (fltE.Row w' (ke+1) (fun _=>False) ov5 L5)/\Hid (w'.heap[ke]?=some (.cells #[.slice qo qs.length qc,.slice ko fs.length kc] 26 (0,0)))/\Hid (Below w.heap.size w w')) ?_ ?_
   ·clear HRO HBe HBW HLN hK0;rintro a2 w5 ⟨s112,s113,s114,s115,s116,s117,ov5,L5,rfl,HL5,HLN,HRO,HBe,HBW⟩;simp only[List.setIfInBounds_toArray,List.set_cons_succ,List.set_cons_zero];refine hK1 _ _ ?_;clear hK1;obtain⟨c0,c1⟩:=cl2 HBe.out;go_wp2_with fail
    clear c0 c1;have HL6:Hid (L5=L5++(p.fs.take 0).flatMap (fFun (fndF p.fs))):=h_ (by rw[List.take_zero];simp);have HLN6:Hid (L5.length<=200001*qs.length+100000*fs.length+1+200002*0):=HLN
    go_loopw [121,3] (fun i ov wr=>∃ (j:Nat) (L6:List Flt),i=.int .i64 (j:Nat)/\j<=fs.length/\Hid (L6=L5++(p.fs.take j).flatMap (fFun (fndF p.fs)))/\Hid (L6.length<=200001*qs.length+100000*fs.length+1+200002*j)/\Hid (fltE.Row wr (ke+1) (fun _=>False) ov L6)/\Hid (wr.heap[ke]?=some (.cells #[.slice qo qs.length qc,.slice ko fs.length kc] 26 (0,0)))/\Hid (Below w.heap.size w wr)) (fun i _ _=>fs.length - (intOf i).toNat)
    case atStart=>exact⟨0,L5,rfl,Nat.zero_le _,HL6,HLN6,HRO,HBe,HBW⟩
    case round =>
     obtain⟨wl,hwl⟩:∃ q,q=wr:=⟨_,rfl⟩
     subst hwl;clear HRO HBe HBW HL6 HLN6;obtain⟨j,L6,rfl,hj,HL6,HLN6,HRO,HBe,HBW⟩:=hrel;clear HLN;have HLN:=HLN6;clear HLN6
     by_cases hi:j<fs.length
     ·have hpm:(fs[j]).q ∈ p.fs:=by rw[<-HFS.out];exact List.mem_map_of_mem (List.getElem_mem hi)
      have hjp:j<p.fs.length:=by rw[HPF.out];exact hi
      have hqe:p.fs[j]=(fs[j]).q:=by simp only[<-HFS.out,List.getElem_map]
      obtain⟨hAt,hRj⟩:=HEL.out j hi;obtain⟨⟨q,v,px,py⟩,hqd⟩:∃ z,z=fs[j]:=⟨_,rfl⟩
      rw[<-hqd] at hAt hRj;obtain⟨hone,hux,huy,hpm2⟩:=hRj;have hone2:v.oneCell'=true:=hone;have e25:fnE.f ⟨q,v,px,py⟩=fnC q v px py:=if_pos hone2;have hAt2:AtN 25 w ko j (fnC q v px py):=by rw[<-e25];exact hAt
      obtain⟨rs,hrs,po,pc,hvv,⟨hp1,hp2⟩,-,hpe⟩:=id hpm2;subst hvv;have HRS:=h_ hrs;have HPE:=h_ hpe;have hrl:rs.length<=9223372036854775807:=Nat.le_trans hp1 hp2;have HPC:=h_ hp1;clear hrs hpe hp1 hp2;obtain⟨B,hB⟩:∃ z,z=fnC q (.slice po rs.length pc) px py:=⟨_,rfl⟩
      rw[<-hB] at hAt2;obtain⟨fa,rfl,hc⟩:=hAt2;have hcb:∀ i u,B[i]?=some u->wl.cell? ((fa.add (j*25)).add i)=some u:=fun i u hu=>by have:=hc i u hu;rw[HBW.out.cell (cell_lt this)];exact this
      have HCB:=h_ hcb;have HB1:Hid (B.length=25):=h_ (by rw[hB];rfl);have HB2:Hid (∀ u ∈ B,u.oneCell'=true):=h_ (by rw[hB];exact fnC_one hone2);have HBD:=h_ hB;have HQD:=h_ hqd;have HUX:=h_ (show Um w S px q.res.ref from hux);have HUY:=h_ (show Um w S py q.body from huy);have HPM:=h_ (show PmsAt w S (.slice po rs.length pc) q.ps from hpm2);clear hAt hux huy hpm2 hone hone2 e25 hc hcb hB hqd;rw[<-HQD.out] at hpm hqe;have HPP:=h_ (show q ∈ p.fs from hpm);have HQJ:=h_ (show p.fs[j]=q from hqe);clear hpm hqe;have HRL:Hid (q.ps.length=rs.length):=h_ (by rw[<-HRS.out,List.length_map]);have HRN1:Hid (rs.length<=100000):=h_ (by have:=HCN.out.1.2 q HPP.out;rw[HRL.out] at this;exact this);go_upto_region 34 with fail
      refine wp_region_lit ?_;refine wpList_plain rfl fun K0 hK0=>?_
      go_simp
      refine hK0 _ _ ?_;clear hK0;refine wpList_plain rfl fun K0 hK0=>?_
      refine wp_load_row 59 (.tmp 123) rfl _ rfl B _ HCB.out Tryz.underlying59 rfl (by rw[HB1.out];kernel_rfl) ?_;refine hK0 _ _ ?_;clear hK0;refine wpList_plain rfl fun K0 hK0=>?_
      go_simp
      refine hK0 _ _ ?_;clear hK0;refine wpList_plain rfl fun K0 hK0=>?_
      refine wp_store_row 59 (.tmp 15) (.tmp 124) rfl wl.heap.size B.toArray rfl rfl 59 _ (heap_alloc_last wl _) (by rw[List.size_toArray,HB1.out];kernel_rfl) (by rw[show B.toArray.size=25 from by rw[List.size_toArray];exact HB1.out];rfl) (by rw[List.all_toArray];exact List.all_eq_true.2 HB2.out) ?_;rw[World.setRow_alloc_new];refine hK0 _ _ ?_;clear hK0;go_upto_region 35 with fail
      have HRO0:=HRO;obtain⟨w5,kf,hw,hkk,hb,hs1,HBf⟩:=newb wl B.toArray 59;have he_f:=lk_ hkk HBe;rw[hw,<-hkk];replace HBe:=kB hb HBe;replace HBW:=bw_ HBW hb;replace HRO:=h_ (HRO.out.below hb);have HOf:Hid (u3.ownBlock≠some kf):=h_ (fun e=>by have:=(HRO0.out.ge e).2;omega);clear hw hb hkk hs1 HRO0;obtain⟨hyl,hyc⟩:=um_lc HUY.out
      have HBf2:Hid (w5.heap[kf]?=some (.cells #[.string ⟨q.nm.toArray⟩,.slice po rs.length pc,.string ⟨q.res.nm.toArray⟩,.int .i64 (q.res.b:Nat),.bool q.res.kn,.int .i64 px.k,.string px.nm,.string px.ot,.bool px.b,.slice px.ao px.n px.c,.slice px.ko px.kn px.kc,.int .i64 px.ln,.int .i64 px.cl,.int .i64 (q.res.ln:Nat),.int .i64 (q.res.cl:Nat),.int .i64 py.k,.string py.nm,.string py.ot,.bool py.b,.slice py.ao py.n py.c,.slice py.ko py.kn py.kc,.int .i64 py.ln,.int .i64 py.cl,.int .i64 (q.ln:Nat),.int .i64 (q.cl:Nat)] 59 (0,0))):=h_ (by have h:=HBf.out;rw[HBD.out] at h;exact h);clear HBf;have HBf:=HBf2;clear HBf2;have HYL:=h_ hyl;have HYC:=h_ hyc;clear hyl hyc;have c1:=cell_at (v:=.slice po rs.length pc) HBf.out 1 rfl;go_wp2_with fail
      clear c1;have HL7:Hid (L6=L6++(List.range 0).flatMap (fPar q.ps)):=h_ (by simp);have HLN7:Hid (L6.length<=200001*qs.length+100000*fs.length+1+200002*j+2*0):=HLN
      go_loopw [128,3] (fun i2 ov wr=>∃ (n:Nat) (L7:List Flt),i2=.int .i64 (n:Nat)/\n<=rs.length/\Hid (L7=L6++(List.range n).flatMap (fPar q.ps))/\Hid (L7.length<=200001*qs.length+100000*fs.length+1+200002*j+2*n)/\Hid (fltE.Row wr (ke+1) (fun _=>False) ov L7)/\Hid (ov.ownBlock≠some kf)/\Hid (wr.heap[ke]?=some (.cells #[.slice qo qs.length qc,.slice (some fa) fs.length kc] 26 (0,0)))/\Hid (wr.heap[kf]?=some (.cells #[.string ⟨q.nm.toArray⟩,.slice po rs.length pc,.string ⟨q.res.nm.toArray⟩,.int .i64 (q.res.b:Nat),.bool q.res.kn,.int .i64 px.k,.string px.nm,.string px.ot,.bool px.b,.slice px.ao px.n px.c,.slice px.ko px.kn px.kc,.int .i64 px.ln,.int .i64 px.cl,.int .i64 (q.res.ln:Nat),.int .i64 (q.res.cl:Nat),.int .i64 py.k,.string py.nm,.string py.ot,.bool py.b,.slice py.ao py.n py.c,.slice py.ko py.kn py.kc,.int .i64 py.ln,.int .i64 py.cl,.int .i64 (q.ln:Nat),.int .i64 (q.cl:Nat)] 59 (0,0)))/\Hid (Below w.heap.size w wr)) (fun i2 _ _=>rs.length - (intOf i2).toNat)
      case atStart=>exact⟨0,L6,rfl,Nat.zero_le _,HL7,HLN7,HRO,HOf,HBe,HBf,HBW⟩
      case round =>
       obtain⟨wl,hwl⟩:∃ q,q=wr:=⟨_,rfl⟩
       subst hwl;clear HRO HOf HBe HBf HBW HL7 HLN7;obtain⟨n,L7,rfl,hn,HL7,HLN7,HRO,HOf,HBe,HBf,HBW⟩:=hrel;clear HLN;have HLN:=HLN7;clear HLN7
       by_cases hnr:n<rs.length
       ·obtain⟨⟨pa,rfl,hcp⟩,hum⟩:=HPE.out n hnr;obtain⟨z0,z1,z2,z3,z4,z5,z6,z7,z8,z9,z10,z11,z12⟩:=cells13 (w:=wl) (p:=pa.add (n*13)) (q:=rs[n].1) (x:=rs[n].2) (fun q v hv=>by have:=hcp q v hv;rw[show (pa.add (n*13)).add q=(pa.add (n*pmE.n)).add q from rfl,HBW.out.cell (cell_lt this)];exact this);have hnq:n<q.ps.length:=by rw[HRL.out];exact hnr
        have hpe:q.ps[n]=(rs[n]).1:=by simp only[<-HRS.out,List.getElem_map]
        have hpmm:(rs[n]).1 ∈ q.ps:=by rw[<-hpe];exact List.getElem_mem hnq
        obtain⟨pp,hpp⟩:∃ q,q=rs[n]:=⟨_,rfl⟩
        rw[<-hpp] at z0 z1 z2 z3 z4 z5 z6 z7 z8 z9 z10 z11 z12 hum hpe hpmm;have HPX:=h_ hpe;have HPY:=h_ hpmm;have HUM:=h_ (show Um w S pp.2 pp.1.ref from hum);clear hpp hcp hum hpe hpmm;have c1:=cell_at (v:=.slice (some pa) rs.length pc) HBf.out 1 rfl;go_upto_region 38 with fail
        have HRO0:=HRO;clear c1 z0 z1 z2 z3 z4 z5 z6 z7 z8 z9 z10 z11 z12;obtain⟨w7,km,hw,hkk,hb,hs1,HBm⟩:=newb wl #[.string ⟨pp.1.nm.toArray⟩,.int .i64 (pp.1.b:Nat),.bool pp.1.kn,.int .i64 pp.2.k,.string pp.2.nm,.string pp.2.ot,.bool pp.2.b,.slice pp.2.ao pp.2.n pp.2.c,.slice pp.2.ko pp.2.kn pp.2.kc,.int .i64 pp.2.ln,.int .i64 pp.2.cl,.int .i64 (pp.1.ln:Nat),.int .i64 (pp.1.cl:Nat)] 57;have he_m:=lk_ hkk HBe;have hf_m:=lk_ hkk HBf;rw[hw,<-hkk];replace HBe:=kB hb HBe;replace HBf:=kB hb HBf;replace HBW:=bw_ HBW hb;replace HRO:=h_ (HRO.out.below hb);have HOm:Hid (u3.ownBlock≠some km):=h_ (fun e=>by have:=(HRO0.out.ge e).2;omega);clear hw hb hkk hs1 HRO0;have c1:=cell_at (v:=.slice (some pa) rs.length pc) HBf.out 1 rfl;go_wp2_with fail
        refine (twice_l w7 S _ q.ps n (HPM.out.below HBW.out) hnq).mono ?_;rintro e w8 ⟨rfl,hb⟩;clear c1;replace HBe:=kB hb HBe;replace HBf:=kB hb HBf;replace HBm:=kB hb HBm;replace HBW:=bw_ HBW hb;replace HRO:=h_ (HRO.out.below hb);clear hb;obtain⟨t0,ht0⟩:∃ z,z=twc q.ps n:=⟨_,rfl⟩
        rw[<-ht0];have HT0:=h_ ht0;clear ht0;obtain⟨t00,t01,t02⟩:=t0;simp only[fltV];obtain⟨w9,kn9,hw,hkk,hb,hs1,HBn⟩:=newb w8 #[.int .i64 (t00:Nat),.int .i64 (t01:Nat),.int .i64 (t02:Nat)] 36;have hkk2:=hkk.symm;have HBB:=h_ hb;clear hb hs1 hkk;have hr6:=HRO.out.below HBB.out;have HR6:=h_ hr6;have HB6:Hid (ke+1<=w9.heap.size):=h_ (by have:=HBB.out.size;have:=lt_of_block HBe.out;omega);clear hr6
        go_upto_region 39 with (first | (at_builtin;refine El.Row.appendF (E:=fltE) HR6.out rfl (.tmp 133) (.tmp 138) 32 rfl Tryz.underlying32 infoFlt rfl rfl (t00,t01,t02) kn9 36 rfl HBn.out trivial (by have:=HLN.out;have:=HQN.out;have:=HFN.out;(try have:=HRN1.out);(try simp only[lsa,List.length_singleton]);omega) (by have:=HLN.out;have:=HQN.out;have:=HFN.out;(try have:=HRN1.out);(try simp only[lsa,List.length_singleton]);omega) HB6.out ?_;intro ov10 w10 hrow hgw hfr;have HRN:=h_ hrow;have HGW:=h_ hgw;have HFR:=h_ hfr;clear hrow hgw hfr) | fail)
        clear hw hkk2;replace HBe:=kB HBB.out HBe;replace HBf:=kB HBB.out HBf;replace HBm:=kB HBB.out HBm;replace HBW:=h_ (HBW.out.trans (HBB.out.mono HBW.out.size));replace HRO:=h_ (HRO.out.below HBB.out);replace HBe:=HR6.out.kR HGW.out (by omega) HBe;have hoq:=freshO HFR.out HOf.out (lt_of_block HBf.out);replace HBf:=kO HGW.out HOf.out HBf;clear HOf;have HOf:=h_ hoq;clear hoq;have hoq:=freshO HFR.out HOm.out (lt_of_block HBm.out);replace HBm:=kO HGW.out HOm.out HBm;clear HOm;have HOm:=h_ hoq;clear hoq;replace HBW:=h_ (⟨HGW.out.os.trans HBW.out.os,HGW.out.tape.trans HBW.out.tape,HGW.out.output.trans HBW.out.output,Nat.le_trans HBW.out.size HGW.out.size,fun g hg=>(HGW.out.block g (by have:=HBW.out.size;omega) (fun e=>by have:=(HR6.out.ge e.symm).1;omega)).trans (HBW.out.block g hg)⟩:Below w.heap.size w w10)
        clear HRO HR6 HB6 HBB HBn HGW HFR;have HRO:=HRN;clear HRN;obtain⟨kn,hkn⟩:∃ z,z=pp.1.kn:=⟨_,rfl⟩
        rw[<-hkn] at HBm;have HKN:=h_ hkn;clear hkn;have hor:kn=true\/kn=false:=by cases kn<;>simp
        rcases hor with h1 | h1
        ·subst h1;have m2:=cell_at (v:=.bool true) HBm.out 2 rfl;go_upto_region 40 with fail
         clear m2;have HT9:=HT0;clear HT0;obtain⟨s00,hs00⟩:∃ z,z=t00:=⟨_,rfl⟩
         obtain⟨s01,hs01⟩:∃ z,z=t01:=⟨_,rfl⟩
         obtain⟨s02,hs02⟩:∃ z,z=t02:=⟨_,rfl⟩
         subst hs00 hs01 hs02;have HPT:Hid (PmsAt w10 (fun _=>True) (.slice (some pa) n pc) (q.ps.take n)):=h_ (((HPM.out.below HBW.out).take (Nat.le_of_lt hnq)).mono (fun _ _=>trivial));have HQX:Hid ((q.ps.take n).length<=100000):=h_ (by rw[List.length_take];have:=HRN1.out;have:=HRL.out;omega);obtain⟨t0,ht0⟩:∃ z,z=tru pp.1.ref (lkp (q.ps.take n++[pmN wV pp.1.b])):=⟨_,rfl⟩
         obtain⟨t00,t01,t02⟩:=t0;have HT0:=h_ ht0;clear ht0;have hnc:n<=pc:=by have:=HPC.out;omega
         have hlt_f:=lt_of_block HBf.out;have hlt_m:=lt_of_block HBm.out;have hog:Hid (∀ q,q<0->(fun q=>0) q<w10.heap.size):=h_ (fun q h=>absurd h (Nat.not_lt_zero _));refine R7.region (by kernel_rfl) [[],[],[1],[],[3],[],[3,4,5],[],[7],[3,4,5,6,7,8],[1,2,3,4,5,6,7,8,9],[1,2,3,4,5,6,7,8,9,10],[0,1,2,3,4,5,6,7,8,9,10,11],[0,1,2,3,4,5,6,7,8,9,10,11,12]] [] [] (fun q=>0) 0 12 (by kernel_rfl) (by kernel_rfl) (by rfl) hog.out (fun q q' h h' hn=>absurd hn (by omega)) ?_;refine R7.cd ?_ (fun T xs wr hA=>?_) ?_
         rotate_left
         ·have e3:=hA.pq 3;simp only[gsa,gsc,gsz] at e3;clear hA;go_simp<;>(try with_reducible rfl)
         refine R7.cd ?_ (fun T xs wr hA=>?_) ?_
         rotate_left
         ·have e17:=hA.pq 17;simp only[gsa,gsc,gsz] at e17;clear hA;go_simp<;>(try with_reducible rfl)
         refine R7.cd ?_ (fun T xs wr hA=>?_) ?_
         rotate_left
         ·have e143:=tr_ (hA.tq 1 143) (hA.fq 1)
          (try simp (disch:=decide) only [R7.mi] at e143)
          have hBq:wr.heap[km]?=_:=(hA.bl _ hlt_m (fun q h=>absurd h (Nat.not_lt_zero _))).trans HBm.out;obtain⟨q0,q1,q2,q3,q4,q5,q6,q7,q8,q9,q10,q11,q12⟩:=cl13 hBq;clear hBq;clear hA;go_simp<;>(try with_reducible rfl)
         refine R7.cd ?_ (fun T xs wr hA=>?_) ?_
         rotate_left
         ·have e15:=hA.pq 15;simp only[gsa,gsc,gsz] at e15;clear hA;go_simp<;>(try with_reducible rfl)
         refine R7.cd ?_ (fun T xs wr hA=>?_) ?_
         rotate_left
         ·have e145:=tr_ (hA.tq 3 145) (hA.fq 3)
          (try simp (disch:=decide) only [R7.mi] at e145)
          have hBq:wr.heap[kf]?=_:=(hA.bl _ hlt_f (fun q h=>absurd h (Nat.not_lt_zero _))).trans HBf.out;obtain⟨q0,q1,q2,q3,q4,q5,q6,q7,q8,q9,q10,q11,q12,q13,q14,q15,q16,q17,q18,q19,q20,q21,q22,q23,q24⟩:=cl25 hBq;clear hBq;clear hA;go_simp<;>(try with_reducible rfl)
         refine R7.cd ?_ (fun T xs wr hA=>?_) ?_
         rotate_left
         ·have e16:=hA.pq 16;simp only[gsa,gsc,gsz] at e16;clear hA;go_simp<;>(try with_reducible rfl)
         refine R7.cd ?_ (fun T xs wr hA=>?_) ?_
         rotate_left
         ·have e146:=tr_ (hA.tq 4 146) (hA.fq 4);have e147:=tr_ (hA.tq 5 147) (hA.fq 5)
          (try simp (disch:=decide) only [R7.mi] at e146 e147)
          clear hA;go_simp<;>(try with_reducible rfl)
         refine R7.cd ?_ (fun T xs wr hA=>?_) ?_
         rotate_left
         ·have e17:=hA.pq 17;simp only[gsa,gsc,gsz] at e17;clear hA;go_simp<;>(try with_reducible rfl)
         refine R7.cd ?_ (fun T xs wr hA=>?_) ?_
         rotate_left
         ·have e149:=tr_ (hA.tq 7 149) (hA.fq 7)
          (try simp (disch:=decide) only [R7.mi] at e149)
          have hBq:wr.heap[km]?=_:=(hA.bl _ hlt_m (fun q h=>absurd h (Nat.not_lt_zero _))).trans HBm.out;obtain⟨q0,q1,q2,q3,q4,q5,q6,q7,q8,q9,q10,q11,q12⟩:=cl13 hBq;clear hBq;clear hA;go_simp<;>(try with_reducible rfl)
         refine R7.Chain.call (fun xs v w=>PmsAt w (fun _=>True) v (q.ps.take n++[pmN wV pp.1.b])) (fun _ _ _ _ h hb=>h.below hb) (fun _ _ _ _ _ _ ⟨q,hq,_⟩ _=>absurd hq (Nat.not_lt_zero _)) (by rfl) (fun T xs wr hA=>?_) ?_
         ·have hsw:=(hA.be 0 (Nat.zero_le _) (fun _ _=>Nat.zero_le _)).size;have e148:=tr_ (hA.tq 6 148) (hA.fq 6);have e150:=tr_ (hA.tq 8 150) (hA.fq 8)
          (try simp (disch:=decide) only [R7.mi] at e148 e150)
          have hbw:=undrew (hA.be w10.heap.size (Nat.le_refl _) (fun q h=>absurd h (Nat.not_lt_zero _)));clear hA;refine⟨(by rfl),fun K hK=>?_⟩;go_simp
          refine (more_l wr (fun _=>True) _ (q.ps.take n) wV pp.1.b (HPT.out.below hbw) (by have:=HQX.out;omega)).mono ?_;rintro e w' ⟨v',rfl,hp',hb⟩;exact hK.out _ _ (hp'.mono (fun _ _=>trivial)) hb
         refine R7.Chain.call (fun xs v w=>v=.agg #[.int .i64 (t00:Nat),.int .i64 (t01:Nat),.int .i64 (t02:Nat)]) (fun _ _ _ _ h _=>h) (fun _ _ _ _ _ h _ _=>h) (by rfl) (fun T xs wr hA=>?_) ?_
         ·have hsw:=(hA.be 0 (Nat.zero_le _) (fun _ _=>Nat.zero_le _)).size;have e144:=tr_ (hA.tq 2 144) (hA.fq 2)
          (try simp (disch:=decide) only [R7.mi] at e144)
          have e151:=hA.tm 9 151 (by rfl) (by rfl);have hbw:=undrew (hA.be w10.heap.size (Nat.le_refl _) (fun q h=>absurd h (Nat.not_lt_zero _)));have hF9:PmsAt wr (fun _=>True) (xs 9) (q.ps.take n++[pmN wV pp.1.b]):=hA.fa 9 (by rfl);have hp9:=hF9;clear hA;refine⟨(by rfl),fun K hK=>?_⟩;go_simp
          refine (truth_l w wr S (fun _=>True) (pp.2) _ _ _ HUM.out (((HPB.out.2 q HPP.out).2.1 _ HPY.out).2.2.2.2) (((HWD.out.2 q HPP.out).1 _ HPY.out)).1 (HBW.out.trans (hbw.mono HBW.out.size)) hp9 (by have:=(((HWD.out.2 q HPP.out).1 _ HPY.out)).2;have:=HQX.out;simp only[lsa,List.length_singleton];omega)).mono ?_;rintro e w' ⟨rfl,hb⟩;exact hK.out _ _ (by rw[<-HT0.out];rfl) hb
         refine R7.Chain.call (fun xs v w=>∃ g,v=.slice (some ⟨g,0,none⟩) 1 1/\w10.heap.size<=g/\w.heap[g]?=some (.cells #[.int .i64 (t00:Nat),.int .i64 (t01:Nat),.int .i64 (t02:Nat)] 36 (0,0))) (fun _ _ _ _ ⟨g,hv,hl,hg⟩ hb=>⟨g,hv,hl,by rw[hb.block g (Array.getElem?_eq_some_iff.1 hg).1];exact hg⟩) (fun _ _ _ _ _ ⟨g,hv,hl,hg⟩ ⟨q,hq,e⟩ hp=>⟨g,hv,hl,by rw[hp.block g (Array.getElem?_eq_some_iff.1 hg).1 (fun h=>by have:=hog.out q hq;omega)];exact hg⟩) (by rfl) (fun T xs wr hA=>?_) ?_
         ·have hsw:=(hA.be 0 (Nat.zero_le _) (fun _ _=>Nat.zero_le _)).size;have e152:=hA.tm 10 152 (by rfl) (by rfl);have f152:xs 10=(.agg #[.int .i64 (t00:Nat),.int .i64 (t01:Nat),.int .i64 (t02:Nat)]):=hA.fa 10 (by rfl);rw[f152] at e152;clear f152;clear hA;refine⟨(by rfl),fun K hK=>?_⟩;go_simp
          exact hK.out _ _ ⟨_,rfl,hsw,by simpa using made_at wr _ _ rfl⟩ ((Below.refl _ _).alloc (Nat.le_refl _) _)
         refine R7.Chain.done (fun xs w11 hL=>?_);obtain⟨⟨hbe,hbl⟩,hf,-,-⟩:=hL;have f0:xs 0=_:=hf 0 (by decide);have f1:xs 1=_:=hf 1 (by decide);have f2:xs 2=_:=hf 2 (by decide);have f3:xs 3=_:=hf 3 (by decide);have f4:xs 4=_:=hf 4 (by decide);have f5:xs 5=_:=hf 5 (by decide);have f6:xs 6=_:=hf 6 (by decide);have f7:xs 7=_:=hf 7 (by decide);have f8:xs 8=_:=hf 8 (by decide);have F9:PmsAt w11 (fun _=>True) (xs 9) (q.ps.take n++[pmN wV pp.1.b]):=hf 9 (by decide);have f10:xs 10=(.agg #[.int .i64 (t00:Nat),.int .i64 (t01:Nat),.int .i64 (t02:Nat)]):=hf 10 (by decide);have F11:∃ g,(xs 11)=.slice (some ⟨g,0,none⟩) 1 1/\w10.heap.size<=g/\w11.heap[g]?=some (.cells #[.int .i64 (t00:Nat),.int .i64 (t01:Nat),.int .i64 (t02:Nat)] 36 (0,0)):=hf 11 (by decide)
         (try simp (disch:=decide) only [R7.mi] at f0 f1 f2 f3 f4 f5 f6 f7 f8)
         have hb:Below w10.heap.size w10 w11:=R7.b0_ hbe;clear hbe hbl hf;refine R7.rest_list (by decide) (by kernel_rfl) ?_;simp only[R7.fill,t1_,t2_,t3_,t4_,t5_,t6_,t7_,f0,f1,f2,f3,f4,f5,f6,f7,f8,f10];clear hog hlt_f hlt_m f0 f1 f2 f3 f4 f5 f6 f7 f8 f10;replace HBe:=kB hb HBe;replace HBf:=kB hb HBf;replace HBm:=kB hb HBm;replace HBW:=bw_ HBW hb;replace HRO:=h_ (HRO.out.below hb);clear hb;clear F9;obtain⟨kn9,hv11,-,hcn⟩:=F11;rw[hv11];have HBn:=h_ hcn;clear hcn hv11;clear hnc;have HBB:=h_ (Below.refl w11.heap.size w11);have hr6:=HRO.out.below HBB.out;have HR6:=h_ hr6;have HB6:Hid (ke+1<=w11.heap.size):=h_ (by have:=HBB.out.size;have:=lt_of_block HBe.out;omega);clear hr6
         go_upto_region 41 with (first | (at_builtin;refine El.Row.appendF (E:=fltE) HR6.out rfl (.tmp 142) (.tmp 153) 32 rfl Tryz.underlying32 infoFlt rfl rfl (t00,t01,t02) kn9 36 rfl HBn.out trivial (by have:=HLN.out;have:=HQN.out;have:=HFN.out;(try have:=HRN1.out);(try simp only[lsa,List.length_singleton]);omega) (by have:=HLN.out;have:=HQN.out;have:=HFN.out;(try have:=HRN1.out);(try simp only[lsa,List.length_singleton]);omega) HB6.out ?_;intro ov13 w13 hrow hgw hfr;have HRN:=h_ hrow;have HGW:=h_ hgw;have HFR:=h_ hfr;clear hrow hgw hfr) | fail)
         replace HBe:=kB HBB.out HBe;replace HBf:=kB HBB.out HBf;replace HBm:=kB HBB.out HBm;replace HBW:=h_ (HBW.out.trans (HBB.out.mono HBW.out.size));replace HRO:=h_ (HRO.out.below HBB.out);replace HBe:=HR6.out.kR HGW.out (by omega) HBe;have hoq:=freshO HFR.out HOf.out (lt_of_block HBf.out);replace HBf:=kO HGW.out HOf.out HBf;clear HOf;have HOf:=h_ hoq;clear hoq;have hoq:=freshO HFR.out HOm.out (lt_of_block HBm.out);replace HBm:=kO HGW.out HOm.out HBm;clear HOm;have HOm:=h_ hoq;clear hoq;replace HBW:=h_ (⟨HGW.out.os.trans HBW.out.os,HGW.out.tape.trans HBW.out.tape,HGW.out.output.trans HBW.out.output,Nat.le_trans HBW.out.size HGW.out.size,fun g hg=>(HGW.out.block g (by have:=HBW.out.size;omega) (fun e=>by have:=(HR6.out.ge e.symm).1;omega)).trans (HBW.out.block g hg)⟩:Below w.heap.size w w13);clear HRO HR6 HB6 HBB HBn HGW HFR
         have HRO:=HRN;clear HRN;have HLX:Hid (L7++[((s00,s01,s02):Flt)]++[((t00,t01,t02):Flt)]=L6++(List.range (n+1)).flatMap (fPar q.ps)):=h_ (by rw[range_fm,fPar_kn _ _ _ hnq HPX.out HKN.out.symm,HT0.out,HT9.out,HL7.out,List.append_assoc,List.append_assoc];rfl);have HLY:Hid ((L7++[((s00,s01,s02):Flt)]++[((t00,t01,t02):Flt)]).length<=200001*qs.length+100000*fs.length+1+200002*j+2*(n+1)):=h_ (by simp only[lsa,List.length_singleton];have:=HLN.out;(try simp only[lsa,List.length_singleton] at this);omega);go_wp2_with fail
         go_roundw
         case rel=>exact⟨n+1,_,by go_num,hnr,HLX,HLY,HRO,HOf,HBe,HBf,HBW⟩
         case measure=>simp[intOf];omega
        subst h1;have m2:=cell_at (v:=.bool false) HBm.out 2 rfl;have HLX:Hid (L7++[((t00,t01,t02):Flt)]=L6++(List.range (n+1)).flatMap (fPar q.ps)):=h_ (by rw[range_fm,fPar_no _ _ _ hnq HPX.out HKN.out.symm,HT0.out,HL7.out,List.append_assoc]);have HLY:Hid ((L7++[((t00,t01,t02):Flt)]).length<=200001*qs.length+100000*fs.length+1+200002*j+2*(n+1)):=h_ (by rw[lsa,List.length_singleton];have:=HLN.out;omega);go_wp2_with fail
        go_roundw
        case rel=>exact⟨n+1,_,by go_num,hnr,HLX,HLY,HRO,HOf,HBe,HBf,HBW⟩
        case measure=>simp[intOf];omega
       have hnn:n=rs.length:=by omega
       subst hnn;clear hnr hn;obtain⟨kn,hkn⟩:∃ z,z=q.res.kn:=⟨_,rfl⟩
       rw[<-hkn] at HBf;have HKN:=h_ hkn;clear hkn;have hor:kn=true\/kn=false:=by cases kn<;>simp
       rcases hor with h1 | h1
       focus
        subst h1;have c4:=cell_at (v:=.bool true) HBf.out 4 rfl;go_upto_region 43 with fail
        clear c4;have HPT:Hid (PmsAt wl (fun _=>True) (.slice po rs.length pc) q.ps):=h_ ((HPM.out.below HBW.out).mono (fun _ _=>trivial));have HQX:Hid (q.ps.length<=100000):=h_ (HCN.out.1.2 q HPP.out);obtain⟨t0,ht0⟩:∃ z,z=tru q.res.ref (lkp (q.ps++[pmN wV q.res.b])):=⟨_,rfl⟩
        obtain⟨t00,t01,t02⟩:=t0;have HT0:=h_ ht0;clear ht0;have hlt_f:=lt_of_block HBf.out;have hog:Hid (∀ q,q<0->(fun q=>0) q<wl.heap.size):=h_ (fun q h=>absurd h (Nat.not_lt_zero _));refine R7.region (by kernel_rfl) [[],[],[1],[1,2],[],[4],[],[6],[6,7],[4,5,6,7,8],[1,2,3,4,5,6,7,8,9],[1,2,3,4,5,6,7,8,9,10],[0,1,2,3,4,5,6,7,8,9,10,11],[0,1,2,3,4,5,6,7,8,9,10,11,12]] [] [] (fun q=>0) 0 12 (by kernel_rfl) (by kernel_rfl) (by rfl) hog.out (fun q q' h h' hn=>absurd hn (by omega)) ?_;refine R7.cd ?_ (fun T xs wr hA=>?_) ?_
        rotate_left
        ·have e3:=hA.pq 3;simp only[gsa,gsc,gsz] at e3;clear hA;go_simp<;>(try with_reducible rfl)
        refine R7.cd ?_ (fun T xs wr hA=>?_) ?_
        rotate_left
        ·have e15:=hA.pq 15;simp only[gsa,gsc,gsz] at e15;clear hA;go_simp<;>(try with_reducible rfl)
        refine R7.cd ?_ (fun T xs wr hA=>?_) ?_
        rotate_left
        ·have e160:=tr_ (hA.tq 1 160) (hA.fq 1)
         (try simp (disch:=decide) only [R7.mi] at e160)
         clear hA;go_simp<;>(try with_reducible rfl)
        refine R7.cd ?_ (fun T xs wr hA=>?_) ?_
        rotate_left
        ·have e161:=tr_ (hA.tq 2 161) (hA.fq 2)
         (try simp (disch:=decide) only [R7.mi] at e161)
         have hBq:wr.heap[kf]?=_:=(hA.bl _ hlt_f (fun q h=>absurd h (Nat.not_lt_zero _))).trans HBf.out;obtain⟨q0,q1,q2,q3,q4,q5,q6,q7,q8,q9,q10,q11,q12,q13,q14,q15,q16,q17,q18,q19,q20,q21,q22,q23,q24⟩:=cl25 hBq;clear hBq;clear hA;go_simp<;>(try with_reducible rfl)
        refine R7.cd ?_ (fun T xs wr hA=>?_) ?_
        rotate_left
        ·have e15:=hA.pq 15;simp only[gsa,gsc,gsz] at e15;clear hA;go_simp<;>(try with_reducible rfl)
        refine R7.cd ?_ (fun T xs wr hA=>?_) ?_
        rotate_left
        ·have e163:=tr_ (hA.tq 4 163) (hA.fq 4)
         (try simp (disch:=decide) only [R7.mi] at e163)
         have hBq:wr.heap[kf]?=_:=(hA.bl _ hlt_f (fun q h=>absurd h (Nat.not_lt_zero _))).trans HBf.out;obtain⟨q0,q1,q2,q3,q4,q5,q6,q7,q8,q9,q10,q11,q12,q13,q14,q15,q16,q17,q18,q19,q20,q21,q22,q23,q24⟩:=cl25 hBq;clear hBq;clear hA;go_simp<;>(try with_reducible rfl)
        refine R7.cd ?_ (fun T xs wr hA=>?_) ?_
        rotate_left
        ·have e15:=hA.pq 15;simp only[gsa,gsc,gsz] at e15;clear hA;go_simp<;>(try with_reducible rfl)
        refine R7.cd ?_ (fun T xs wr hA=>?_) ?_
        rotate_left
        ·have e165:=tr_ (hA.tq 6 165) (hA.fq 6)
         (try simp (disch:=decide) only [R7.mi] at e165)
         clear hA;go_simp<;>(try with_reducible rfl)
        refine R7.cd ?_ (fun T xs wr hA=>?_) ?_
        rotate_left
        ·have e166:=tr_ (hA.tq 7 166) (hA.fq 7)
         (try simp (disch:=decide) only [R7.mi] at e166)
         have hBq:wr.heap[kf]?=_:=(hA.bl _ hlt_f (fun q h=>absurd h (Nat.not_lt_zero _))).trans HBf.out;obtain⟨q0,q1,q2,q3,q4,q5,q6,q7,q8,q9,q10,q11,q12,q13,q14,q15,q16,q17,q18,q19,q20,q21,q22,q23,q24⟩:=cl25 hBq;clear hBq;clear hA;go_simp<;>(try with_reducible rfl)
        refine R7.Chain.call (fun xs v w=>PmsAt w (fun _=>True) v (q.ps++[pmN wV q.res.b])) (fun _ _ _ _ h hb=>h.below hb) (fun _ _ _ _ _ _ ⟨q,hq,_⟩ _=>absurd hq (Nat.not_lt_zero _)) (by rfl) (fun T xs wr hA=>?_) ?_
        ·have hsw:=(hA.be 0 (Nat.zero_le _) (fun _ _=>Nat.zero_le _)).size;have e164:=tr_ (hA.tq 5 164) (hA.fq 5);have e167:=tr_ (hA.tq 8 167) (hA.fq 8)
         (try simp (disch:=decide) only [R7.mi] at e164 e167)
         have hbw:=undrew (hA.be wl.heap.size (Nat.le_refl _) (fun q h=>absurd h (Nat.not_lt_zero _)));clear hA;refine⟨(by rfl),fun K hK=>?_⟩;go_simp
         refine (more_l wr (fun _=>True) _ (q.ps) wV q.res.b (HPT.out.below hbw) (by have:=HQX.out;omega)).mono ?_;rintro e w' ⟨v',rfl,hp',hb⟩;exact hK.out _ _ (hp'.mono (fun _ _=>trivial)) hb
        refine R7.Chain.call (fun xs v w=>v=.agg #[.int .i64 (t00:Nat),.int .i64 (t01:Nat),.int .i64 (t02:Nat)]) (fun _ _ _ _ h _=>h) (fun _ _ _ _ _ h _ _=>h) (by rfl) (fun T xs wr hA=>?_) ?_
        ·have hsw:=(hA.be 0 (Nat.zero_le _) (fun _ _=>Nat.zero_le _)).size;have e162:=tr_ (hA.tq 3 162) (hA.fq 3)
         (try simp (disch:=decide) only [R7.mi] at e162)
         have e168:=hA.tm 9 168 (by rfl) (by rfl);have hbw:=undrew (hA.be wl.heap.size (Nat.le_refl _) (fun q h=>absurd h (Nat.not_lt_zero _)));have hF9:PmsAt wr (fun _=>True) (xs 9) (q.ps++[pmN wV q.res.b]):=hA.fa 9 (by rfl);have hp9:=hF9;clear hA;refine⟨(by rfl),fun K hK=>?_⟩;go_simp
         refine (truth_l w wr S (fun _=>True) (px) _ _ _ HUX.out ((HPB.out.2 q HPP.out).2.2.1.2.2.2.2) ((HWD.out.2 q HPP.out).2.1).1 (HBW.out.trans (hbw.mono HBW.out.size)) hp9 (by have:=((HWD.out.2 q HPP.out).2.1).2;have:=HQX.out;simp only[lsa,List.length_singleton];omega)).mono ?_;rintro e w' ⟨rfl,hb⟩;exact hK.out _ _ (by rw[<-HT0.out];rfl) hb
        refine R7.Chain.call (fun xs v w=>∃ g,v=.slice (some ⟨g,0,none⟩) 1 1/\wl.heap.size<=g/\w.heap[g]?=some (.cells #[.int .i64 (t00:Nat),.int .i64 (t01:Nat),.int .i64 (t02:Nat)] 36 (0,0))) (fun _ _ _ _ ⟨g,hv,hl,hg⟩ hb=>⟨g,hv,hl,by rw[hb.block g (Array.getElem?_eq_some_iff.1 hg).1];exact hg⟩) (fun _ _ _ _ _ ⟨g,hv,hl,hg⟩ ⟨q,hq,e⟩ hp=>⟨g,hv,hl,by rw[hp.block g (Array.getElem?_eq_some_iff.1 hg).1 (fun h=>by have:=hog.out q hq;omega)];exact hg⟩) (by rfl) (fun T xs wr hA=>?_) ?_
        ·have hsw:=(hA.be 0 (Nat.zero_le _) (fun _ _=>Nat.zero_le _)).size;have e169:=hA.tm 10 169 (by rfl) (by rfl);have f169:xs 10=(.agg #[.int .i64 (t00:Nat),.int .i64 (t01:Nat),.int .i64 (t02:Nat)]):=hA.fa 10 (by rfl);rw[f169] at e169;clear f169;clear hA;refine⟨(by rfl),fun K hK=>?_⟩;go_simp
         exact hK.out _ _ ⟨_,rfl,hsw,by simpa using made_at wr _ _ rfl⟩ ((Below.refl _ _).alloc (Nat.le_refl _) _)
        refine R7.Chain.done (fun xs w7 hL=>?_);obtain⟨⟨hbe,hbl⟩,hf,-,-⟩:=hL;have f0:xs 0=_:=hf 0 (by decide);have f1:xs 1=_:=hf 1 (by decide);have f2:xs 2=_:=hf 2 (by decide);have f3:xs 3=_:=hf 3 (by decide);have f4:xs 4=_:=hf 4 (by decide);have f5:xs 5=_:=hf 5 (by decide);have f6:xs 6=_:=hf 6 (by decide);have f7:xs 7=_:=hf 7 (by decide);have f8:xs 8=_:=hf 8 (by decide);have F9:PmsAt w7 (fun _=>True) (xs 9) (q.ps++[pmN wV q.res.b]):=hf 9 (by decide);have f10:xs 10=(.agg #[.int .i64 (t00:Nat),.int .i64 (t01:Nat),.int .i64 (t02:Nat)]):=hf 10 (by decide);have F11:∃ g,(xs 11)=.slice (some ⟨g,0,none⟩) 1 1/\wl.heap.size<=g/\w7.heap[g]?=some (.cells #[.int .i64 (t00:Nat),.int .i64 (t01:Nat),.int .i64 (t02:Nat)] 36 (0,0)):=hf 11 (by decide)
        (try simp (disch:=decide) only [R7.mi] at f0 f1 f2 f3 f4 f5 f6 f7 f8)
        have hb:Below wl.heap.size wl w7:=R7.b0_ hbe;clear hbe hbl hf;refine R7.rest_list (by decide) (by kernel_rfl) ?_;simp only[R7.fill,t1_,t2_,t3_,t4_,t5_,t6_,t7_,f0,f1,f2,f3,f4,f5,f6,f7,f8,f10];clear hog hlt_f f0 f1 f2 f3 f4 f5 f6 f7 f8 f10;replace HBe:=kB hb HBe;replace HBf:=kB hb HBf;replace HBW:=bw_ HBW hb;replace HRO:=h_ (HRO.out.below hb);clear hb;clear F9;obtain⟨kn9,hv11,-,hcn⟩:=F11;rw[hv11];have HBn:=h_ hcn;clear hcn hv11;have HBB:=h_ (Below.refl w7.heap.size w7);have hr6:=HRO.out.below HBB.out;have HR6:=h_ hr6;have HB6:Hid (ke+1<=w7.heap.size):=h_ (by have:=HBB.out.size;have:=lt_of_block HBe.out;omega);clear hr6
        go_upto_region 44 with (first | (at_builtin;refine El.Row.appendF (E:=fltE) HR6.out rfl (.tmp 159) (.tmp 170) 32 rfl Tryz.underlying32 infoFlt rfl rfl (t00,t01,t02) kn9 36 rfl HBn.out trivial (by have:=HLN.out;have:=HQN.out;have:=HFN.out;(try have:=HRN1.out);(try simp only[lsa,List.length_singleton]);omega) (by have:=HLN.out;have:=HQN.out;have:=HFN.out;(try have:=HRN1.out);(try simp only[lsa,List.length_singleton]);omega) HB6.out ?_;intro ov9 w9 hrow hgw hfr;have HRN:=h_ hrow;have HGW:=h_ hgw;have HFR:=h_ hfr;clear hrow hgw hfr) | fail)
        replace HBe:=kB HBB.out HBe;replace HBf:=kB HBB.out HBf;replace HBW:=h_ (HBW.out.trans (HBB.out.mono HBW.out.size));replace HRO:=h_ (HRO.out.below HBB.out);replace HBe:=HR6.out.kR HGW.out (by omega) HBe;have hoq:=freshO HFR.out HOf.out (lt_of_block HBf.out);replace HBf:=kO HGW.out HOf.out HBf;clear HOf;have HOf:=h_ hoq;clear hoq;replace HBW:=h_ (⟨HGW.out.os.trans HBW.out.os,HGW.out.tape.trans HBW.out.tape,HGW.out.output.trans HBW.out.output,Nat.le_trans HBW.out.size HGW.out.size,fun g hg=>(HGW.out.block g (by have:=HBW.out.size;omega) (fun e=>by have:=(HR6.out.ge e.symm).1;omega)).trans (HBW.out.block g hg)⟩:Below w.heap.size w w9);clear HRO HR6 HB6 HBB HBn HGW HFR;have HRO:=HRN;clear HRN;have HT9:=HT0;clear HT0 HPT HQX;obtain⟨w5,hw5⟩:∃ z,z=w9:=⟨_,rfl⟩
        subst hw5;obtain⟨ov6,hov6⟩:∃ z,z=ov9:=⟨_,rfl⟩
        subst hov6;obtain⟨L8,hL8⟩:∃ z,z=L7++[((t00,t01,t02):Flt)]:=⟨_,rfl⟩
        rw[<-hL8] at HRO;have HL8:Hid (L8=L7++(if q.res.kn then [tru q.res.ref (lkp (q.ps++[vOf q.res]))] else [])):=h_ (by rw[hL8,<-HKN.out];rw[HT9.out];rfl);have HLN8:Hid (L8.length<=200001*qs.length+100000*fs.length+1+200002*j+2*rs.length+1):=h_ (by rw[hL8];rw[lsa,List.length_singleton];have:=HLN.out;omega);clear hL8 HLN;have HLN:=HLN8;clear HLN8;rw[HKN.out] at HBf
       rotate_left
       focus
        subst h1;have c4:=cell_at (v:=.bool false) HBf.out 4 rfl;go_upto_region 44 with fail
        clear c4;obtain⟨w5,hw5⟩:∃ z,z=wl:=⟨_,rfl⟩
        subst hw5;obtain⟨ov6,hov6⟩:∃ z,z=u3:=⟨_,rfl⟩
        subst hov6;obtain⟨L8,hL8⟩:∃ z,z=L7:=⟨_,rfl⟩
        rw[<-hL8] at HRO;have HL8:Hid (L8=L7++(if q.res.kn then [tru q.res.ref (lkp (q.ps++[vOf q.res]))] else [])):=h_ (by rw[hL8,<-HKN.out];simp);have HLN8:Hid (L8.length<=200001*qs.length+100000*fs.length+1+200002*j+2*rs.length+1):=h_ (by rw[hL8];have:=HLN.out;omega);clear hL8 HLN;have HLN:=HLN8;clear HLN8;rw[HKN.out] at HBf
       rotate_left
       all_goals (
        have hks:=ask_all (fndF p.fs) false w (.slice (some fa) fs.length kc) (.inr ⟨S,fs,HFA.out,by rw[HFS.out]⟩) (ud q.body) q.body (Nat.le_refl _) (HPB.out.2 q HPP.out).2.2.2.1 (HWD.out.2 q HPP.out).2.2.1 py S S w5 (.slice po rs.length pc) q.ps HUY.out (HPB.out.2 q HPP.out).2.2.2.1 HBW.out (HPM.out.below HBW.out) (by have:=(HWD.out.2 q HPP.out).2.2.2;have:=HCN.out.1.2 q HPP.out;omega);obtain⟨r,hr⟩:∃ z,z=aB (fndF p.fs) false q.body (lkp q.ps):=⟨_,rfl⟩
        rw[<-hr] at hks;have HRR:=h_ hr;simp only[xv] at hks;have HKC:=h_ hks;clear hks hr;have e1:=cell_at (v:=.slice (some fa) fs.length kc) HBe.out 1 rfl;have c1:=cell_at (v:=.slice po rs.length pc) HBf.out 1 rfl;have c15:=cell_at (v:=.int .i64 py.k) HBf.out 15 rfl;have c16:=cell_at (v:=.string py.nm) HBf.out 16 rfl;have c17:=cell_at (v:=.string py.ot) HBf.out 17 rfl;have c18:=cell_at (v:=.bool py.b) HBf.out 18 rfl;have c19:=cell_at (v:=.slice py.ao py.n py.c) HBf.out 19 rfl;have c20:=cell_at (v:=.slice py.ko py.kn py.kc) HBf.out 20 rfl;have c21:=cell_at (v:=.int .i64 py.ln) HBf.out 21 rfl;have c22:=cell_at (v:=.int .i64 py.cl) HBf.out 22 rfl;go_wp2_with fail
        refine HKC.out.mono ?_;rintro e w7 ⟨rfl,hb⟩;clear e1 c1 c15 c16 c17 c18 c19 c20 c21 c22;replace HBe:=kB hb HBe;replace HBf:=kB hb HBf;replace HBW:=bw_ HBW hb;replace HRO:=h_ (HRO.out.below hb);clear hb HKC;have HNZ:=h_ (anz_b (fndF p.fs) false q.body (lkp q.ps))
        cases r with
        | error e =>
         have hz:e.1≠0:=HNZ.out e HRR.out.symm;obtain⟨e0,e1,e2⟩:=e;unfold fltV;simp only[arT,arF];have HZ:=h_ hz;clear hz;have hqz:(((e0:Nat):Int)==0)=false:=by rw[beq_eq_false_iff_ne];have:=HZ.out;simp only at this;omega
         go_upto_region 45 with fail
         have HRO0:=HRO;obtain⟨w8,kx,hw,hkk,hb,hs1,HBx⟩:=newb w7 #[.int .i64 (e0:Nat),.int .i64 (e1:Nat),.int .i64 (e2:Nat)] 36;have he_x:=lk_ hkk HBe;have hf_x:=lk_ hkk HBf;rw[hw,<-hkk];replace HBe:=kB hb HBe;replace HBf:=kB hb HBf;replace HBW:=bw_ HBW hb;replace HRO:=h_ (HRO.out.below hb);have HOx:Hid (ov6.ownBlock≠some kx):=h_ (fun e=>by have:=(HRO0.out.ge e).2;omega);clear hw hb hkk hs1 HRO0;obtain⟨x0,x1,x2⟩:=cl3 HBx.out;go_upto_region 47 with fail
         clear hqz;clear x0 x1 x2;obtain⟨x0,x1,x2⟩:=cl3 HBx.out;obtain⟨w9,kn9,hw,hkk,hb,hs1,HBn⟩:=newb w8 #[.int .i64 (e0:Nat),.int .i64 (e1:Nat),.int .i64 (e2:Nat)] 36;have hkk2:=hkk.symm;have HBB:=h_ hb;clear hb hs1 hkk;have hr6:=HRO.out.below HBB.out;have HR6:=h_ hr6;have HB6:Hid (ke+1<=w9.heap.size):=h_ (by have:=HBB.out.size;have:=lt_of_block HBe.out;omega);clear hr6
         go_upto_region 48 with (first | (at_builtin;refine El.Row.appendF (E:=fltE) HR6.out rfl (.tmp 199) (.tmp 201) 32 rfl Tryz.underlying32 infoFlt rfl rfl (e0,e1,e2) kn9 36 rfl HBn.out trivial (by have:=HLN.out;have:=HQN.out;have:=HFN.out;(try have:=HRN1.out);(try simp only[lsa,List.length_singleton]);omega) (by have:=HLN.out;have:=HQN.out;have:=HFN.out;(try have:=HRN1.out);(try simp only[lsa,List.length_singleton]);omega) HB6.out ?_;intro ov10 w10 hrow hgw hfr;have HRN:=h_ hrow;have HGW:=h_ hgw;have HFR:=h_ hfr;clear hrow hgw hfr) | fail)
         clear x0 x1 x2;clear hw hkk2;replace HBe:=kB HBB.out HBe;replace HBf:=kB HBB.out HBf;replace HBx:=kB HBB.out HBx;replace HBW:=h_ (HBW.out.trans (HBB.out.mono HBW.out.size));replace HRO:=h_ (HRO.out.below HBB.out);replace HBe:=HR6.out.kR HGW.out (by omega) HBe;have hoq:=freshO HFR.out HOf.out (lt_of_block HBf.out);replace HBf:=kO HGW.out HOf.out HBf;clear HOf;have HOf:=h_ hoq;clear hoq;have hoq:=freshO HFR.out HOx.out (lt_of_block HBx.out);replace HBx:=kO HGW.out HOx.out HBx;clear HOx;have HOx:=h_ hoq;clear hoq;replace HBW:=h_ (⟨HGW.out.os.trans HBW.out.os,HGW.out.tape.trans HBW.out.tape,HGW.out.output.trans HBW.out.output,Nat.le_trans HBW.out.size HGW.out.size,fun g hg=>(HGW.out.block g (by have:=HBW.out.size;omega) (fun e=>by have:=(HR6.out.ge e.symm).1;omega)).trans (HBW.out.block g hg)⟩:Below w.heap.size w w10)
         clear HRO HR6 HB6 HBB HBn HGW HFR;have HRO:=HRN;clear HRN;have HLX:Hid (L8++[((e0,e1,e2):Flt)]=L5++(p.fs.take (j+1)).flatMap (fFun (fndF p.fs))):=h_ (by rw[fm_take _ _ j hjp,HQJ.out,fFun,HRL.out,show bod (fndF p.fs) q=((e0,e1,e2):Flt) from by unfold bod;rw[<-HRR.out],HL8.out,HL7.out,HL6.out];simp only[List.append_assoc]);have HLY:Hid ((L8++[((e0,e1,e2):Flt)]).length<=200001*qs.length+100000*fs.length+1+200002*(j+1)):=h_ (by rw[lsa,List.length_singleton];have:=HLN.out;have:=HRN1.out;omega);go_wp2_with fail
         go_roundw
         case rel=>exact⟨j+1,_,by go_num,hi,HLX,HLY,HRO,HBe,HBW⟩
         case measure=>simp[intOf];omega
        | ok b =>
         simp only[arT,arF,fltV,f0];go_upto_region 45 with fail
         have HRO0:=HRO;obtain⟨w8,kx,hw,hkk,hb,hs1,HBx⟩:=newb w7 #[.int .i64 0,.int .i64 0,.int .i64 0] 36;have he_x:=lk_ hkk HBe;have hf_x:=lk_ hkk HBf;rw[hw,<-hkk];replace HBe:=kB hb HBe;replace HBf:=kB hb HBf;replace HBW:=bw_ HBW hb;replace HRO:=h_ (HRO.out.below hb);have HOx:Hid (ov6.ownBlock≠some kx):=h_ (fun e=>by have:=(HRO0.out.ge e).2;omega);clear hw hb hkk hs1 HRO0
         by_cases hb1:b=q.res.b
         ·have hq:(((b:Nat):Int) != ((q.res.b:Nat):Int))=false:=by rw[bne_eq_false_iff_eq];omega
          have HB1:=h_ hb1;clear hb1;obtain⟨x0,x1,x2⟩:=cl3 HBx.out;have c3:=cell_at (v:=.int .i64 (q.res.b:Nat)) HBf.out 3 rfl;go_upto_region 47 with fail
          clear hq;clear x0 x1 x2 c3;obtain⟨x0,x1,x2⟩:=cl3 HBx.out;obtain⟨w9,kn9,hw,hkk,hb,hs1,HBn⟩:=newb w8 #[.int .i64 0,.int .i64 0,.int .i64 0] 36;have hkk2:=hkk.symm;have HBB:=h_ hb;clear hb hs1 hkk;have hr6:=HRO.out.below HBB.out;have HR6:=h_ hr6;have HB6:Hid (ke+1<=w9.heap.size):=h_ (by have:=HBB.out.size;have:=lt_of_block HBe.out;omega);clear hr6
          go_upto_region 48 with (first | (at_builtin;refine El.Row.appendF (E:=fltE) HR6.out rfl (.tmp 199) (.tmp 201) 32 rfl Tryz.underlying32 infoFlt rfl rfl (0,0,0) kn9 36 rfl HBn.out trivial (by have:=HLN.out;have:=HQN.out;have:=HFN.out;(try have:=HRN1.out);(try simp only[lsa,List.length_singleton]);omega) (by have:=HLN.out;have:=HQN.out;have:=HFN.out;(try have:=HRN1.out);(try simp only[lsa,List.length_singleton]);omega) HB6.out ?_;intro ov10 w10 hrow hgw hfr;have HRN:=h_ hrow;have HGW:=h_ hgw;have HFR:=h_ hfr;clear hrow hgw hfr) | fail)
          clear x0 x1 x2;clear hw hkk2;replace HBe:=kB HBB.out HBe;replace HBf:=kB HBB.out HBf;replace HBx:=kB HBB.out HBx;replace HBW:=h_ (HBW.out.trans (HBB.out.mono HBW.out.size));replace HRO:=h_ (HRO.out.below HBB.out);replace HBe:=HR6.out.kR HGW.out (by omega) HBe;have hoq:=freshO HFR.out HOf.out (lt_of_block HBf.out);replace HBf:=kO HGW.out HOf.out HBf;clear HOf;have HOf:=h_ hoq;clear hoq;have hoq:=freshO HFR.out HOx.out (lt_of_block HBx.out);replace HBx:=kO HGW.out HOx.out HBx;clear HOx;have HOx:=h_ hoq;clear hoq;replace HBW:=h_ (⟨HGW.out.os.trans HBW.out.os,HGW.out.tape.trans HBW.out.tape,HGW.out.output.trans HBW.out.output,Nat.le_trans HBW.out.size HGW.out.size,fun g hg=>(HGW.out.block g (by have:=HBW.out.size;omega) (fun e=>by have:=(HR6.out.ge e.symm).1;omega)).trans (HBW.out.block g hg)⟩:Below w.heap.size w w10)
          clear HRO HR6 HB6 HBB HBn HGW HFR;have HRO:=HRN;clear HRN;have HLX:Hid (L8++[((0,0,0):Flt)]=L5++(p.fs.take (j+1)).flatMap (fFun (fndF p.fs))):=h_ (by rw[fm_take _ _ j hjp,HQJ.out,fFun,HRL.out,show bod (fndF p.fs) q=((0,0,0):Flt) from by unfold bod;rw[<-HRR.out];exact if_pos HB1.out,HL8.out,HL7.out,HL6.out];simp only[List.append_assoc]);have HLY:Hid ((L8++[((0,0,0):Flt)]).length<=200001*qs.length+100000*fs.length+1+200002*(j+1)):=h_ (by rw[lsa,List.length_singleton];have:=HLN.out;have:=HRN1.out;omega);go_wp2_with fail
          go_roundw
          case rel=>exact⟨j+1,_,by go_num,hi,HLX,HLY,HRO,HBe,HBW⟩
          case measure=>simp[intOf];omega
         have hq:(((b:Nat):Int) != ((q.res.b:Nat):Int))=true:=by rw[bne_iff_ne];omega
         have HB1:=h_ hb1;clear hb1;have x0:=cell_at (v:=.int .i64 0) HBx.out 0 rfl;have c3:=cell_at (v:=.int .i64 (q.res.b:Nat)) HBf.out 3 rfl;go_upto_region 46 with fail
         clear hq;clear x0 c3;have HBf2:=HBf.out;rw[HYL.out,HYC.out] at HBf2;clear HBf;have HBf:=h_ HBf2;clear HBf2;have c21:=cell_at (v:=.int .i64 (q.body.ln:Nat)) HBf.out 21 rfl;have c22:=cell_at (v:=.int .i64 (q.body.cl:Nat)) HBf.out 22 rfl;obtain⟨x0,x1,x2⟩:=cl3 HBx.out;obtain⟨fx0,fx1,fx2⟩:=fr3 HBx.out;go_upto_region 47 with fail
         clear c21 c22 x0 fx0 x1 fx1 x2 fx2;obtain⟨wz,hw⟩:∃ x,x=w8.setCells kx 0 [.int .i64 4,.int .i64 (q.body.ln:Nat),.int .i64 (q.body.cl:Nat)]:=⟨_,rfl⟩
         have hg:w8.grownBy wz (some kx):=by rw[hw];exact setCells_grown _ _ _ _
         have hv:=put_same [.int .i64 4,.int .i64 (q.body.ln:Nat),.int .i64 (q.body.cl:Nat)] w8 kx 0 _ _ HBx.out (Nat.le_of_ble_eq_true rfl);rw[<-hw] at hv;rw[show ((w8.setCell ⟨kx,0,none⟩ (.int .i64 4)).setCell ⟨kx,1,none⟩ (.int .i64 (q.body.ln:Nat))).setCell ⟨kx,2,none⟩ (.int .i64 (q.body.cl:Nat))=wz from hw.symm];replace HBe:=kG hg HBe;replace HBf:=kG hg HBf;replace HRO:=h_ (rowK HRO.out hg HOx.out);replace HBW:=h_ (⟨hg.os.trans HBW.out.os,hg.tape.trans HBW.out.tape,hg.output.trans HBW.out.output,Nat.le_trans HBW.out.size hg.size,fun g hg2=>(hg.block g (by have:=HBW.out.size;omega) (fun e=>by injection e with e;omega)).trans (HBW.out.block g hg2)⟩:Below w.heap.size w wz);clear HBx;have HBx:=h_ hv;clear hv hg hw;obtain⟨x0,x1,x2⟩:=cl3 HBx.out
         obtain⟨w9,kn9,hw,hkk,hb,hs1,HBn⟩:=newb wz #[.int .i64 4,.int .i64 (q.body.ln:Nat),.int .i64 (q.body.cl:Nat)] 36;have hkk2:=hkk.symm;have HBB:=h_ hb;clear hb hs1 hkk;have hr6:=HRO.out.below HBB.out;have HR6:=h_ hr6;have HB6:Hid (ke+1<=w9.heap.size):=h_ (by have:=HBB.out.size;have:=lt_of_block HBe.out;omega);clear hr6
         go_upto_region 48 with (first | (at_builtin;refine El.Row.appendF (E:=fltE) HR6.out rfl (.tmp 199) (.tmp 201) 32 rfl Tryz.underlying32 infoFlt rfl rfl (4,q.body.ln,q.body.cl) kn9 36 rfl HBn.out trivial (by have:=HLN.out;have:=HQN.out;have:=HFN.out;(try have:=HRN1.out);(try simp only[lsa,List.length_singleton]);omega) (by have:=HLN.out;have:=HQN.out;have:=HFN.out;(try have:=HRN1.out);(try simp only[lsa,List.length_singleton]);omega) HB6.out ?_;intro ov10 w10 hrow hgw hfr;have HRN:=h_ hrow;have HGW:=h_ hgw;have HFR:=h_ hfr;clear hrow hgw hfr) | fail)
         clear x0 x1 x2;clear hw hkk2;replace HBe:=kB HBB.out HBe;replace HBf:=kB HBB.out HBf;replace HBx:=kB HBB.out HBx;replace HBW:=h_ (HBW.out.trans (HBB.out.mono HBW.out.size));replace HRO:=h_ (HRO.out.below HBB.out);replace HBe:=HR6.out.kR HGW.out (by omega) HBe;have hoq:=freshO HFR.out HOf.out (lt_of_block HBf.out);replace HBf:=kO HGW.out HOf.out HBf;clear HOf;have HOf:=h_ hoq;clear hoq;have hoq:=freshO HFR.out HOx.out (lt_of_block HBx.out);replace HBx:=kO HGW.out HOx.out HBx;clear HOx;have HOx:=h_ hoq;clear hoq;replace HBW:=h_ (⟨HGW.out.os.trans HBW.out.os,HGW.out.tape.trans HBW.out.tape,HGW.out.output.trans HBW.out.output,Nat.le_trans HBW.out.size HGW.out.size,fun g hg=>(HGW.out.block g (by have:=HBW.out.size;omega) (fun e=>by have:=(HR6.out.ge e.symm).1;omega)).trans (HBW.out.block g hg)⟩:Below w.heap.size w w10)
         clear HRO HR6 HB6 HBB HBn HGW HFR;have HRO:=HRN;clear HRN;have HLX:Hid (L8++[((4,q.body.ln,q.body.cl):Flt)]=L5++(p.fs.take (j+1)).flatMap (fFun (fndF p.fs))):=h_ (by rw[fm_take _ _ j hjp,HQJ.out,fFun,HRL.out,show bod (fndF p.fs) q=((4,q.body.ln,q.body.cl):Flt) from by unfold bod;rw[<-HRR.out];exact if_neg HB1.out,HL8.out,HL7.out,HL6.out];simp only[List.append_assoc]);have HLY:Hid ((L8++[((4,q.body.ln,q.body.cl):Flt)]).length<=200001*qs.length+100000*fs.length+1+200002*(j+1)):=h_ (by rw[lsa,List.length_singleton];have:=HLN.out;have:=HRN1.out;omega);go_wp2_with fail
         go_roundw
         case rel=>exact⟨j+1,_,by go_num,hi,HLX,HLY,HRO,HBe,HBW⟩
         case measure=>simp[intOf];omega
       )
     have hjj:j=fs.length:=by omega
     subst hjj;have HLZ:Hid (L6=flts p):=h_ (by rw[HL6.out,HL5.out,HL.out,<-HPQ.out,<-HPF.out,List.take_length];rfl);go_wp2_with fail
     go_ret
     exact⟨_,rfl,by rw[<-HLZ.out];exact HRO.out.at (fun _ _=>trivial) (fun _ _=>trivial),HBW.out⟩
   intro key;have KEY:=h_ key;clear hK1 key;have hor:mb=true\/mb=false:=by cases mb<;>simp
   rcases hor with h1 | h1
   ·subst h1;go_wp2_with fail
    have HLX:Hid (L2=L++(List.range fs.length).flatMap (fDup p.fs)++(if hasMain p then [] else [((5,1,1):Flt)])):=h_ (by rw[<-HMN.out,HL2.out];simp);have HLY:Hid ((L2).length<=200001*qs.length+100000*fs.length+1):=h_ (by have:=HLN.out;omega);exact KEY.out _ _ ⟨.bool true,.bool false,undef,undef,undef,undef,u3,_,by simp only[List.setIfInBounds_toArray,List.set_cons_succ,List.set_cons_zero],HLX,HLY,HRO,HBe,HBW⟩
   subst h1;go_upto_region 31 with fail
   obtain⟨w4,kn9,hw,hkk,hb,hs1,HBn⟩:=newb wl #[.int .i64 5,.int .i64 1,.int .i64 1] 36;have hkk2:=hkk.symm;have HBB:=h_ hb;clear hb hs1 hkk;have hr6:=HRO.out.below HBB.out;have HR6:=h_ hr6;have HB6:Hid (ke+1<=w4.heap.size):=h_ (by have:=HBB.out.size;have:=lt_of_block HBe.out;omega);clear hr6;go_wp2_with (first | (at_builtin;refine El.Row.appendF (E:=fltE) HR6.out rfl (.tmp 114) (.tmp 116) 32 rfl Tryz.underlying32 infoFlt rfl rfl (5,1,1) kn9 36 rfl HBn.out trivial (by have:=HLN.out;have:=HQN.out;have:=HFN.out;(try have:=HRN1.out);(try simp only[lsa,List.length_singleton]);omega) (by have:=HLN.out;have:=HQN.out;have:=HFN.out;(try have:=HRN1.out);(try simp only[lsa,List.length_singleton]);omega) HB6.out ?_;intro ov5 w5 hrow hgw hfr;have HRN:=h_ hrow;have HGW:=h_ hgw;have HFR:=h_ hfr;clear hrow hgw hfr) | fail)
   clear hw hkk2;replace HBe:=kB HBB.out HBe;replace HBW:=h_ (HBW.out.trans (HBB.out.mono HBW.out.size));replace HRO:=h_ (HRO.out.below HBB.out);replace HBe:=HR6.out.kR HGW.out (by omega) HBe;replace HBW:=h_ (⟨HGW.out.os.trans HBW.out.os,HGW.out.tape.trans HBW.out.tape,HGW.out.output.trans HBW.out.output,Nat.le_trans HBW.out.size HGW.out.size,fun g hg=>(HGW.out.block g (by have:=HBW.out.size;omega) (fun e=>by have:=(HR6.out.ge e.symm).1;omega)).trans (HBW.out.block g hg)⟩:Below w.heap.size w w5);clear HRO HR6 HB6 HBB HBn HGW HFR;have HRO:=HRN;clear HRN;have HLX:Hid (L2++[((5,1,1):Flt)]=L++(List.range fs.length).flatMap (fDup p.fs)++(if hasMain p then [] else [((5,1,1):Flt)])):=h_ (by rw[<-HMN.out,HL2.out];simp)
   have HLY:Hid ((L2++[((5,1,1):Flt)]).length<=200001*qs.length+100000*fs.length+1):=h_ (by rw[lsa,List.length_singleton];have:=HLN.out;omega);exact KEY.out _ _ ⟨.bool false,.bool true,u3,.agg #[.int .i64 5,.int .i64 1,.int .i64 1],.slice (some ⟨kn9,0,none⟩) 1 1,ov5,ov5,_,by simp only[List.setIfInBounds_toArray,List.set_cons_succ,List.set_cons_zero],HLX,HLY,HRO,HBe,HBW⟩
end Go.Proofs.YtpclhpfcbjgokaaGreatDoor
namespace Go.Proofs.YtpclhpfcbjgokaaGreatDoor
open Go.RowKit
set_option maxRecDepth 1000000
set_option linter.unusedVariables false
theorem fst_at {l:List Flt} {j:Nat} (hj:j<l.length) (h:∀ i (hi:i<l.length),i<j->l[i].1=0) (hn:l[j].1≠0):fstF l=some l[j]:=by
 unfold fstF;rw[List.find?_eq_some_iff_append];refine⟨by simpa using hn,l.take j,l.drop (j+1),?_,?_⟩
 ·have h2:=List.take_append_drop j l;rw[List.drop_eq_getElem_cons hj] at h2;exact h2.symm
 intro a ha;obtain⟨i,hi,rfl⟩:=List.mem_iff_getElem.1 ha;rw[List.length_take] at hi;rw[List.getElem_take]
 simpa using h i (by omega) (by omega)
theorem fst_not {l:List Flt} {j:Nat} (hj:l.length<=j) (h:∀ i (hi:i<l.length),i<j->l[i].1=0):fstF l=none:=by
 unfold fstF;rw[List.find?_eq_none];intro a ha;obtain⟨i,hi,rfl⟩:=List.mem_iff_getElem.1 ha
 simpa using h i hi (by omega)
theorem scopeChecks_long (l:Bs) (w:World) (hl:3000<l.length) (hm:l.length<=maxLen) (hop:OpsAt w) (hg:ErrType w) (hA:ArT w) :
  Calls Tryz.prog 3 #[.string ⟨l.toArray⟩] w fun e w'=>e=.returned (.bool true)/\Below w.heap.size w w':=by
 have hsz:(⟨l.toArray⟩:ByteArray).size=l.length:=rfl;unfold maxLen at hm;have HO:=h_ hop;have HG:=h_ hg;have HA:=h_ hA;clear hop hg hA;go_enter Tryz.func3,Tryz.ntmps3
 go_wp2_with fail
 refine (fit_p w HO.out HG.out HA.out).mono ?_;rintro e w1 ⟨rfl,hb⟩;have HB:=h_ hb;clear hb;go_wp2_with fail
 go_ret
 exact⟨rfl,HB.out⟩
theorem scopeChecks_short (l:Bs) (w:World) (hl:l.length<=3000) (hop:OpsAt w) (hg:ErrType w) (hA:ArT w) :
  Calls Tryz.prog 3 #[.string ⟨l.toArray⟩] w fun e w'=>e=.returned (.bool true)/\Below w.heap.size w w':=by
 have hsz:(⟨l.toArray⟩:ByteArray).size=l.length:=rfl;have hd3:decide ((3000:Int)<(l.length:Int))=false:=by simp;omega
 obtain⟨r,q1,q2⟩:=prog_told l hl;have HEX:Hid (∀ w',OpsAt w'->Calls Tryz.prog 6 #[.string ⟨l.toArray⟩] w' (PgPost l r w')):=h_ (fun w' ho=>parse_p 3001 24015 (by decide) l r w' (by omega) ho q1);have HC:=h_ q2;have HG:=h_ hg;have HO:=h_ hop;have HA:=h_ hA;clear hop hg hA q1 q2;go_enter Tryz.func3,Tryz.ntmps3
 go_wp2_with fail
 refine (fit_p w HO.out HG.out HA.out).mono ?_;rintro e w1 ⟨rfl,hb⟩;have HB:=h_ hb;clear hb;go_wp2_with fail
 refine (HEX.out w1 (HO.out.below HB.out)).mono ?_;rintro e w2 ⟨hb,hp⟩;have HP:=h_ hp;have HB2:=bw_ HB hb;clear hb hp HEX hd3 hsz hl;rcases HP.out with ⟨f,ev,hf,rfl,q,rfl,hA⟩ | ⟨hn,vq,vf,rfl,hu⟩
 ·clear hA hf HP;go_upto_region 6 with fail
  obtain⟨w3,kb,hw,hkk,hb,hs1,HK3⟩:=newb w2 #[.slice none 0 0,.slice none 0 0] 26;rw[hw,<-hkk];have HB3:=bw_ HB2 hb;clear hw hb hkk hs1;go_wp2_with fail
  go_ret
  exact⟨rfl,HB3.out⟩
 obtain⟨hb1,hb2,hb3⟩:=HC.out hn;have HU:=h_ hu;have HB1:=h_ hb1;have HD1:=h_ hb2;have HS1:=h_ hb3;obtain⟨qs,fs,hqs,hfs,⟨qo,qc,rfl,-⟩,⟨fo,fc,rfl,-⟩⟩:=hu;clear hn hb1 hb2 hb3 HP HC hqs hfs;go_upto_region 6 with fail
 obtain⟨w3,kb,hw,hkk,hb,hs1,HK3⟩:=newb w2 #[.slice qo qs.length qc,.slice fo fs.length fc] 26;rw[hw,<-hkk];have HB3:=bw_ HB2 hb;replace HU:=h_ (HU.out.belowW hb);clear hw hb hkk hs1;obtain⟨c0,c1⟩:=cl2 HK3.out;go_wp2_with fail
 clear c0 c1;refine (check_s w3 _ _ _ r.1 HU.out HB1.out HD1.out HS1.out (HA.out.below HB3.out)).mono ?_;rintro e w4 ⟨ev,rfl,hev,hb⟩;replace HK3:=kB hb HK3;replace HU:=h_ (HU.out.belowW hb);have HB4:=bw_ HB3 hb;rw[prog_t] at hev;have HEV:=h_ hev;clear hb hev;obtain⟨c0,c1⟩:=cl2 HK3.out;go_wp2_with fail
 clear c0 c1;refine (faults_l w4 _ _ _ r.1 HU.out HB1.out HD1.out HS1.out).mono ?_;rintro e w5 ⟨v,rfl,hat,hb⟩;have HB5:=bw_ HB4 hb;have HB45:=h_ hb;obtain⟨L,hL⟩:∃ z,z=flts r.1:=⟨_,rfl⟩
 rw[<-hL] at hat HEV;have H5:Hid (∀ e ∈ L,e.1<=5):=h_ (by rw[hL];exact flts_5 r.1);obtain⟨ko,kc,rfl,⟨hk1,hk2⟩,-,hel⟩:=hat;have hkl:L.length<=9223372036854775807:=Nat.le_trans hk1 hk2;have HEL:=h_ hel
 have HEV5:Hid (ErAt w5 ev (fstF L)):=h_ (by
  have h:=HEV.out
  cases hf:fstF L with
  | none=>rw[hf] at h;exact h
  | some f=>rw[hf] at h;exact h.below HB45.out)
 clear hb hL hk1 hk2 hel HEV HK3 HU;have HNO:Hid (∀ i (hi:i<L.length),i<0->L[i].1=0):=h_ (fun _ _ h=>absurd h (Nat.not_lt_zero _));have HBW:=h_ (Below.refl w5.heap.size w5);go_wp2_with fail
 go_loopw [28] (fun i wr=>∃ (j:Nat),i=.int .i64 (j:Nat)/\j<=L.length/\Hid (∀ i (hi:i<L.length),i<j->L[i].1=0)/\Hid (Below w5.heap.size w5 wr)) (fun i _=>L.length - (intOf i).toNat)
 case atStart=>exact⟨0,rfl,Nat.zero_le _,HNO,HBW⟩
 case round =>
  obtain⟨wl,hwl⟩:∃ q,q=wr:=⟨_,rfl⟩
  subst hwl;clear HNO HBW;obtain⟨j,rfl,hj,HNO,HBW⟩:=hrel
  by_cases hi:j<L.length
  ·obtain⟨⟨a,rfl,hc⟩,-⟩:=HEL.out j hi;obtain⟨f,hf⟩:∃ z,z=L[j]:=⟨_,rfl⟩
   rw[<-hf] at hc
   have hcw:∀ q v,[Value.int .i64 (f.1:Nat),.int .i64 (f.2.1:Nat),.int .i64 (f.2.2:Nat)][q]?=some v->wl.cell? ((a.add (j*3)).add q)=some v:=fun q v hv=>by
    have:=hc q v hv;rw[show (a.add (j*3)).add q=(a.add (j*fltE.n)).add q from rfl,HBW.out.cell (cell_lt this)];exact this
   have z0:=hcw 0 _ rfl;have z1:=hcw 1 _ rfl;have z2:=hcw 2 _ rfl;rw[addr_add0] at z0;rw[show (a.add (j*3)).add 1=⟨(a.add (j*3)).block,(a.add (j*3)).off+1,none⟩ from rfl] at z1;rw[show (a.add (j*3)).add 2=⟨(a.add (j*3)).block,(a.add (j*3)).off+2,none⟩ from rfl] at z2;have HF:=h_ hf;clear hc hcw hf;obtain⟨f0,f1,f2⟩:=f;simp only at z0 z1 z2;go_upto_region 12 with fail
   obtain⟨w6,kf,hw,hkk,hb,hs1,HBf⟩:=newb wl #[.int .i64 (f0:Nat),.int .i64 (f1:Nat),.int .i64 (f2:Nat)] 36;rw[hw,<-hkk];replace HBW:=bw_ HBW hb;clear hw hkk hb hs1 z0 z1 z2;have c0:=cell_at (v:=.int .i64 (f0:Nat)) HBf.out 0 rfl
   by_cases h0:f0=0
   ·have hq:(((f0:Nat):Int) != 0)=false:=by rw[bne_eq_false_iff_eq];omega
    have H0:=h_ h0;clear h0;go_wp2_with fail
    go_roundw
    case rel=>exact⟨j+1,by go_num,hi,h_ (fun i hi2 h=>by
     rcases Nat.lt_succ_iff_lt_or_eq.1 h with h | h
     ·exact HNO.out i hi2 h
     subst h;rw[<-HF.out];exact H0.out),HBW⟩
    case measure=>simp[intOf];omega
   have hq:(((f0:Nat):Int) != 0)=true:=by rw[bne_iff_ne];omega
   have hfs:=fst_at hi HNO.out (by rw[<-HF.out];exact h0);rw[<-HF.out] at hfs;have hev:=HEV5.out;rw[hfs] at hev;have h5:f0<=5:=by have:=H5.out _ (List.getElem_mem hi);rw[<-HF.out] at this;exact this
   have HEA:=h_ (AtF.below hev HBW.out);have HFU:=h_ (fault_er (f:=(f0,f1,f2)) HEA.out h0 h5 (HG.out.below (HB5.out.trans (HBW.out.mono HB5.out.size))));clear hfs hev h5 h0;go_upto_region 13 with fail
   clear c0 hq;go_wp2_with fail
   refine HFU.out.mono ?_;rintro e w7 ⟨rfl,hb⟩;replace HBf:=kB hb HBf;have HB7:=h_ (HB5.out.trans ((HBW.out.trans (hb.mono HBW.out.size)).mono HB5.out.size));obtain⟨q,rfl,-⟩:=HEA.out;clear hb HFU;simp only;obtain⟨c0,c1,c2⟩:=cl3 HBf.out;go_wp2_with fail
   go_ret
   exact⟨rfl,HB7.out⟩
  have hfs:=fst_not (by omega) HNO.out;have hev:=HEV5.out;rw[hfs] at hev;have hev:ev=.nilIface:=hev;subst hev;clear hfs;go_wp2_with fail
  go_ret
  exact⟨rfl,HB5.out.trans (HBW.out.mono HB5.out.size)⟩
theorem scopeChecks_walk (s:ByteArray) (w:World) (hm:s.size<=maxLen) (hop:OpsAt w) (hg:ErrType w) (hA:ArT w) :
  Calls Tryz.prog 3 #[.string s] w fun e w'=>e=.returned (.bool true)/\Below w.heap.size w w':=by
 obtain⟨l,rfl⟩:∃ l:Bs,s=⟨l.toArray⟩:=⟨s.data.toList,rfl⟩
 have hsz:(⟨l.toArray⟩:ByteArray).size=l.length:=rfl
 by_cases hl:l.length<=3000
 ·exact scopeChecks_short l w hl hop hg hA
 exact scopeChecks_long l w (by omega) (by omega) hop hg hA
end Go.Proofs.YtpclhpfcbjgokaaGreatDoor
namespace Go.Proofs.YtpclhpfcbjgokaaGreatDoor
open Go.ChangeShapes Go.WideShapes Go.ChangeAt Go.RowKit
set_option maxRecDepth 100000
theorem own:ownKnob Tryz.prog.godebug=none:=by kernel_rfl
theorem laidOut:laidOutB Tryz.prog=true:=by kernel_rfl
theorem errGlobal : Tryz.prog.globalNamed "errors.errorType" = some 0 := by kernel_rfl
theorem rtypeRow : (Tryz.prog.cutTypes.find? (·.1 == "internal/reflectlite.rtype")).map (·.2) = some 147 := by kernel_rfl
theorem errRow:((List.range Tryz.prog.types.size).filter fun t=>Tryz.prog.rowNamed t [101,114,114,111,114])=[28]:=by kernel_rfl
theorem gOps : (Tryz.prog.globalNamed "litmus/parse.operators").bind (fun g => (Tryz.prog.globals[g]?).map fun x => (Tryz.prog.underlying x.type, Tryz.prog.cellsOf x.type)) = some (some (.array 14 176), 70) := by kernel_rfl
theorem nOps : Tryz.prog.globalNamed "litmus/parse.operators" = some 2 := by kernel_rfl
theorem cells5Op:Tryz.prog.cellsOf 176=5:=by kernel_rfl
theorem cells1Int:Tryz.prog.cellsOf 3=1:=by kernel_rfl
theorem cells1Str:Tryz.prog.cellsOf 9=1:=by kernel_rfl
theorem cells1Kind:Tryz.prog.cellsOf 41=1:=by kernel_rfl
def opD (op:Bop):DataW Unit:=.agg [.lit (.string op.sign),.lit (.int .i64 (op.kind:Nat)),.lit (.int .i64 (op.level:Nat)),.lit (.int .i64 (op.left:Nat)),.lit (.int .i64 (op.right:Nat))]
theorem opsData:(Rows.laid_litmus_parse_operators:DataW Unit)=.agg (bops.map opD):=by rfl
theorem op_cells {enc:TypeId × Value->Unit} {w:World} {base:Nat} {sp:Nat->Bool} {held:Bool} {fuel:Nat} {cs:List Value} {y:DataW Unit × List MemPlace} {op:Bop}
  (h:DataW.trod enc Tryz.prog w base sp held fuel 176 cs=some y) (hy:y.1=opD op):cs=opC op:=by
 obtain⟨xs,n,rfl,rfl,hl,hx,hf⟩:=DataW.trod_struct Tryz.underlying176 h;have h0:DataW.trod enc Tryz.prog w base sp held n 9 ((cs.drop 0).take (Tryz.prog.cellsOf 9))=xs[0]?:=hf 0 _ rfl;have h1:DataW.trod enc Tryz.prog w base sp held n 41 ((cs.drop 1).take (Tryz.prog.cellsOf 41))=xs[1]?:=hf 1 _ rfl;have h2:DataW.trod enc Tryz.prog w base sp held n 3 ((cs.drop 2).take (Tryz.prog.cellsOf 3))=xs[2]?:=hf 2 _ rfl;have h3:DataW.trod enc Tryz.prog w base sp held n 3 ((cs.drop 3).take (Tryz.prog.cellsOf 3))=xs[3]?:=hf 3 _ rfl;have h4:DataW.trod enc Tryz.prog w base sp held n 3 ((cs.drop 4).take (Tryz.prog.cellsOf 3))=xs[4]?:=hf 4 _ rfl;rw[cells5Op] at hl
 match xs,hx with
 | [a0,a1,a2,a3,a4],_ =>
  match cs,hl with
  | [c0,c1,c2,c3,c4],_ =>
   simp only[gsz,gsc] at h0 h1 h2 h3 h4;simp only[opD,List.map_cons,List.map_nil,DataW.agg.injEq,List.cons.injEq,and_true] at hy;obtain⟨y0,y1,y2,y3,y4⟩:=hy;obtain⟨s0,e0,rfl,_⟩:=DataW.trod_string Tryz.underlying9 h0;obtain⟨s1,e1,rfl,_⟩:=DataW.trod_int Tryz.underlying41 h1;obtain⟨s2,e2,rfl,_⟩:=DataW.trod_int Tryz.underlying3 h2;obtain⟨s3,e3,rfl,_⟩:=DataW.trod_int Tryz.underlying3 h3;obtain⟨s4,e4,rfl,_⟩:=DataW.trod_int Tryz.underlying3 h4;simp only[cells1Int,cells1Str,cells1Kind,List.drop_zero,List.take_succ_cons,List.take_zero,List.drop_succ_cons,List.cons.injEq,and_true] at e0 e1 e2 e3 e4;simp only[DataW.lit.injEq,Lit.string.injEq,Lit.int.injEq,true_and] at y0 y1 y2 y3 y4;subst e0 e1 e2 e3 e4;rw[y1,y2,y3,y4];unfold opC;rw[<-y0]
theorem cells_of_ops {enc:TypeId × Value->Unit} {w:World} {base:Nat} {sp:Nat->Bool} {held:Bool} {fuel:Nat} {t:TypeId} {cs:List Value} {l:List Bop} {p:List MemPlace} {n:Nat}
  (ht:Tryz.prog.underlying t=some (.array n 176)) (hct:Tryz.prog.cellsOf t=n*5)
  (h:DataW.trod enc Tryz.prog w base sp held fuel t cs=some (.agg (l.map opD),p)):cs=l.flatMap opC:=by
 obtain⟨xs,m,rfl,he,hl,hx,hf⟩:=DataW.trod_array ht h;rw[hct] at hl;rw[cells5Op] at hf;have hxs:l.map opD=xs.map (·.1):=by injection he with he _;injection he
 have hln:l.length=n:=by have:=congrArg List.length hxs;simp at this;omega
 clear h he hct ht;clear hx
 induction l generalizing cs xs n with
 | nil=>simp at hln;subst hln;simpa using hl
 | cons op l ih =>
  match xs,hxs with
  | a::xs,hxs =>
   match n,hln with
   | n+1,hln =>
    simp only[List.map_cons,List.cons.injEq] at hxs;have h0:=hf 0 (by omega);simp only[Nat.zero_mul,List.drop_zero,gsz] at h0;have hc:=op_cells h0 hxs.1.symm
    have:=ih (cs:=cs.drop 5) (xs:=xs) (n:=n) (by rw[List.length_drop,hl];omega) (fun i hi=>by
     have:=hf (i+1) (by omega);simp only[gsc] at this
     rw[List.drop_drop,show 5+i*5=(i+1)*5 by omega];exact this) hxs.2 (by simpa using hln)
    rw[List.flatMap_cons,<-this,<-hc,List.take_append_drop]
theorem gArs7 : (Tryz.prog.globalNamed "litmus/tree.arities").bind (fun g => (Tryz.prog.globals[g]?).map fun x => (Tryz.prog.underlying x.type, Tryz.prog.cellsOf x.type)) = some (some (.array 29 3), 29) := by kernel_rfl
theorem nArs7 : Tryz.prog.globalNamed "litmus/tree.arities" = some 1 := by kernel_rfl
def arTab7:List Int:=(List.range 29).map arW
theorem arData7:(Rows.laid_litmus_tree_arities:DataW Unit)=Lib.tabData .i64 arTab7:=by rfl
theorem ops_of_var {W : World} {g : Nat} {t : TypeId} {cs : Array Value} {fuel : Nat} {p : List MemPlace} (hg : Tryz.prog.globalNamed "litmus/parse.operators" = some g) (ht : (Tryz.prog.globals[g]?).map (·.type) = some t) (hvar : W.var? Tryz.prog "litmus/parse.operators" = some cs)
  (hd:DataW.trod (fun _=>()) Tryz.prog W 0 (fun _=>true) false fuel t cs.toList=some (Rows.laid_litmus_parse_operators,p)):OpsAt W:=by
 have e:=gOps;rw[hg,Option.bind_some] at e;obtain⟨x,hx,ex⟩:=Option.map_eq_some_iff.1 e;rw[hx,Option.map_some] at ht;injection ht with ht;injection ex with e1 e2;rw[ht] at e1 e2;have hc:=cells_of_ops e1 (by rw[e2]) (opsData ▸ hd);intro j v hv;rw[World.var?_cell nOps hvar j];have:cs[j]?=cs.toList[j]?:=by simp
 rw[this,hc];exact hv
theorem laid_all {W:World} (h:laidMetH Tryz.prog Rows.scopeBasesRow.laid W):OpsAt W/\ArT W:=by
 have h1 : laidMet Tryz.prog [("litmus/tree.arities", Rows.laid_litmus_tree_arities), ("litmus/parse.operators", Rows.laid_litmus_parse_operators)] W := (laidMetH_iff.1 h).1;obtain ⟨_, ⟨g1, t1, cs1, fuel1, p1, q1, hg1, ht1, hvar1, hd1, ⟨g2, t2, cs2, fuel2, p2, q2, hg2, ht2, hvar2, hd2, _, _⟩, _⟩, _⟩ := h1;refine ⟨ops_of_var hg2 ht2 hvar2 hd2, fun i hi => ?_⟩;have e := gArs7;rw [hg1, Option.bind_some] at e;obtain ⟨x, hx, ex⟩ := Option.map_eq_some_iff.1 e;rw [hx, Option.map_some] at ht1;injection ht1 with ht1;injection ex with e1 e2;rw [ht1] at e1 e2;have hc := Lib.cells_of_tab e1 Tryz.underlying3 cells1Int e2 (arData7 ▸ hd1);rw [World.var?_cell nArs7 hvar1 i];have : cs1[i]? = cs1.toList[i]? := by simp
 rw[this,hc];unfold arTab7
 simp[hi]
theorem ops_of_laid {W:World} (h:laidMetH Tryz.prog Rows.scopeBasesRow.laid W):OpsAt W:=(laid_all h).1
theorem ar_of_laid {W:World} (h:laidMetH Tryz.prog Rows.scopeBasesRow.laid W):ArT W:=(laid_all h).2
theorem err_of_laid {W:World} (h:laidMetH Tryz.prog Rows.scopeBasesRow.laid W):ErrType W:=by
 have h' : handlesMet Tryz.prog [("errors.errorType", Rows.laid_errors_errorType)] W := (laidMetH_iff.1 h).2;obtain ⟨name, u, ty, e1, e2, e3, e4, e5⟩ := h' _ (List.mem_singleton.2 rfl);have en : name = [101, 114, 114, 111, 114] := (Option.some.inj e1).symm;subst en;obtain rfl := Option.some.inj (rtypeRow.symm.trans e2);have hm : ty ∈ (List.range Tryz.prog.types.size).filter fun t => Tryz.prog.rowNamed t [101, 114, 114, 111, 114] := List.mem_filter.2 ⟨List.mem_range.2 e3, e4⟩
 rw[errRow] at hm;obtain rfl:=List.mem_singleton.1 hm;have hh:typeHandle Tryz.prog 28=.pointer (some ⟨Tryz.prog.globals.size,28,none⟩):=by kernel_rfl
 rw[hh,gSize] at e5;unfold ErrType
 simpa using World.var?_cell errGlobal e5 0
noncomputable def laidWorld (os:Os):World:=
 let w0:=World.doorLaid Tryz.prog 4000 os
 { w0 with heap:=w0.heap.modify 0 fun
   | .cells _ t frozen=>.cells #[.iface 147 (.agg #[.pointer (some ⟨Tryz.prog.globals.size,28,none⟩)])] t frozen
   | o=>o }
theorem laid_met (os:Os) (args:Array Value):laidMetH Tryz.prog Rows.scopeBasesRow.laid ((laidWorld os).forCall (fun _ _=>0) ⟨#[],args,[]⟩).memory:=
 laidMetH_of_parts (laidMet_of_run' 24 (by kernel_rfl) (by kernel_rfl)) (by kernel_rfl)
end Go.Proofs.YtpclhpfcbjgokaaGreatDoor
