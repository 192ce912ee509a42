/-
 Joined texts: PsPh,PsPi,PsPj,PsPk,ScE,ScF,ScG,ScH.
-/
import Derived.Deep.WholeRow
import Derived.Test.YtkocdbgmckdcpaaGreatDoorJScopeSites6
set_option maxHeartbeats 32000000
namespace Go.Proofs.YtkocdbgmckdcpaaGreatDoor
open Go.RowKit
set_option maxRecDepth 100000
set_option linter.unusedVariables false
def fnC (q:FnU) (v:Value) (x y:X):List Value:=[.string ⟨q.nm.toArray⟩,v,.string ⟨q.res.nm.toArray⟩,.int .i64 (q.res.b:Nat),.bool q.res.kn,.int .i64 x.k,.string x.nm,.string x.ot,.bool x.b,.slice x.ao x.n x.c,.slice x.ko x.kn x.kc,.int .i64 x.ln,.int .i64 x.cl,.int .i64 (q.res.ln:Nat),.int .i64 (q.res.cl:Nat),.int .i64 y.k,.string y.nm,.string y.ot,.bool y.b,.slice y.ao y.n y.c,.slice y.ko y.kn y.kc,.int .i64 y.ln,.int .i64 y.cl,.int .i64 (q.ln:Nat),.int .i64 (q.cl:Nat)]
theorem wp_build_any {P:Program} {op:Oper} {a:Act} {w:World} {K:Act->World->Prop} {Q:Exit->Act->World->Prop} (ty:TypeId) (parts:Array (Nat × Operand)) (v:Value) (ho:op.op=.build ty parts) (vals:Array (Nat × Value)) (hv:(parts.map fun (i,x)=>(i,a.eval x))=vals) (hr:(Instr.build ty vals).run P w=.ok v w) (h:K (a.put op.dst v) w):op.wp P a w K Q:=by
 unfold Oper.wp execOp;simp only[ho,hv,Sem.run_bind,hr,Sem.run_pure,Result.andThen_ok];exact h
theorem res_cell {P:Program} {fn:Func} {T:Array Value} {w:World} {t:Tmp} {ty:TypeId} (hr:fn.results=#[.cell t ty]) {p:Addr} (hT:T[t]?=some (.pointer (some p))) (cs:List Value) {d:TypeDesc} (hc:∀ j v,cs[j]?=some v->w.cell? (p.add j)=some v)
  (hu:P.underlying ty=some d) (hd:d.isRow=true) (hi:(P.info? ty).map (·.size)=some cs.length):(results fn T).run P w=.ok (.agg cs.toArray) w:=by
 have hl:=run_loadCells_list (P:=P) w p cs hc
 cases hq:P.info? ty with
 | none=>simp[hq] at hi
 | some i =>
  have hs:i.size=cs.length:=by simpa [hq] using hi
  have hagg:(isAgg ty).run P w=.ok true w:=by
   unfold isAgg;rw[Sem.run_bind,run_underlying hu w]
   cases d<;>simp_all
  unfold results;rw[hr]
  simp[go_sem,asAddr,hT,hagg,sizeOf,typeInfo,hq,hs]
  simp[loadCells] at hl
  rw[hl];rfl
theorem grown_setRow (w:World) (g:Nat) (cs:Array Value):w.grownBy (w.setRow g cs) (some g):=⟨rfl,rfl,rfl,by simp[World.setRow],fun k hk hn=>setRow_other w g k cs (fun e=>hn (by rw[e]))⟩
theorem build_fun (l:ByteArray) (x y:Int) (w:World):(Instr.build 50 #[(0,.string l),(4,.int .i64 x),(5,.int .i64 y)]).run Tryz.prog w=.ok (.agg #[.string l,.slice none 0 0,.string ⟨#[]⟩,.int .i64 0,.bool false,.int .i64 0,.string ⟨#[]⟩,.string ⟨#[]⟩,.bool false,.slice none 0 0,.slice none 0 0,.int .i64 0,.int .i64 0,.int .i64 0,.int .i64 0,.int .i64 0,.string ⟨#[]⟩,.string ⟨#[]⟩,.bool false,.slice none 0 0,.slice none 0 0,.int .i64 0,.int .i64 0,.int .i64 x,.int .i64 y]) w:=by kernel_rfl
theorem kK {w w':World} {g kf B k:Nat} {o:Obj} (h:Kept w w' g kf B) (hb:Hid (w.heap[k]?=some o)) (h1:k<B) (h2:k≠g) (h3:k≠kf):Hid (w'.heap[k]?=some o):=h_ ((h.2.2.2.2 k (lt_of_block hb.out) h1 h2 h3).trans hb.out)
theorem dK {we w w':World} {g kf B:Nat} (h:Kept w w' g kf B) (hd:Hid (we.grownBy w (some g))) (h1:we.heap.size<=kf) (h2:we.heap.size<=B):Hid (we.grownBy w' (some g)):=by
 have hd:=hd.out;exact h_ ⟨h.1.trans hd.os,h.2.1.trans hd.tape,h.2.2.1.trans hd.output,Nat.le_trans hd.size h.2.2.2.1,fun k hk hn=>(h.2.2.2.2 k (Nat.lt_of_lt_of_le hk hd.size) (by omega) (fun e=>hn (by rw[e])) (by omega)).trans (hd.block k hk hn)⟩
theorem fun_p (m n:Nat) (hn:n<=1000000) (g count:Nat) (hcn:count<=1000000) (s:St) (r:FnU × St) (w:World) (hps:PS w g s) (hop:GOps w g) (hc:cFun m n count s=some r) :
  Calls Tryz.prog 35 #[.pointer (some ⟨g,0,none⟩),.int .i64 (count:Nat)] w fun e w'=>∃ x y v,e=.returned (.agg (fnC r.1 v x y).toArray)/\Um w' (fun k=>w.heap.size<=k) x r.1.res.ref/\Um w' (fun k=>w.heap.size<=k) y r.1.body/\PmsAt w' (fun k=>w.heap.size<=k) v r.1.ps/\Did w g r.2 w':=by
 have HP:=h_ hps;have HOP:=h_ hop;have hgN:=hps.lt;have hql0:=hps.2;clear hps hop;unfold cFun at hc;simp only[Option.bind_eq_some_iff] at hc;obtain⟨ra,hm,rt,ht,q,hq,hc⟩:=hc;injection hc with hc;subst hc;have HM:=h_ hm;have HQ:=h_ hq;have HTT:=h_ ht;clear hm hq ht;have hmf:∀ (fn:Fn) (first cap:Array Value) (w:World),(Instr.makeFunc fn first cap).run Tryz.prog w=.ok (.func fn first cap) w:=fun _ _ _ _=>rfl
 go_enter Tryz.func35,Tryz.ntmps35
 go_upto_region 1 with fail
 obtain⟨w1,kb,hw,hkk,hb,hs1,HBb⟩:=newb w #[.pointer (some ⟨g,0,none⟩)] 57;have hgb:g<kb:=by rw[hkk];exact HP.out.lt
 have heb:w.heap.size<=kb:=by omega
 rw[hw,<-hkk,<-hs1];replace HP:=h_ (HP.out.below hb);replace HOP:=h_ (HOP.out.below hb);have HD:=h_ (below_grown hb (some g));have hsz1:=HD.out.size;clear hw hb hkk hs1;obtain⟨w2,kr,hw,hkk,hb,hs1,HBr⟩:=newb w1 #[.string ⟨#[]⟩,.slice none 0 0,.string ⟨#[]⟩,.int .i64 0,.bool false,.int .i64 0,.string ⟨#[]⟩,.string ⟨#[]⟩,.bool false,.slice none 0 0,.slice none 0 0,.int .i64 0,.int .i64 0,.int .i64 0,.int .i64 0,.int .i64 0,.string ⟨#[]⟩,.string ⟨#[]⟩,.bool false,.slice none 0 0,.slice none 0 0,.int .i64 0,.int .i64 0,.int .i64 0,.int .i64 0] 50;have hgr:g<kr:=by rw[hkk];exact HP.out.lt
 have her:w.heap.size<=kr:=by omega
 have hb_r:=lk_ hkk HBb;rw[hw,<-hkk];replace HBb:=kB hb HBb;replace HP:=h_ (HP.out.below hb);replace HOP:=h_ (HOP.out.below hb);replace HD:=dB HD hb;clear hw hb hkk hs1;have c0:=cell_at (v:=.pointer (some ⟨g,0,none⟩)) HBb.out 0 rfl;go_wp2_with fail
 refine (counted_p g count 20 s w2 HP.out hcn (by decide)).mono ?_;rintro e w3 ⟨rfl,hp,hg⟩;clear c0;replace HBb:=kG hg HBb;replace HBr:=kG hg HBr;replace HOP:=h_ (HOP.out.grown hg (by omega));replace HP:=h_ hp;replace HD:=dG HD (hg);have hsz3:=HD.out.size;clear hp hg;simp only[tokV];obtain⟨t,hnx⟩:∃ t,t=St.nx s:=⟨_,rfl⟩
 rw[<-hnx];have HNt:=h_ hnx;clear hnx;go_upto_region 2 with fail
 obtain⟨w4,kt,hw,hkk,hb,hs1,HBt⟩:=newb w3 #[.int .i64 (t.kind:Nat),.string ⟨t.text.toArray⟩,.int .i64 (t.line:Nat),.int .i64 (t.col:Nat)] 97;have hgt:g<kt:=by rw[hkk];exact HP.out.lt
 have het:w.heap.size<=kt:=by omega
 have hb_t:=lk_ hkk HBb;have hr_t:=lk_ hkk HBr;rw[hw,<-hkk];replace HBb:=kB hb HBb;replace HBr:=kB hb HBr;replace HP:=h_ (HP.out.below hb);replace HOP:=h_ (HOP.out.below hb);replace HD:=dB HD hb;have hsz4:=HD.out.size;clear hw hb hkk hs1;obtain⟨c0,c1,c2,c3⟩:=cl4 HBt.out;refine wp_region_lit ?_
 iterate 6 (refine wpList_plain rfl fun K0 hK0=>?_;go_simp;refine hK0 _ _ ?_;clear hK0)
 refine wpList_plain rfl fun K0 hK0=>?_
 refine wp_build_any 50 _ _ rfl _ (by simp only[List.map_toArray,List.map_cons,List.map_nil];rfl) (build_fun ⟨t.text.toArray⟩ (t.line:Nat) (t.col:Nat) _) ?_;refine hK0 _ _ ?_;clear hK0;refine wpList_plain rfl fun K0 hK0=>?_
 go_simp
 refine hK0 _ _ ?_;clear hK0;refine wpList_plain rfl fun K0 hK0=>?_
 refine wp_store_row 50 (.tmp 6) (.tmp 16) rfl w4.heap.size #[.string ⟨t.text.toArray⟩,.slice none 0 0,.string ⟨#[]⟩,.int .i64 0,.bool false,.int .i64 0,.string ⟨#[]⟩,.string ⟨#[]⟩,.bool false,.slice none 0 0,.slice none 0 0,.int .i64 0,.int .i64 0,.int .i64 0,.int .i64 0,.int .i64 0,.string ⟨#[]⟩,.string ⟨#[]⟩,.bool false,.slice none 0 0,.slice none 0 0,.int .i64 0,.int .i64 0,.int .i64 (t.line:Nat),.int .i64 (t.col:Nat)] rfl rfl 50 _ (heap_alloc_last w4 _) (by kernel_rfl) rfl (by simp[Value.oneCell']) ?_;rw[World.setRow_alloc_new];refine hK0 _ _ ?_;clear hK0;clear c0 c1 c2 c3
 obtain⟨w5,kf,hw,hkk,hb,hs1,HBf⟩:=newb w4 #[.string ⟨t.text.toArray⟩,.slice none 0 0,.string ⟨#[]⟩,.int .i64 0,.bool false,.int .i64 0,.string ⟨#[]⟩,.string ⟨#[]⟩,.bool false,.slice none 0 0,.slice none 0 0,.int .i64 0,.int .i64 0,.int .i64 0,.int .i64 0,.int .i64 0,.string ⟨#[]⟩,.string ⟨#[]⟩,.bool false,.slice none 0 0,.slice none 0 0,.int .i64 0,.int .i64 0,.int .i64 (t.line:Nat),.int .i64 (t.col:Nat)] 50;have hgf:g<kf:=by rw[hkk];exact HP.out.lt
 have hef:w.heap.size<=kf:=by omega
 have hb_f:=lk_ hkk HBb;have hr_f:=lk_ hkk HBr;have ht_f:=lk_ hkk HBt;rw[hw,<-hkk];replace HBb:=kB hb HBb;replace HBr:=kB hb HBr;replace HBt:=kB hb HBt;replace HP:=h_ (HP.out.below hb);replace HOP:=h_ (HOP.out.below hb);replace HD:=dB HD hb;have hsz5:=HD.out.size;clear hw hb hkk hs1;have c0:=cell_at (v:=.pointer (some ⟨g,0,none⟩)) HBb.out 0 rfl;go_wp2_with fail
 clear c0;obtain⟨w6,kq1,hw,hkk,hb,hs1,HBq1⟩:=newb w5 #[.string ⟨#[40]⟩] 9;have hgq1:g<kq1:=by rw[hkk];exact HP.out.lt
 have heq1:w.heap.size<=kq1:=by omega
 have hb_q1:=lk_ hkk HBb;have hr_q1:=lk_ hkk HBr;have ht_q1:=lk_ hkk HBt;have hf_q1:=lk_ hkk HBf;rw[hw,<-hkk];replace HBb:=kB hb HBb;replace HBr:=kB hb HBr;replace HBt:=kB hb HBt;replace HBf:=kB hb HBf;replace HP:=h_ (HP.out.below hb);replace HOP:=h_ (HOP.out.below hb);replace HD:=dB HD hb;have hsz6:=HD.out.size;clear hw hb hkk hs1;refine (expect_p g (s.counted count 20) [[40]] kq1 w6 HP.out HBq1.out (by omega) (by decide)).mono ?_;rintro e w7 ⟨⟨v,rfl⟩,hp,hg⟩;replace HBb:=kG hg HBb;replace HBr:=kG hg HBr;replace HBt:=kG hg HBt;replace HBf:=kG hg HBf;replace HBq1:=kG hg HBq1;replace HOP:=h_ (HOP.out.grown hg (by omega));replace HP:=h_ hp;replace HD:=dG HD (hg);have hsz7:=HD.out.size;clear hp hg;have c0:=cell_at (v:=.pointer (some ⟨g,0,none⟩)) HBb.out 0 rfl;go_wp2_with fail
 have HFP:Hid (FPost w7 g kf (kf+1) (fun b=>w.heap.size<=b/\b≠kf/\b≠kb/\b≠kr) t.text t.line t.col [] ((s.counted count 20).exp [40]) w7):=h_ ⟨[],none,0,rfl,HP.out,HBf.out,El.Row.nil _ _ _,Kept.refl _ _ _ _⟩;have hlf:=lt_of_block HBf.out;refine (flist_p m n hn g kf kb (kf+1) (fun b=>w.heap.size<=b/\b≠kf/\b≠kb/\b≠kr) t.text t.line t.col _ ra w7 HOP.out (by omega) (by omega) rfl (by omega) HBb.out (fun h=>by have h:=h.1;omega) (fun h=>h.2.1 rfl) (fun b hb=>⟨by omega,by omega,by omega,by omega⟩) HFP.out HM.out).mono ?_;rintro e w8 ⟨⟨v,rfl⟩,qs,ko,kc,hqs,hp,hf,hrow,hk⟩;clear c0;replace HBb:=kK hk HBb (by omega) (by omega) (by omega);replace HBr:=kK hk HBr (by omega) (by omega) (by omega)
 replace HBf:Hid (w8.heap[kf]?=some (.cells #[.string ⟨t.text.toArray⟩,.slice ko qs.length kc,.string ⟨#[]⟩,.int .i64 0,.bool false,.int .i64 0,.string ⟨#[]⟩,.string ⟨#[]⟩,.bool false,.slice none 0 0,.slice none 0 0,.int .i64 0,.int .i64 0,.int .i64 0,.int .i64 0,.int .i64 0,.string ⟨#[]⟩,.string ⟨#[]⟩,.bool false,.slice none 0 0,.slice none 0 0,.int .i64 0,.int .i64 0,.int .i64 (t.line:Nat),.int .i64 (t.col:Nat)] 50 (0,0))):=h_ hf;replace HOP:=h_ (HOP.out.kept hk (by omega) (by omega));replace HD:=dK hk HD (by omega) (by omega);have hsz8:=HD.out.size;replace HP:=h_ hp;have HRp:=h_ hrow;have HQS:=h_ hqs;clear hqs hp hf hrow hk HFP hlf HBt;have c0:=cell_at (v:=.pointer (some ⟨g,0,none⟩)) HBb.out 0 rfl;go_wp2_with fail
 clear c0;obtain⟨w9,kq2,hw,hkk,hb,hs1,HBq2⟩:=newb w8 #[.string ⟨#[58]⟩] 9;have hgq2:g<kq2:=by rw[hkk];exact HP.out.lt
 have heq2:w.heap.size<=kq2:=by omega
 have hb_q2:=lk_ hkk HBb;have hr_q2:=lk_ hkk HBr;have hf_q2:=lk_ hkk HBf;rw[hw,<-hkk];replace HRp:=h_ (HRp.out.below hb);replace HBb:=kB hb HBb;replace HBr:=kB hb HBr;replace HBf:=kB hb HBf;replace HP:=h_ (HP.out.below hb);replace HOP:=h_ (HOP.out.below hb);replace HD:=dB HD hb;have hsz9:=HD.out.size;clear hw hb hkk hs1;refine (expect_p g ra.2 [[58]] kq2 w9 HP.out HBq2.out (by omega) (by decide)).mono ?_;rintro e w10 ⟨⟨v,rfl⟩,hp,hg⟩;replace HRp:=h_ (HRp.out.grown hg (by omega) (fun h=>by omega));replace HBb:=kG hg HBb;replace HBr:=kG hg HBr;replace HBf:=kG hg HBf;replace HBq2:=kG hg HBq2;replace HOP:=h_ (HOP.out.grown hg (by omega));replace HP:=h_ hp;replace HD:=dG HD (hg);have hsz10:=HD.out.size;clear hp hg;have c0:=cell_at (v:=.pointer (some ⟨g,0,none⟩)) HBb.out 0 rfl;go_wp2_with fail
 obtain⟨Ny,hN⟩:∃ k,k=w10.heap.size:=⟨_,rfl⟩
 have hb_Ny:kb<Ny:=by rw[hN];exact lt_of_block HBb.out
 have hr_Ny:kr<Ny:=by rw[hN];exact lt_of_block HBr.out
 have hf_Ny:kf<Ny:=by rw[hN];exact lt_of_block HBf.out
 have hg_Ny:g<Ny:=by rw[hN];exact HP.out.lt
 have he_Ny:w.heap.size<=Ny:=by omega
 refine (result_p n hn g _ rt w10 HP.out HOP.out HTT.out).mono ?_;rintro e w11 ⟨xy,rfl,hu,hp,hg⟩;clear c0;replace HRp:=h_ (HRp.out.grown hg (by omega) (fun h=>by omega));replace HBb:=kG hg HBb;replace HBr:=kG hg HBr;replace HBf:=kG hg HBf;replace HOP:=h_ (HOP.out.grown hg (by omega));replace HP:=h_ hp;replace HD:=dG HD (hg);rw[<-hN] at hu;have HUy:=h_ (hu.mono (S':=fun b=>Ny<=b/\True) (fun b h=>⟨h,trivial⟩));clear hN hu;clear hp hg;obtain⟨yk,ynm,yot,yb,yao,yn,yq,yko,ykn,ykc,yln,ycl⟩:=xy;simp only[pmV];obtain⟨c0,c1,c2,c3,c4,c5,c6,c7,c8,c9,c10,c11,c12,c13,c14,c15,c16,c17,c18,c19,c20,c21,c22,c23,c24⟩:=cl25 HBf.out;obtain⟨fc0,fc1,fc2,fc3,fc4,fc5,fc6,fc7,fc8,fc9,fc10,fc11,fc12,fc13,fc14,fc15,fc16,fc17,fc18,fc19,fc20,fc21,fc22,fc23,fc24⟩:=fr25 HBf.out;go_upto_region 7 with fail
 obtain⟨w12,hw⟩:∃ x,x=w11.setCells kf 2 [.string ⟨rt.1.nm.toArray⟩,.int .i64 (rt.1.b:Nat),.bool rt.1.kn,.int .i64 yk,.string ynm,.string yot,.bool yb,.slice yao yn yq,.slice yko ykn ykc,.int .i64 yln,.int .i64 ycl,.int .i64 (rt.1.ln:Nat),.int .i64 (rt.1.cl:Nat)]:=⟨_,rfl⟩
 have hg:w11.grownBy w12 (some kf):=by rw[hw];exact setCells_grown _ _ _ _
 have hv:=put_same [.string ⟨rt.1.nm.toArray⟩,.int .i64 (rt.1.b:Nat),.bool rt.1.kn,.int .i64 yk,.string ynm,.string yot,.bool yb,.slice yao yn yq,.slice yko ykn ykc,.int .i64 yln,.int .i64 ycl,.int .i64 (rt.1.ln:Nat),.int .i64 (rt.1.cl:Nat)] w11 kf 2 _ _ HBf.out (Nat.le_of_ble_eq_true rfl);rw[<-hw] at hv
 rw[show ((((((((((((w11.setCell ⟨kf,2,none⟩ (.string ⟨rt.1.nm.toArray⟩)).setCell ⟨kf,3,none⟩ (.int .i64 (rt.1.b:Nat))).setCell ⟨kf,4,none⟩ (.bool rt.1.kn)).setCell ⟨kf,5,none⟩ (.int .i64 yk)).setCell ⟨kf,6,none⟩ (.string ynm)).setCell ⟨kf,7,none⟩ (.string yot)).setCell ⟨kf,8,none⟩ (.bool yb)).setCell ⟨kf,9,none⟩ (.slice yao yn yq)).setCell ⟨kf,10,none⟩ (.slice yko ykn ykc)).setCell ⟨kf,11,none⟩ (.int .i64 yln)).setCell ⟨kf,12,none⟩ (.int .i64 ycl)).setCell ⟨kf,13,none⟩ (.int .i64 (rt.1.ln:Nat))).setCell ⟨kf,14,none⟩ (.int .i64 (rt.1.cl:Nat))=w12 from hw.symm];clear c0 fc0 c1 fc1 c2 fc2 c3 fc3 c4 fc4 c5 fc5 c6 fc6 c7 fc7 c8 fc8 c9 fc9 c10 fc10 c11 fc11 c12 fc12 c13 fc13 c14 fc14 c15 fc15 c16 fc16 c17 fc17 c18 fc18 c19 fc19 c20 fc20 c21 fc21 c22 fc22 c23 fc23 c24 fc24;replace HP:=h_ (HP.out.store HBf.out (by decide) (by omega) hg)
 replace HRp:=h_ (HRp.out.grown hg (by omega) (fun h=>by omega));replace HBb:=kG hg HBb;replace HBr:=kG hg HBr;replace HUy:=h_ (HUy.out.grown hg (fun h=>by omega));replace HOP:=h_ (HOP.out.grown hg (by omega));replace HD:=dN HD hg (by omega);have hsz12:=HD.out.size;replace HBf:Hid (w12.heap[kf]?=some (.cells #[.string ⟨t.text.toArray⟩,.slice ko qs.length kc,.string ⟨rt.1.nm.toArray⟩,.int .i64 (rt.1.b:Nat),.bool rt.1.kn,.int .i64 yk,.string ynm,.string yot,.bool yb,.slice yao yn yq,.slice yko ykn ykc,.int .i64 yln,.int .i64 ycl,.int .i64 (rt.1.ln:Nat),.int .i64 (rt.1.cl:Nat),.int .i64 0,.string ⟨#[]⟩,.string ⟨#[]⟩,.bool false,.slice none 0 0,.slice none 0 0,.int .i64 0,.int .i64 0,.int .i64 (t.line:Nat),.int .i64 (t.col:Nat)] 50 (0,0))):=h_ hv;clear hw hg hv;have c0:=cell_at (v:=.pointer (some ⟨g,0,none⟩)) HBb.out 0 rfl
 go_wp2_with fail
 clear c0;obtain⟨w13,kq3,hw,hkk,hb,hs1,HBq3⟩:=newb w12 #[.string ⟨#[61]⟩] 9;have hgq3:g<kq3:=by rw[hkk];exact HP.out.lt
 have heq3:w.heap.size<=kq3:=by omega
 have hb_q3:=lk_ hkk HBb;have hr_q3:=lk_ hkk HBr;have hf_q3:=lk_ hkk HBf;replace HUy:=h_ (HUy.out.offk hkk);rw[hw,<-hkk];replace HRp:=h_ (HRp.out.below hb);replace HBb:=kB hb HBb;replace HBr:=kB hb HBr;replace HBf:=kB hb HBf;replace HP:=h_ (HP.out.below hb);replace HUy:=h_ (HUy.out.below hb);replace HOP:=h_ (HOP.out.below hb);replace HD:=dB HD hb;have hsz13:=HD.out.size;clear hw hb hkk hs1;refine (expect_p g rt.2 [[61]] kq3 w13 HP.out HBq3.out (by omega) (by decide)).mono ?_;rintro e w14 ⟨⟨v,rfl⟩,hp,hg⟩;replace HRp:=h_ (HRp.out.grown hg (by omega) (fun h=>by omega));replace HBb:=kG hg HBb;replace HBr:=kG hg HBr;replace HBf:=kG hg HBf;replace HBq3:=kG hg HBq3;replace HUy:=h_ (HUy.out.grown hg (fun h=>by omega));replace HOP:=h_ (HOP.out.grown hg (by omega));replace HP:=h_ hp;replace HD:=dG HD (hg);have hsz14:=HD.out.size;clear hp hg
 have c0:=cell_at (v:=.pointer (some ⟨g,0,none⟩)) HBb.out 0 rfl;go_wp2_with fail
 obtain⟨Nz,hN⟩:∃ k,k=w14.heap.size:=⟨_,rfl⟩
 have hb_Nz:kb<Nz:=by rw[hN];exact lt_of_block HBb.out
 have hr_Nz:kr<Nz:=by rw[hN];exact lt_of_block HBr.out
 have hf_Nz:kf<Nz:=by rw[hN];exact lt_of_block HBf.out
 have hg_Nz:g<Nz:=by rw[hN];exact HP.out.lt
 have he_Nz:w.heap.size<=Nz:=by omega
 refine (complete_p n hn g _ q w14 HP.out HOP.out HQ.out).mono ?_;rintro e w15 ⟨xz,rfl,hu,hp,hg⟩;clear c0;replace HRp:=h_ (HRp.out.grown hg (by omega) (fun h=>by omega));replace HBb:=kG hg HBb;replace HBr:=kG hg HBr;replace HBf:=kG hg HBf;replace HUy:=h_ (HUy.out.grown hg (fun h=>by omega));replace HOP:=h_ (HOP.out.grown hg (by omega));replace HP:=h_ hp;replace HD:=dG HD (hg);rw[<-hN] at hu;have HUz:=h_ (hu.mono (S':=fun b=>Nz<=b/\True) (fun b h=>⟨h,trivial⟩));clear hN hu;clear hp hg;obtain⟨zk,znm,zot,zb,zao,zn,zq,zko,zkn,zkc,zln,zcl⟩:=xz;simp only[xv];obtain⟨c0,c1,c2,c3,c4,c5,c6,c7,c8,c9,c10,c11,c12,c13,c14,c15,c16,c17,c18,c19,c20,c21,c22,c23,c24⟩:=cl25 HBf.out
 obtain⟨fc0,fc1,fc2,fc3,fc4,fc5,fc6,fc7,fc8,fc9,fc10,fc11,fc12,fc13,fc14,fc15,fc16,fc17,fc18,fc19,fc20,fc21,fc22,fc23,fc24⟩:=fr25 HBf.out;go_upto_region 9 with fail
 obtain⟨w16,hw⟩:∃ x,x=w15.setCells kf 15 [.int .i64 zk,.string znm,.string zot,.bool zb,.slice zao zn zq,.slice zko zkn zkc,.int .i64 zln,.int .i64 zcl]:=⟨_,rfl⟩
 have hg:w15.grownBy w16 (some kf):=by rw[hw];exact setCells_grown _ _ _ _
 have hv:=put_same [.int .i64 zk,.string znm,.string zot,.bool zb,.slice zao zn zq,.slice zko zkn zkc,.int .i64 zln,.int .i64 zcl] w15 kf 15 _ _ HBf.out (Nat.le_of_ble_eq_true rfl);rw[<-hw] at hv;rw[show (((((((w15.setCell ⟨kf,15,none⟩ (.int .i64 zk)).setCell ⟨kf,16,none⟩ (.string znm)).setCell ⟨kf,17,none⟩ (.string zot)).setCell ⟨kf,18,none⟩ (.bool zb)).setCell ⟨kf,19,none⟩ (.slice zao zn zq)).setCell ⟨kf,20,none⟩ (.slice zko zkn zkc)).setCell ⟨kf,21,none⟩ (.int .i64 zln)).setCell ⟨kf,22,none⟩ (.int .i64 zcl)=w16 from hw.symm];clear c0 fc0 c1 fc1 c2 fc2 c3 fc3 c4 fc4 c5 fc5 c6 fc6 c7 fc7 c8 fc8 c9 fc9 c10 fc10 c11 fc11 c12 fc12 c13 fc13 c14 fc14 c15 fc15 c16 fc16 c17 fc17 c18 fc18 c19 fc19 c20 fc20 c21 fc21 c22 fc22 c23 fc23 c24 fc24;replace HP:=h_ (HP.out.store HBf.out (by decide) (by omega) hg)
 replace HRp:=h_ (HRp.out.grown hg (by omega) (fun h=>by omega));replace HBb:=kG hg HBb;replace HBr:=kG hg HBr;replace HUy:=h_ (HUy.out.grown hg (fun h=>by omega));replace HUz:=h_ (HUz.out.grown hg (fun h=>by omega));replace HOP:=h_ (HOP.out.grown hg (by omega));replace HD:=dN HD hg (by omega);replace HBf:Hid (w16.heap[kf]?=some (.cells #[.string ⟨t.text.toArray⟩,.slice ko qs.length kc,.string ⟨rt.1.nm.toArray⟩,.int .i64 (rt.1.b:Nat),.bool rt.1.kn,.int .i64 yk,.string ynm,.string yot,.bool yb,.slice yao yn yq,.slice yko ykn ykc,.int .i64 yln,.int .i64 ycl,.int .i64 (rt.1.ln:Nat),.int .i64 (rt.1.cl:Nat),.int .i64 zk,.string znm,.string zot,.bool zb,.slice zao zn zq,.slice zko zkn zkc,.int .i64 zln,.int .i64 zcl,.int .i64 (t.line:Nat),.int .i64 (t.col:Nat)] 50 (0,0))):=h_ hv;clear hw hg hv;refine wp_region_lit ?_
 refine wpList_plain rfl fun K0 hK0=>?_
 refine wp_load_row 50 (.tmp 6) rfl ⟨kf,0,none⟩ rfl [.string ⟨t.text.toArray⟩,.slice ko qs.length kc,.string ⟨rt.1.nm.toArray⟩,.int .i64 (rt.1.b:Nat),.bool rt.1.kn,.int .i64 yk,.string ynm,.string yot,.bool yb,.slice yao yn yq,.slice yko ykn ykc,.int .i64 yln,.int .i64 ycl,.int .i64 (rt.1.ln:Nat),.int .i64 (rt.1.cl:Nat),.int .i64 zk,.string znm,.string zot,.bool zb,.slice zao zn zq,.slice zko zkn zkc,.int .i64 zln,.int .i64 zcl,.int .i64 (t.line:Nat),.int .i64 (t.col:Nat)] _ (fun j v hv=>by rw[add_lit,Nat.zero_add];exact cell_at HBf.out j (by rw[gsa];exact hv)) Tryz.underlying50 rfl (by kernel_rfl) ?_;refine hK0 _ _ ?_;clear hK0
 obtain⟨wz,hw⟩:∃ x,x=w16.setRow kr #[.string ⟨t.text.toArray⟩,.slice ko qs.length kc,.string ⟨rt.1.nm.toArray⟩,.int .i64 (rt.1.b:Nat),.bool rt.1.kn,.int .i64 yk,.string ynm,.string yot,.bool yb,.slice yao yn yq,.slice yko ykn ykc,.int .i64 yln,.int .i64 ycl,.int .i64 (rt.1.ln:Nat),.int .i64 (rt.1.cl:Nat),.int .i64 zk,.string znm,.string zot,.bool zb,.slice zao zn zq,.slice zko zkn zkc,.int .i64 zln,.int .i64 zcl,.int .i64 (t.line:Nat),.int .i64 (t.col:Nat)]:=⟨_,rfl⟩
 refine wpList_plain rfl fun K0 hK0=>?_
 refine wp_store_row 50 (.tmp 4) (.tmp 35) rfl kr #[.string ⟨t.text.toArray⟩,.slice ko qs.length kc,.string ⟨rt.1.nm.toArray⟩,.int .i64 (rt.1.b:Nat),.bool rt.1.kn,.int .i64 yk,.string ynm,.string yot,.bool yb,.slice yao yn yq,.slice yko ykn ykc,.int .i64 yln,.int .i64 ycl,.int .i64 (rt.1.ln:Nat),.int .i64 (rt.1.cl:Nat),.int .i64 zk,.string znm,.string zot,.bool zb,.slice zao zn zq,.slice zko zkn zkc,.int .i64 zln,.int .i64 zcl,.int .i64 (t.line:Nat),.int .i64 (t.col:Nat)] rfl rfl 50 _ HBr.out (by kernel_rfl) rfl (by simp[Value.oneCell']) ?_;rw[<-hw];refine hK0 _ _ ?_;clear hK0;have hg:w16.grownBy wz (some kr):=by rw[hw];exact grown_setRow _ _ _
 have hv:wz.heap[kr]?=some (.cells #[.string ⟨t.text.toArray⟩,.slice ko qs.length kc,.string ⟨rt.1.nm.toArray⟩,.int .i64 (rt.1.b:Nat),.bool rt.1.kn,.int .i64 yk,.string ynm,.string yot,.bool yb,.slice yao yn yq,.slice yko ykn ykc,.int .i64 yln,.int .i64 ycl,.int .i64 (rt.1.ln:Nat),.int .i64 (rt.1.cl:Nat),.int .i64 zk,.string znm,.string zot,.bool zb,.slice zao zn zq,.slice zko zkn zkc,.int .i64 zln,.int .i64 zcl,.int .i64 (t.line:Nat),.int .i64 (t.col:Nat)] 50 (0,0)):=by rw[hw];exact setRow_heap _ _ _ _ _ _ HBr.out
 replace HP:=h_ (HP.out.store HBr.out (by decide) (by omega) hg);replace HRp:=h_ (HRp.out.grown hg (by omega) (fun h=>by omega));replace HBb:=kG hg HBb;replace HBf:=kG hg HBf;replace HUy:=h_ (HUy.out.grown hg (fun h=>by omega));replace HUz:=h_ (HUz.out.grown hg (fun h=>by omega));replace HOP:=h_ (HOP.out.grown hg (by omega));replace HD:=dN HD hg (by omega);have hsz16:=HD.out.size;have HBr:=h_ hv;clear hw hg hv;go_wp2_with fail
 refine bodyPost_ret (v:=.agg #[.string ⟨t.text.toArray⟩,.slice ko qs.length kc,.string ⟨rt.1.nm.toArray⟩,.int .i64 (rt.1.b:Nat),.bool rt.1.kn,.int .i64 yk,.string ynm,.string yot,.bool yb,.slice yao yn yq,.slice yko ykn ykc,.int .i64 yln,.int .i64 ycl,.int .i64 (rt.1.ln:Nat),.int .i64 (rt.1.cl:Nat),.int .i64 zk,.string znm,.string zot,.bool zb,.slice zao zn zq,.slice zko zkn zkc,.int .i64 zln,.int .i64 zcl,.int .i64 (t.line:Nat),.int .i64 (t.col:Nat)]) (res_cell Tryz.results35 (by rfl) [.string ⟨t.text.toArray⟩,.slice ko qs.length kc,.string ⟨rt.1.nm.toArray⟩,.int .i64 (rt.1.b:Nat),.bool rt.1.kn,.int .i64 yk,.string ynm,.string yot,.bool yb,.slice yao yn yq,.slice yko ykn ykc,.int .i64 yln,.int .i64 ycl,.int .i64 (rt.1.ln:Nat),.int .i64 (rt.1.cl:Nat),.int .i64 zk,.string znm,.string zot,.bool zb,.slice zao zn zq,.slice zko zkn zkc,.int .i64 zln,.int .i64 zcl,.int .i64 (t.line:Nat),.int .i64 (t.col:Nat)] (fun j v hv=>by rw[add_lit,Nat.zero_add];exact cell_at HBr.out j (by rw[gsa];exact hv)) Tryz.underlying50 rfl (by kernel_rfl)) rfl ?_
 exact⟨⟨yk,ynm,yot,yb,yao,yn,yq,yko,ykn,ykc,yln,ycl⟩,⟨zk,znm,zot,zb,zao,zn,zq,zko,zkn,zkc,zln,zcl⟩,.slice ko qs.length kc,by have hnt:=HNt.out;subst hnt;rfl,(HUy.out.mono (fun b h=>by have h:(Ny<=b/\True)/\b≠kq3:=h;show _<=b;omega)),(HUz.out.mono (fun b h=>by have h:Nz<=b/\True:=h;show _<=b;omega)),⟨qs,HQS.out,HRp.out.at (fun b h=>h.1) (fun b h=>by show _<=b;omega)⟩,HP.out,HD.out⟩
theorem PmsAt.keep {w w':World} {S:Nat->Prop} {v:Value} {ps:List PmU} (hk:∀ g,S g->w'.heap[g]?=w.heap[g]?) (h:PmsAt w S v ps):PmsAt w' S v ps:=by obtain⟨qs,h1,h2⟩:=h;exact⟨qs,h1,El.At.keep hk h2⟩
theorem PmsAt.mono {w:World} {S S':Nat->Prop} {v:Value} {ps:List PmU} (hs:∀ g,S g->S' g) (h:PmsAt w S v ps):PmsAt w S' v ps:=by obtain⟨qs,h1,h2⟩:=h;exact⟨qs,h1,El.At.mono hs h2⟩
theorem PmsAt.lt {w:World} {S:Nat->Prop} {v:Value} {ps:List PmU} (h:PmsAt w S v ps):PmsAt w (fun g=>S g/\g<w.heap.size) v ps:=by obtain⟨qs,h1,h2⟩:=h;exact⟨qs,h1,El.At.lt h2⟩
theorem PmsAt.one {w:World} {S:Nat->Prop} {v:Value} {ps:List PmU} (h:PmsAt w S v ps):v.oneCell'=true:=by obtain⟨qs,h1,ko,kc,rfl,-⟩:=h;rfl
structure Qd where
 q:QlU
 v:Value
 x:X
structure Fd where
 q:FnU
 v:Value
 x:X
 y:X
def qlE:El Qd where
 e:=69
 n:=12
 f a:=if a.v.oneCell' then qlC a.q a.v a.x else List.replicate 12 (.bool false)
 R w S a:=a.v.oneCell'=true/\Um w S a.x a.q.body/\PmsAt w S a.v a.q.ps
 pos:=by decide
 len a:=by split;rfl;rfl
 one a:=by
  intro u hu
  split at hu
  ·rename_i h
   simp only[qlC,List.mem_cons,List.not_mem_nil,or_false] at hu;rcases hu with rfl | rfl | rfl | rfl | rfl | rfl | rfl | rfl | rfl | rfl | rfl | rfl<;>first | rfl | exact h
  rw[List.eq_of_mem_replicate hu];rfl
 keep h k:=⟨k.1,k.2.1.keep h,k.2.2.keep h⟩
 mono h k:=⟨k.1,k.2.1.mono h,k.2.2.mono h⟩
 lt k:=⟨k.1,k.2.1.lt,k.2.2.lt⟩
 noAt:=by decide
def fnE:El Fd where
 e:=50
 n:=25
 f a:=if a.v.oneCell' then fnC a.q a.v a.x a.y else List.replicate 25 (.bool false)
 R w S a:=a.v.oneCell'=true/\Um w S a.x a.q.res.ref/\Um w S a.y a.q.body/\PmsAt w S a.v a.q.ps
 pos:=by decide
 len a:=by split;rfl;rfl
 one a:=by
  intro u hu
  split at hu
  ·rename_i h
   simp only[fnC,List.mem_cons,List.not_mem_nil,or_false] at hu;rcases hu with rfl | rfl | rfl | rfl | rfl | rfl | rfl | rfl | rfl | rfl | rfl | rfl | rfl | rfl | rfl | rfl | rfl | rfl | rfl | rfl | rfl | rfl | rfl | rfl | rfl<;>first | rfl | exact h
  rw[List.eq_of_mem_replicate hu];rfl
 keep h k:=⟨k.1,k.2.1.keep h,k.2.2.1.keep h,k.2.2.2.keep h⟩
 mono h k:=⟨k.1,k.2.1.mono h,k.2.2.1.mono h,k.2.2.2.mono h⟩
 lt k:=⟨k.1,k.2.1.lt,k.2.2.1.lt,k.2.2.2.lt⟩
 noAt:=by decide
theorem infoQual:(Tryz.prog.info? 69).map (fun i=>(i.zero,i.size,i.bytes))=some (some (.agg #[.string ⟨#[]⟩,.slice none 0 0,.int .i64 0,.string ⟨#[]⟩,.string ⟨#[]⟩,.bool false,.slice none 0 0,.slice none 0 0,.int .i64 0,.int .i64 0,.int .i64 0,.int .i64 0]),12,168):=by kernel_rfl
theorem infoFun:(Tryz.prog.info? 50).map (fun i=>(i.zero,i.size,i.bytes))=some (some (.agg #[.string ⟨#[]⟩,.slice none 0 0,.string ⟨#[]⟩,.int .i64 0,.bool false,.int .i64 0,.string ⟨#[]⟩,.string ⟨#[]⟩,.bool false,.slice none 0 0,.slice none 0 0,.int .i64 0,.int .i64 0,.int .i64 0,.int .i64 0,.int .i64 0,.string ⟨#[]⟩,.string ⟨#[]⟩,.bool false,.slice none 0 0,.slice none 0 0,.int .i64 0,.int .i64 0,.int .i64 0,.int .i64 0]),25,328):=by kernel_rfl
section
variable {α β:Type} {E:El α} {F:El β}
def Two (E:El α) (F:El β) (w:World) (B:Nat) (S:Nat->Prop) (v:Value) (el:List α) (u:Value) (fl:List β):Prop:=
 E.Row w B (fun b=>S b/\u.ownBlock≠some b) v el/\F.Row w B (fun b=>S b/\v.ownBlock≠some b) u fl/\∀ j,v.ownBlock=some j->u.ownBlock≠some j
theorem Two.nil (w:World) (B:Nat) (S:Nat->Prop):Two E F w B S (.slice none 0 0) [] (.slice none 0 0) []:=⟨El.Row.nil _ _ _,El.Row.nil _ _ _,fun j h=>by cases h⟩
theorem Two.swap {w:World} {B:Nat} {S:Nat->Prop} {v u:Value} {el:List α} {fl:List β} (h:Two E F w B S v el u fl):Two F E w B S u fl v el:=⟨h.2.1,h.1,fun j h1 h2=>h.2.2 j h2 h1⟩
theorem Two.grown {w w':World} {B g:Nat} {S:Nat->Prop} {v u:Value} {el:List α} {fl:List β} (h:Two E F w B S v el u fl) (hg:w.grownBy w' (some g)) (h1:g<B) (h2:¬ S g):Two E F w' B S v el u fl:=
 ⟨h.1.grown hg h1 (fun h=>h2 h.1),h.2.1.grown hg h1 (fun h=>h2 h.1),h.2.2⟩
theorem Two.append {w:World} {B:Nat} {S:Nat->Prop} {v u:Value} {el:List α} {fl:List β} (h:Two E F w B S v el u fl) {ops:Array Oper} {rest:List Oper} {o:Oper} {a:Act} {Q:Exit->Act->World->Prop} (hgd:o.guard=none) (s x:Operand) (t:TypeId)
  (ho:o.op=.call { callee:=.builtin .append,args:=#[s,x],argTypes:=#[t,t] }) (ht:Tryz.prog.underlying t=some (.slice E.e)) {z:Value} {bytes:Nat} (hinfo:(Tryz.prog.info? E.e).map (fun i=>(i.zero,i.size,i.bytes))=some (some z,E.n,bytes)) (hzs:z.cells.size=E.n) (hby:bytes<=1000)
  (hs:a.eval s=v) (c:α) (k:Nat) (T:TypeId) (hx:a.eval x=.slice (some ⟨k,0,none⟩) 1 1) (hc:w.heap[k]?=some (.cells (E.f c).toArray T (0,0))) (hu:E.R w (fun b=>(S b/\u.ownBlock≠some b)/\v.ownBlock≠some b) c) (hlen:el.length<=1000000) (hB:B<=w.heap.size)
  (hK:∀ v' w',Two E F w' B S v' (el++[c]) u fl->w.grownBy w' v.ownBlock->wpList Tryz.prog ops Q rest (a.put o.dst v') w'):wpList Tryz.prog ops Q (o::rest) a w:=by
 obtain⟨hE,hF,hn⟩:=h;refine wpList_append_el w hgd s x t ho E.e ht hinfo hzs E.pos hby B v el.length (el.flatMap E.f) hs hE.1 k T (E.f c) (E.len c) (E.one c) hx hc hlen hB fun v' w' h1 h2 h3=>hK v' w' ⟨⟨?_,?_⟩,⟨?_,?_⟩,?_⟩ h2
 ·rw[lsa,List.flatMap_append];simpa using h1
 ·have key:∀ q,E.R w (fun b=>(S b/\u.ownBlock≠some b)/\v.ownBlock≠some b) q->E.R w' (fun b=>(S b/\u.ownBlock≠some b)/\v'.ownBlock≠some b) q:=fun q hq =>
   E.mono (S:=fun b=>((S b/\u.ownBlock≠some b)/\v.ownBlock≠some b)/\b<w.heap.size) (fun b hb=>⟨hb.1.1,fun e=>by rcases h3 b e with h | h;exact hb.1.2 h;omega⟩) (E.keep (fun g hg=>h2.block g hg.2 (fun e=>hg.1.2 e.symm)) (E.lt hq))
  intro q hq;rcases List.mem_append.1 hq with hq | hq
  ·exact key q (hE.2 q hq)
  rw[List.mem_singleton] at hq;subst hq;exact key _ hu
 ·refine World.ownsRow.kept hF.1 h2 ?_
  cases hv:u.ownBlock with
  | none=>exact .inl rfl
  | some j=>exact .inr (fun e=>hn j e.symm hv)
 ·intro q hq;exact F.mono (S:=fun b=>((S b/\v.ownBlock≠some b)/\u.ownBlock≠some b)/\b<w.heap.size) (fun b hb=>⟨⟨hb.1.1.1,fun e=>by rcases h3 b e with h | h;exact hb.1.1.2 h;omega⟩,hb.1.2⟩) (F.keep (fun g hg=>h2.block g hg.2 (fun e=>hg.1.1.2 e.symm)) (F.lt (hF.2 q hq)))
 intro j hj hu';rcases h3 j hj with h | h
 ·exact hn j h hu'
 have:=(hF.ge hu').2;omega
end
theorem PmsAt.below {w w':World} {S:Nat->Prop} {v:Value} {ps:List PmU} (h:PmsAt w S v ps) (hb:Below w.heap.size w w'):PmsAt w' S v ps:=(PmsAt.keep (fun g hg=>hb.block g hg.2) h.lt).mono fun _ h=>h.1
theorem len_qual {m n c:Nat} {s:St} {r:QlU × St} (h:cQual m n c s=some r):r.2.rest.length<=s.rest.length:=by
 unfold cQual at h;simp only[Option.bind_eq_some_iff] at h;obtain⟨ra,h1,q,h2,h3⟩:=h;injection h3 with h3;subst h3;have a:=qmore_len h1;have b:=len_call h2;have c1:=len_var ((s.counted c 20).exp wOpen);have c2:=len_exp (s.counted c 20) wOpen;have c3:=len_counted s c 20;have c4:=len_exp (ra.2.exp wClose) wColon;have c5:=len_exp ra.2 wClose;simp only;omega
theorem len_fmore {m n:Nat}:∀ {l:List PmU} {s:St} {x:List PmU × St},cFMore m n l s=some x->x.2.rest.length<=s.rest.length:=by
 induction m with
 | zero=>intro l s x h;simp[cFMore] at h
 | succ m ih =>
  intro l s x h;rw[cFMore] at h
  split at h
  ·rw[Option.bind_eq_some_iff] at h;obtain⟨r,h1,h2⟩:=h;exact Nat.le_trans (ih h2) (Nat.le_trans (len_fpar h1).1 (len_tk _))
  injection h with h;subst h;exact len_exp _ _
theorem len_fun {m n c:Nat} {s:St} {r:FnU × St} (h:cFun m n c s=some r):r.2.rest.length<=s.rest.length:=by
 unfold cFun at h;simp only[Option.bind_eq_some_iff] at h;obtain⟨ra,h1,t,h2,q,h3,h4⟩:=h;injection h4 with h4;subst h4
 have a:ra.2.rest.length<=((s.counted c 20).exp wOpen).rest.length:=by
  unfold cFPars at h1
  split at h1
  ·injection h1 with h1;subst h1;exact len_tk _
  rw[Option.bind_eq_some_iff] at h1;obtain⟨r,h5,h6⟩:=h1;exact Nat.le_trans (len_fmore h6) (len_fpar h5).1
 have b:t.2.rest.length<=(ra.2.exp wColon).rest.length:=by unfold cRes at h2;exact Nat.le_trans (len_ref h2) (len_base _)
 have b2:=len_call h3;have c2:=len_exp (s.counted c 20) wOpen;have c3:=len_counted s c 20;have c4:=len_exp ra.2 wColon;have c5:=len_exp t.2 wEq;simp only;omega
def ProgAt (w:World) (S:Nat->Prop) (vq vf:Value) (p:PgU):Prop:=∃ (qs:List Qd) (fs:List Fd),qs.map Qd.q=p.qs/\fs.map Fd.q=p.fs/\qlE.At w S vq qs/\fnE.At w S vf fs
theorem bs_run (c0 c1 c2 c3 c4 c5 c6 c7 c8 c9 c10 c11 c12 c13 c14 c15 c16 c17 c18 c19 c20 c21 c22 c23 c24:Value) (w:World):(Instr.buildSlice 24 1 #[(0,.agg #[c0,c1,c2,c3,c4,c5,c6,c7,c8,c9,c10,c11,c12,c13,c14,c15,c16,c17,c18,c19,c20,c21,c22,c23,c24])]).run Tryz.prog w=.ok (.slice (some ⟨w.heap.size,0,none⟩) 1 1) (w.alloc (.cells #[c0,c1,c2,c3,c4,c5,c6,c7,c8,c9,c10,c11,c12,c13,c14,c15,c16,c17,c18,c19,c20,c21,c22,c23,c24] 50)):=by kernel_rfl
theorem program_p (m n:Nat) (hn:n<=1000000) (g:Nat) (s:St) (r:PgU × St) (w:World) (hps:PS w g s) (hop:GOps w g) (hc:cProg m n ⟨[],[]⟩ s=some r) :
  Calls Tryz.prog 18 #[.pointer (some ⟨g,0,none⟩)] w fun e w'=>∃ vq vf,e=.returned (.agg #[vq,vf])/\ProgAt w' (fun k=>w.heap.size<=k) vq vf r.1/\Did w g r.2 w':=by
 have HP:=h_ hps;have HOP:=h_ hop;have hgN:=hps.lt;have hql0:=hps.2;have HC:=h_ hc;clear hps hop hc;go_enter Tryz.func18,Tryz.ntmps18
 go_upto_region 1 with fail
 obtain⟨w1,kr,hw,hkk,hb,hs1,HBr⟩:=newb w #[.slice none 0 0,.slice none 0 0] 26;have hgr:g<kr:=by rw[hkk];exact HP.out.lt
 have her:w.heap.size<=kr:=by omega
 rw[hw,<-hkk];replace HP:=h_ (HP.out.below hb);replace HOP:=h_ (HOP.out.below hb);have HD:=h_ (below_grown hb (some g));have hsz1:=HD.out.size;clear hw hb hkk hs1;go_wp2_with fail
 obtain⟨w2,ka,hw,hkk,hb,hs1,HBa⟩:=newb w1 #[.slice none 0 0,.slice none 0 0] 26;have hga:g<ka:=by rw[hkk];exact HP.out.lt
 have hea:w.heap.size<=ka:=by omega
 have hr_a:=lk_ hkk HBr;rw[hw,<-hkk];replace HBr:=kB hb HBr;replace HP:=h_ (HP.out.below hb);replace HOP:=h_ (HOP.out.below hb);replace HD:=dB HD hb;have hsz2:=HD.out.size;clear hw hb hkk hs1;have HRp:Hid (Two qlE fnE w2 (ka+1) (fun b=>w.heap.size<=b/\b≠ka/\b≠kr) (.slice none 0 0) [] (.slice none 0 0) []):=h_ (Two.nil _ _ _)
 go_loopw [5] (fun _ wr=>∃ (m':Nat) (qs:List Qd) (fs:List Fd) (sj:St) (qo:Option Addr) (qc:Nat) (fo:Option Addr) (fc:Nat),qs.length+fs.length+sj.rest.length<=30001/\Hid (cProg m' n ⟨qs.map Qd.q,fs.map Fd.q⟩ sj=some r)/\Hid (PS wr g sj)/\Hid (wr.heap[ka]?=some (.cells #[.slice qo qs.length qc,.slice fo fs.length fc] 26 (0,0)))/\Hid (wr.heap[kr]?=some (.cells #[.slice none 0 0,.slice none 0 0] 26 (0,0)))/\Hid (Two qlE fnE wr (ka+1) (fun b=>w.heap.size<=b/\b≠ka/\b≠kr) (.slice qo qs.length qc) qs (.slice fo fs.length fc) fs)/\Hid (GOps wr g)/\Hid (w.grownBy wr (some g))) (fun _ wr=>pLen wr g)
 case atStart=>exact⟨m,[],[],s,none,0,none,0,by simp;omega,HC,HP,HBa,HBr,HRp,HOP,HD⟩
 case round =>
  clear HC HP HBa HBr HRp HOP HD;obtain⟨m',qs,fs,sj,qo,qc,fo,fc,hqj,HCM,HP,HBa,HBr,HRp,HOP,HD⟩:=hrel;have hcm:=HCM.out
  cases m' with
  | zero=>exact absurd hcm (by simp[cProg])
  | succ m' =>
   rw[cProg] at hcm;have HLN:=h_ HP.out.len;have HGD:=h_ HP.out.good;have hszr:=HD.out.size;go_wp2_with fail
   refine (accept_p g sj [113,117,97,108,105,102] wr HP.out).mono ?_;rintro e w3 ⟨rfl,hp,hg⟩;replace HRp:=h_ (HRp.out.grown hg (by omega) (fun h=>by omega));replace HBa:=kG hg HBa;replace HBr:=kG hg HBr;replace HOP:=h_ (HOP.out.grown hg (by omega));replace HP:=h_ hp;replace HD:=dG HD (hg);have hsz3:=HD.out.size;clear hp hg
   by_cases hi:sj.is [113,117,97,108,105,102]=true
   ·have hi2:sj.is wQualif=true:=hi;rw[if_pos hi2,Option.bind_eq_some_iff] at hcm;have hlt:=tk_less HGD.out (w:=wQualif) (by decide) hi2;have HX:Hid (sj.acc [113,117,97,108,105,102]=sj.tk):=h_ (by unfold St.acc;rw[hi];rfl);rw[HX.out] at HP;rw[hi];clear hi hi2 HX;obtain⟨rq,hcq,hcm⟩:=hcm;simp only[List.length_map] at hcq;have hlq:=len_qual hcq;have HCQ:=h_ hcq;have HCM2:=h_ hcm;clear hcq hcm;have HOQ:Hid (∀ b,w3.heap.size<=b->(Value.slice qo qs.length qc).ownBlock≠some b):=h_ (fun b hb e=>by have:=(HRp.out.1.ge e).2;omega);have HOF:Hid (∀ b,w3.heap.size<=b->(Value.slice fo fs.length fc).ownBlock≠some b):=h_ (fun b hb e=>by have:=(HRp.out.2.1.ge e).2;omega)
    have HSS:Hid (∀ b,w3.heap.size<=b->w.heap.size<=b/\b≠ka/\b≠kr):=h_ (fun b hb=>by have h1:=lt_of_block HBa.out;have h2:=lt_of_block HBr.out;exact⟨by omega,by omega,by omega⟩);go_upto_region 4 with fail
    have hlt_a:=lt_of_block HBa.out;have hog:∀ q,q<1->(fun q=>g) q<w3.heap.size:=fun q _=>by show g<_;exact HP.out.lt
    refine R7.region (by kernel_rfl) [[],[0],[],[],[3],[3,4],[2,3,4,5],[2,3,4,5,6],[0,1,2,3,4,5,6,7],[0,1,2,3,4,5,6,7,8],[0,1,2,3,4,5,6,7,8,9]] [] [(6,1000)] (fun q=>g) 1 8 (by kernel_rfl) (by kernel_rfl) (by rfl) hog (fun q q' h h' hn=>absurd hn (by omega)) ?_;refine R7.cd ?_ (fun T xs wr hA=>?_) ?_
    rotate_left
    ·have e3:=hA.pq 3;simp only[gsa,gsc,gsz] at e3;clear hA;go_simp<;>(try with_reducible rfl)
    refine R7.cd ?_ (fun T xs wr hA=>?_) ?_
    rotate_left
    ·have e8:=tr_ (hA.tq 0 8) (hA.fq 0)
     (try simp (disch:=decide) only [R7.mi] at e8)
     have hBq:wr.heap[ka]?=_:=(hA.bl _ hlt_a (fun q _=>by show g≠ka;omega)).trans HBa.out;obtain⟨q0,q1⟩:=cl2 hBq;clear hBq;clear hA;go_simp<;>(try with_reducible rfl)
    refine R7.cd ?_ (fun T xs wr hA=>?_) ?_
    rotate_left
    ·have e0:=hA.pq 0;simp only[gsa,gsz] at e0;clear hA;go_simp<;>(try with_reducible rfl)
    refine R7.cd ?_ (fun T xs wr hA=>?_) ?_
    rotate_left
    ·have e3:=hA.pq 3;simp only[gsa,gsc,gsz] at e3;clear hA;go_simp<;>(try with_reducible rfl)
    refine R7.cd ?_ (fun T xs wr hA=>?_) ?_
    rotate_left
    ·have e11:=tr_ (hA.tq 3 11) (hA.fq 3)
     (try simp (disch:=decide) only [R7.mi] at e11)
     have hBq:wr.heap[ka]?=_:=(hA.bl _ hlt_a (fun q _=>by show g≠ka;omega)).trans HBa.out;obtain⟨q0,q1⟩:=cl2 hBq;clear hBq;clear hA;go_simp<;>(try with_reducible rfl)
    refine R7.cd ?_ (fun T xs wr hA=>?_) ?_
    rotate_left
    ·have e12:=tr_ (hA.tq 4 12) (hA.fq 4)
     (try simp (disch:=decide) only [R7.mi] at e12)
     clear hA;go_simp<;>(try with_reducible rfl)
    refine R7.Chain.callOld 0 (fun xs v w=>∃ y vv,v=.agg (qlC rq.1 vv y).toArray/\Um w (fun b=>w3.heap.size<=b) y rq.1.body/\PmsAt w (fun b=>w3.heap.size<=b) vv rq.1.ps/\PS w g rq.2) (fun _ _ _ _ ⟨y,v,h1,h2,h3,h4⟩ hb=>⟨y,v,h1,h2.below hb,h3.below hb,h4.below hb⟩) (fun _ _ _ _ q' _ hq hne _=>absurd rfl hne) (by rfl) (by rfl) (by decide) (R7.own_one (by rfl)) (fun T xs wr hA hold=>?_) ?_
    ·have hsw:=(hA.be 0 (Nat.zero_le _) (fun _ _=>Nat.zero_le _)).size;have e10:=tr_ (hA.tq 2 10) (hA.fq 2);have e13:=tr_ (hA.tq 5 13) (hA.fq 5)
     (try simp (disch:=decide) only [R7.mi] at e10 e13)
     have h0:=undrew (hA.be 0 (Nat.zero_le _) (fun _ _=>Nat.zero_le _))
     have hbw:Below w3.heap.size w3 wr:=⟨h0.os,h0.tape,h0.output,h0.size,fun k hk=>by
      by_cases e:k=g
      ·rw[e];exact hold
      exact hA.bl k hk (fun q _ h=>e h.symm)⟩
     clear hA;refine⟨(by rfl),fun K hK=>?_⟩;go_simp
     refine (qual_p m' n hn g qs.length (by omega) sj.tk rq wr (HP.out.below hbw) (HOP.out.below hbw) HCQ.out).mono ?_;rintro e w' ⟨y,v,rfl,hu,hpm,hp,hg⟩;exact hK.out _ _ ⟨y,v,rfl,hu.mono (fun b h=>Nat.le_trans hbw.size h),hpm.mono (fun b h=>Nat.le_trans hbw.size h),hp⟩ (R7.Priv.of hg)
    refine R7.Chain.call (fun xs v w=>∃ k,v=.slice (some ⟨k,0,none⟩) 1 1/\w3.heap.size<=k/\∃ c,(xs 6)=.agg c/\w.heap[k]?=some (.cells c 69 (0,0))) (fun _ _ _ _ ⟨g,hv,hl,c,hc,hg⟩ hb=>⟨g,hv,hl,c,hc,by rw[hb.block g (Array.getElem?_eq_some_iff.1 hg).1];exact hg⟩) (fun _ _ _ _ _ ⟨g,hv,hl,c,hc,hg⟩ ⟨q,hq,e⟩ hp=>⟨g,hv,hl,c,hc,by rw[hp.block g (Array.getElem?_eq_some_iff.1 hg).1 (fun h=>by have:=hog q hq;omega)];exact hg⟩) (by rfl) (fun T xs wr hA=>?_) ?_
    ·have hsw:=(hA.be 0 (Nat.zero_le _) (fun _ _=>Nat.zero_le _)).size;have e14:=hA.tm 6 14 (by rfl) (by rfl);have hF6:∃ y vv,(xs 6)=.agg (qlC rq.1 vv y).toArray/\Um wr (fun b=>w3.heap.size<=b) y rq.1.body/\PmsAt wr (fun b=>w3.heap.size<=b) vv rq.1.ps/\PS wr g rq.2:=hA.fa 6 (by rfl);obtain⟨y6,v6,hx,-⟩:=hF6;rw[hx] at e14;simp only[qlC] at e14;clear hA;refine⟨(by rfl),fun K hK=>?_⟩;go_simp
     exact hK.out _ _ ⟨_,rfl,hsw,_,hx,made_at wr _ _ rfl⟩ ((Below.refl _ _).alloc (Nat.le_refl _) _)
    refine R7.Chain.done (fun xs w4 hL=>?_);obtain⟨⟨hbe,hbl⟩,hf,-,-⟩:=hL;have f0:xs 0=_:=hf 0 (by decide);have f1:xs 1=_:=hf 1 (by decide);have f2:xs 2=_:=hf 2 (by decide);have f3:xs 3=_:=hf 3 (by decide);have f4:xs 4=_:=hf 4 (by decide);have f5:xs 5=_:=hf 5 (by decide);have F6:∃ y vv,(xs 6)=.agg (qlC rq.1 vv y).toArray/\Um w4 (fun b=>w3.heap.size<=b) y rq.1.body/\PmsAt w4 (fun b=>w3.heap.size<=b) vv rq.1.ps/\PS w4 g rq.2:=hf 6 (by decide);have F7:∃ k,(xs 7)=.slice (some ⟨k,0,none⟩) 1 1/\w3.heap.size<=k/\∃ c,(xs 6)=.agg c/\w4.heap[k]?=some (.cells c 69 (0,0)):=hf 7 (by decide)
    (try simp (disch:=decide) only [R7.mi] at f0 f1 f2 f3 f4 f5)
    have hb0:Below 0 w3 w4:=undrew (hbe 0 (Nat.zero_le _) (fun _ _=>Nat.zero_le _));have hgr:∀ j,j<w3.heap.size->(∀ q,q<1->(fun q=>g) q≠j)->w4.heap[j]?=w3.heap[j]?:=hbl;clear hbe hbl hf;obtain⟨y6,v6,hv,hu,hpm,hp⟩:=F6;obtain⟨k4,hv4,hl4,c4,hc4,hg4⟩:=F7;rw[hv] at hc4;injection hc4 with hc4;subst hc4;have hg:w3.grownBy w4 (some g):=⟨hb0.os,hb0.tape,hb0.output,hb0.size,fun k hk hn=>hgr k hk (fun q _ e=>hn (by rw[<-e]))⟩
    refine R7.rest_list (by decide) (by kernel_rfl) ?_;simp only[R7.fill,t1_,t2_,t3_,t4_,t5_,t6_,t7_,f0,f1,f2,f3,f4,f5];simp only[hv4];clear hlt_a hog hv hv4 f0 f1 f2 f3 f4 f5;replace HRp:=h_ (HRp.out.grown hg (by omega) (fun h=>by omega));replace HBa:=kG hg HBa;replace HBr:=kG hg HBr;replace HOP:=h_ (HOP.out.grown hg (by omega));replace HP:=h_ hp;replace HD:=dG HD (hg);have hsz4:=HD.out.size;have HB4:=h_ hg4;have hone:=hpm.one;clear hp hg hb0 hgr hg4
    refine Two.append HRp.out rfl (.tmp 9) (.tmp 15) 23 rfl Tryz.underlying23 infoQual rfl (by decide) rfl ⟨rq.1,v6,y6⟩ k4 69 rfl (by have e:qlE.f ⟨rq.1,v6,y6⟩=qlC rq.1 v6 y6:=if_pos hone;rw[e];exact HB4.out) ⟨hone,hu.mono (fun b h=>⟨⟨HSS.out b h,HOF.out b h⟩,HOQ.out b h⟩),hpm.mono (fun b h=>⟨⟨HSS.out b h,HOF.out b h⟩,HOQ.out b h⟩)⟩ (by omega) (Nat.succ_le_of_lt (lt_of_block HBa.out)) ?_;intro v2 w5 hrow hgw;replace HBa:=HRp.out.1.kR hgw (by omega) HBa;replace HBr:=HRp.out.1.kR hgw (by omega) HBr;replace HP:=h_ (HRp.out.1.ps hgw (by omega) HP.out);replace HOP:=h_ (HRp.out.1.ops hgw (by omega) HOP.out);replace HD:=HRp.out.1.dR hgw (by omega) HD;obtain⟨l2,hqs⟩:∃ l:List Qd,l=qs++[⟨rq.1,v6,y6⟩]:=⟨_,rfl⟩
    rw[<-hqs] at hrow;have HQS:=h_ hqs;have HLL:Hid (l2.length=qs.length+1):=h_ (by rw[hqs,lsa];rfl);obtain⟨o2,c2,hpv,-⟩:=hrow.1.form;subst hpv;replace HRp:=h_ hrow;clear hrow hgw HB4 hqs hone hu hpm HSS HOQ HOF;obtain⟨c0,c1⟩:=cl2 HBa.out;obtain⟨fc0,fc1⟩:=fr2 HBa.out;go_wp2_with fail
    obtain⟨w6,hw⟩:∃ x,x=w5.setCells ka 0 [.slice o2 l2.length c2]:=⟨_,rfl⟩
    have hg:w5.grownBy w6 (some ka):=by rw[hw];exact setCells_grown _ _ _ _
    have hv:=put_same [.slice o2 l2.length c2] w5 ka 0 _ _ HBa.out (Nat.le_of_ble_eq_true rfl);rw[<-hw] at hv;rw[show w5.setCell ⟨ka,0,none⟩ (.slice o2 l2.length c2)=w6 from hw.symm];clear c0 fc0 c1 fc1;replace HP:=h_ (HP.out.store HBa.out (by decide) (by omega) hg);replace HRp:=h_ (HRp.out.grown hg (by omega) (fun h=>by omega));replace HBr:=kG hg HBr;replace HOP:=h_ (HOP.out.grown hg (by omega));replace HD:=dN HD hg (by omega);have hsz6:=HD.out.size;replace HBa:Hid (w6.heap[ka]?=some (.cells #[.slice o2 l2.length c2,.slice fo fs.length fc] 26 (0,0))):=h_ hv;clear hw hg hv;have HCM3:Hid (cProg m' n ⟨l2.map Qd.q,fs.map Fd.q⟩ rq.2=some r):=h_ (by rw[HQS.out,List.map_append];exact HCM2.out);go_roundw
    case rel=>exact⟨m',l2,fs,rq.2,o2,c2,fo,fc,by have:=HLL.out;omega,HCM3,HP,HBa,HBr,HRp,HOP,HD⟩
    case measure=>rw[HP.out.len,HLN.out];omega
   have hif:sj.is [113,117,97,108,105,102]=false:=by simpa using hi
   rw[if_neg (show ¬ sj.is wQualif=true from hi)] at hcm;have HX:Hid (sj.acc [113,117,97,108,105,102]=sj):=h_ (by unfold St.acc;rw[hif];rfl);rw[HX.out] at HP;rw[hif];clear hi HX hif;go_wp2_with fail
   refine (accept_p g sj [102,117,110] w3 HP.out).mono ?_;rintro e w4 ⟨rfl,hp,hg⟩;replace HRp:=h_ (HRp.out.grown hg (by omega) (fun h=>by omega));replace HBa:=kG hg HBa;replace HBr:=kG hg HBr;replace HOP:=h_ (HOP.out.grown hg (by omega));replace HP:=h_ hp;replace HD:=dG HD (hg);have hsz4:=HD.out.size;clear hp hg
   by_cases hi:sj.is [102,117,110]=true
   ·have hi2:sj.is wFun=true:=hi;rw[if_pos hi2,Option.bind_eq_some_iff] at hcm;have hlt:=tk_less HGD.out (w:=wFun) (by decide) hi2;have HX:Hid (sj.acc [102,117,110]=sj.tk):=h_ (by unfold St.acc;rw[hi];rfl);rw[HX.out] at HP;rw[hi];clear hi hi2 HX;obtain⟨rq,hcq,hcm⟩:=hcm;simp only[List.length_map] at hcq;have hlq:=len_fun hcq;have HCQ:=h_ hcq;have HCM2:=h_ hcm;clear hcq hcm;have HOQ:Hid (∀ b,w4.heap.size<=b->(Value.slice qo qs.length qc).ownBlock≠some b):=h_ (fun b hb e=>by have:=(HRp.out.1.ge e).2;omega);have HOF:Hid (∀ b,w4.heap.size<=b->(Value.slice fo fs.length fc).ownBlock≠some b):=h_ (fun b hb e=>by have:=(HRp.out.2.1.ge e).2;omega)
    have HSS:Hid (∀ b,w4.heap.size<=b->w.heap.size<=b/\b≠ka/\b≠kr):=h_ (fun b hb=>by have h1:=lt_of_block HBa.out;have h2:=lt_of_block HBr.out;exact⟨by omega,by omega,by omega⟩);go_upto_region 6 with fail
    have hlt_a:=lt_of_block HBa.out;have hog:∀ q,q<1->(fun q=>g) q<w4.heap.size:=fun q _=>by show g<_;exact HP.out.lt
    refine R7.region (by kernel_rfl) [[],[0],[],[],[3],[3,4],[2,3,4,5],[2,3,4,5,6],[0,1,2,3,4,5,6,7],[0,1,2,3,4,5,6,7,8],[0,1,2,3,4,5,6,7,8,9]] [] [(6,1000)] (fun q=>g) 1 8 (by kernel_rfl) (by kernel_rfl) (by rfl) hog (fun q q' h h' hn=>absurd hn (by omega)) ?_;refine R7.cd ?_ (fun T xs wr hA=>?_) ?_
    rotate_left
    ·have e3:=hA.pq 3;simp only[gsa,gsc,gsz] at e3;clear hA;go_simp<;>(try with_reducible rfl)
    refine R7.cd ?_ (fun T xs wr hA=>?_) ?_
    rotate_left
    ·have e21:=tr_ (hA.tq 0 21) (hA.fq 0)
     (try simp (disch:=decide) only [R7.mi] at e21)
     have hBq:wr.heap[ka]?=_:=(hA.bl _ hlt_a (fun q _=>by show g≠ka;omega)).trans HBa.out;obtain⟨q0,q1⟩:=cl2 hBq;clear hBq;clear hA;go_simp<;>(try with_reducible rfl)
    refine R7.cd ?_ (fun T xs wr hA=>?_) ?_
    rotate_left
    ·have e0:=hA.pq 0;simp only[gsa,gsz] at e0;clear hA;go_simp<;>(try with_reducible rfl)
    refine R7.cd ?_ (fun T xs wr hA=>?_) ?_
    rotate_left
    ·have e3:=hA.pq 3;simp only[gsa,gsc,gsz] at e3;clear hA;go_simp<;>(try with_reducible rfl)
    refine R7.cd ?_ (fun T xs wr hA=>?_) ?_
    rotate_left
    ·have e24:=tr_ (hA.tq 3 24) (hA.fq 3)
     (try simp (disch:=decide) only [R7.mi] at e24)
     have hBq:wr.heap[ka]?=_:=(hA.bl _ hlt_a (fun q _=>by show g≠ka;omega)).trans HBa.out;obtain⟨q0,q1⟩:=cl2 hBq;clear hBq;clear hA;go_simp<;>(try with_reducible rfl)
    refine R7.cd ?_ (fun T xs wr hA=>?_) ?_
    rotate_left
    ·have e25:=tr_ (hA.tq 4 25) (hA.fq 4)
     (try simp (disch:=decide) only [R7.mi] at e25)
     clear hA;go_simp<;>(try with_reducible rfl)
    refine R7.Chain.callOld 0 (fun xs v w=>∃ x y vv,v=.agg (fnC rq.1 vv x y).toArray/\Um w (fun b=>w4.heap.size<=b) x rq.1.res.ref/\Um w (fun b=>w4.heap.size<=b) y rq.1.body/\PmsAt w (fun b=>w4.heap.size<=b) vv rq.1.ps/\PS w g rq.2) (fun _ _ _ _ ⟨x,y,v,h1,h2,h3,h4,h5⟩ hb=>⟨x,y,v,h1,h2.below hb,h3.below hb,h4.below hb,h5.below hb⟩) (fun _ _ _ _ q' _ hq hne _=>absurd rfl hne) (by rfl) (by rfl) (by decide) (R7.own_one (by rfl)) (fun T xs wr hA hold=>?_) ?_
    ·have hsw:=(hA.be 0 (Nat.zero_le _) (fun _ _=>Nat.zero_le _)).size;have e23:=tr_ (hA.tq 2 23) (hA.fq 2);have e26:=tr_ (hA.tq 5 26) (hA.fq 5)
     (try simp (disch:=decide) only [R7.mi] at e23 e26)
     have h0:=undrew (hA.be 0 (Nat.zero_le _) (fun _ _=>Nat.zero_le _))
     have hbw:Below w4.heap.size w4 wr:=⟨h0.os,h0.tape,h0.output,h0.size,fun k hk=>by
      by_cases e:k=g
      ·rw[e];exact hold
      exact hA.bl k hk (fun q _ h=>e h.symm)⟩
     clear hA;refine⟨(by rfl),fun K hK=>?_⟩;go_simp
     refine (fun_p m' n hn g fs.length (by omega) sj.tk rq wr (HP.out.below hbw) (HOP.out.below hbw) HCQ.out).mono ?_;rintro e w' ⟨x,y,v,rfl,hx,hu,hpm,hp,hg⟩;exact hK.out _ _ ⟨x,y,v,rfl,hx.mono (fun b h=>Nat.le_trans hbw.size h),hu.mono (fun b h=>Nat.le_trans hbw.size h),hpm.mono (fun b h=>Nat.le_trans hbw.size h),hp⟩ (R7.Priv.of hg)
    refine R7.Chain.call (fun xs v w=>∃ k,v=.slice (some ⟨k,0,none⟩) 1 1/\w4.heap.size<=k/\∃ c,(xs 6)=.agg c/\w.heap[k]?=some (.cells c 50 (0,0))) (fun _ _ _ _ ⟨g,hv,hl,c,hc,hg⟩ hb=>⟨g,hv,hl,c,hc,by rw[hb.block g (Array.getElem?_eq_some_iff.1 hg).1];exact hg⟩) (fun _ _ _ _ _ ⟨g,hv,hl,c,hc,hg⟩ ⟨q,hq,e⟩ hp=>⟨g,hv,hl,c,hc,by rw[hp.block g (Array.getElem?_eq_some_iff.1 hg).1 (fun h=>by have:=hog q hq;omega)];exact hg⟩) (by rfl) (fun T xs wr hA=>?_) ?_
    ·have hsw:=(hA.be 0 (Nat.zero_le _) (fun _ _=>Nat.zero_le _)).size;have e27:=hA.tm 6 27 (by rfl) (by rfl);have hF6:∃ x y vv,(xs 6)=.agg (fnC rq.1 vv x y).toArray/\Um wr (fun b=>w4.heap.size<=b) x rq.1.res.ref/\Um wr (fun b=>w4.heap.size<=b) y rq.1.body/\PmsAt wr (fun b=>w4.heap.size<=b) vv rq.1.ps/\PS wr g rq.2:=hA.fa 6 (by rfl);obtain⟨x6,y6,v6,hx,-⟩:=hF6;rw[hx] at e27;clear hA;refine⟨(by rfl),fun K hK=>?_⟩;unfold Oper.wp execOp;have hev:∀ dd,(⟨T,dd⟩:Act).eval (.tmp 27)=.agg (fnC rq.1 v6 x6 y6).toArray:=fun dd=>by show T.getD 27 undef=_;rw[Array.getD_eq_getD_getElem?,e27];rfl
     simp only[List.map_toArray,List.map_cons,List.map_nil,hev,fnC,Sem.run_bind,bs_run,Result.andThen_ok,Sem.run_pure];exact hK.out _ _ ⟨_,rfl,hsw,_,hx,made_at wr _ _ rfl⟩ ((Below.refl _ _).alloc (Nat.le_refl _) _)
    refine R7.Chain.done (fun xs w5 hL=>?_);obtain⟨⟨hbe,hbl⟩,hf,-,-⟩:=hL;have f0:xs 0=_:=hf 0 (by decide);have f1:xs 1=_:=hf 1 (by decide);have f2:xs 2=_:=hf 2 (by decide);have f3:xs 3=_:=hf 3 (by decide);have f4:xs 4=_:=hf 4 (by decide);have f5:xs 5=_:=hf 5 (by decide);have F6:∃ x y vv,(xs 6)=.agg (fnC rq.1 vv x y).toArray/\Um w5 (fun b=>w4.heap.size<=b) x rq.1.res.ref/\Um w5 (fun b=>w4.heap.size<=b) y rq.1.body/\PmsAt w5 (fun b=>w4.heap.size<=b) vv rq.1.ps/\PS w5 g rq.2:=hf 6 (by decide);have F7:∃ k,(xs 7)=.slice (some ⟨k,0,none⟩) 1 1/\w4.heap.size<=k/\∃ c,(xs 6)=.agg c/\w5.heap[k]?=some (.cells c 50 (0,0)):=hf 7 (by decide)
    (try simp (disch:=decide) only [R7.mi] at f0 f1 f2 f3 f4 f5)
    have hb0:Below 0 w4 w5:=undrew (hbe 0 (Nat.zero_le _) (fun _ _=>Nat.zero_le _));have hgr:∀ j,j<w4.heap.size->(∀ q,q<1->(fun q=>g) q≠j)->w5.heap[j]?=w4.heap[j]?:=hbl;clear hbe hbl hf;obtain⟨x6,y6,v6,hv,hux,hu,hpm,hp⟩:=F6;obtain⟨k4,hv4,hl4,c4,hc4,hg4⟩:=F7;rw[hv] at hc4;injection hc4 with hc4;subst hc4;have hg:w4.grownBy w5 (some g):=⟨hb0.os,hb0.tape,hb0.output,hb0.size,fun k hk hn=>hgr k hk (fun q _ e=>hn (by rw[<-e]))⟩
    refine R7.rest_list (by decide) (by kernel_rfl) ?_;simp only[R7.fill,t1_,t2_,t3_,t4_,t5_,t6_,t7_,f0,f1,f2,f3,f4,f5];simp only[hv4];clear hlt_a hog hv hv4 f0 f1 f2 f3 f4 f5;replace HRp:=h_ (HRp.out.grown hg (by omega) (fun h=>by omega));replace HBa:=kG hg HBa;replace HBr:=kG hg HBr;replace HOP:=h_ (HOP.out.grown hg (by omega));replace HP:=h_ hp;replace HD:=dG HD (hg);have hsz5:=HD.out.size;have HB4:=h_ hg4;have hone:=hpm.one;clear hp hg hb0 hgr hg4
    refine Two.append HRp.out.swap rfl (.tmp 22) (.tmp 28) 24 rfl Tryz.underlying24 infoFun rfl (by decide) rfl ⟨rq.1,v6,x6,y6⟩ k4 50 rfl (by have e:fnE.f ⟨rq.1,v6,x6,y6⟩=fnC rq.1 v6 x6 y6:=if_pos hone;rw[e];exact HB4.out) ⟨hone,hux.mono (fun b h=>⟨⟨HSS.out b h,HOQ.out b h⟩,HOF.out b h⟩),hu.mono (fun b h=>⟨⟨HSS.out b h,HOQ.out b h⟩,HOF.out b h⟩),hpm.mono (fun b h=>⟨⟨HSS.out b h,HOQ.out b h⟩,HOF.out b h⟩)⟩ (by omega) (Nat.succ_le_of_lt (lt_of_block HBa.out)) ?_;intro v2 w6 hrow hgw;replace HBa:=HRp.out.2.1.kR hgw (by omega) HBa;replace HBr:=HRp.out.2.1.kR hgw (by omega) HBr;replace HP:=h_ (HRp.out.2.1.ps hgw (by omega) HP.out);replace HOP:=h_ (HRp.out.2.1.ops hgw (by omega) HOP.out);replace HD:=HRp.out.2.1.dR hgw (by omega) HD;obtain⟨l2,hqs⟩:∃ l:List Fd,l=fs++[⟨rq.1,v6,x6,y6⟩]:=⟨_,rfl⟩
    rw[<-hqs] at hrow;have HQS:=h_ hqs;have HLL:Hid (l2.length=fs.length+1):=h_ (by rw[hqs,lsa];rfl);obtain⟨o2,c2,hpv,-⟩:=hrow.1.form;subst hpv;replace HRp:=h_ hrow.swap;clear hrow hgw HB4 hqs hone hu hpm HSS HOQ HOF hux;obtain⟨c0,c1⟩:=cl2 HBa.out;obtain⟨fc0,fc1⟩:=fr2 HBa.out;go_wp2_with fail
    obtain⟨w7,hw⟩:∃ x,x=w6.setCells ka 1 [.slice o2 l2.length c2]:=⟨_,rfl⟩
    have hg:w6.grownBy w7 (some ka):=by rw[hw];exact setCells_grown _ _ _ _
    have hv:=put_same [.slice o2 l2.length c2] w6 ka 1 _ _ HBa.out (Nat.le_of_ble_eq_true rfl);rw[<-hw] at hv;rw[show w6.setCell ⟨ka,1,none⟩ (.slice o2 l2.length c2)=w7 from hw.symm];clear c0 fc0 c1 fc1;replace HP:=h_ (HP.out.store HBa.out (by decide) (by omega) hg);replace HRp:=h_ (HRp.out.grown hg (by omega) (fun h=>by omega));replace HBr:=kG hg HBr;replace HOP:=h_ (HOP.out.grown hg (by omega));replace HD:=dN HD hg (by omega);have hsz7:=HD.out.size;replace HBa:Hid (w7.heap[ka]?=some (.cells #[.slice qo qs.length qc,.slice o2 l2.length c2] 26 (0,0))):=h_ hv;clear hw hg hv;have HCM3:Hid (cProg m' n ⟨qs.map Qd.q,l2.map Fd.q⟩ rq.2=some r):=h_ (by rw[HQS.out,List.map_append];exact HCM2.out);go_roundw
    case rel=>exact⟨m',qs,l2,rq.2,qo,qc,o2,c2,by have:=HLL.out;omega,HCM3,HP,HBa,HBr,HRp,HOP,HD⟩
    case measure=>rw[HP.out.len,HLN.out];omega
   have hif:sj.is [102,117,110]=false:=by simpa using hi
   rw[if_neg (show ¬ sj.is wFun=true from hi)] at hcm;injection hcm with hcm;subst hcm;have HX:Hid (sj.acc [102,117,110]=sj):=h_ (by unfold St.acc;rw[hif];rfl);rw[HX.out] at HP;rw[hif];clear hi HX hif;obtain⟨c0,c1⟩:=cl2 HBa.out;obtain⟨z0,z1⟩:=cl2 HBr.out;obtain⟨fz0,fz1⟩:=fr2 HBr.out;go_wp2_with fail
   refine bodyPost_ret (v:=.agg #[.slice qo qs.length qc,.slice fo fs.length fc]) (by simp[results,Tryz.results18,go_sem,z0,z1]) rfl ?_;obtain⟨wz,hw⟩:∃ x,x=w4.setCells kr 0 [.slice qo qs.length qc,.slice fo fs.length fc]:=⟨_,rfl⟩
   have hg:w4.grownBy wz (some kr):=by rw[hw];exact setCells_grown _ _ _ _
   rw[show (w4.setCell ⟨kr,0,none⟩ (.slice qo qs.length qc)).setCell ⟨kr,1,none⟩ (.slice fo fs.length fc)=wz from hw.symm];clear c0 c1 z0 fz0 z1 fz1;replace HP:=h_ (HP.out.store HBr.out (by decide) (by omega) hg);replace HRp:=h_ (HRp.out.grown hg (by omega) (fun h=>by omega));replace HBa:=kG hg HBa;replace HOP:=h_ (HOP.out.grown hg (by omega));replace HD:=dN HD hg (by omega);have hsz5:=HD.out.size;clear hw hg;exact⟨.slice qo qs.length qc,.slice fo fs.length fc,rfl,⟨qs,fs,rfl,rfl,HRp.out.1.at (fun b h=>h.1.1) (fun b h=>by show _<=b;omega),HRp.out.2.1.at (fun b h=>h.1.1) (fun b h=>by show _<=b;omega)⟩,HP.out,HD.out⟩
theorem ProgAt.form {w:World} {S:Nat->Prop} {vq vf:Value} {p:PgU} (h:ProgAt w S vq vf p):∃ a n c b m d,vq=.slice a n c/\vf=.slice b m d:=by
 obtain⟨qs,fs,-,-,⟨a,c,h1,-⟩,⟨b,d,h2,-⟩⟩:=h;exact⟨a,_,c,b,_,d,h1,h2⟩
theorem ProgAt.below {w w':World} {S:Nat->Prop} {vq vf:Value} {p:PgU} (h:ProgAt w S vq vf p) (hb:Below w.heap.size w w'):ProgAt w' S vq vf p:=by
 obtain⟨qs,fs,h1,h2,h3,h4⟩:=h;exact⟨qs,fs,h1,h2,h3.below hb,h4.below hb⟩
theorem ProgAt.mono {w:World} {S S':Nat->Prop} {vq vf:Value} {p:PgU} (hs:∀ b,S b->S' b) (h:ProgAt w S vq vf p):ProgAt w S' vq vf p:=by
 obtain⟨qs,fs,h1,h2,h3,h4⟩:=h;exact⟨qs,fs,h1,h2,h3.mono hs,h4.mono hs⟩
theorem ProgAt.grown {w w':World} {S:Nat->Prop} {vq vf:Value} {p:PgU} {g:Nat} (h:ProgAt w S vq vf p) (hg:w.grownBy w' (some g)) (hS:¬ S g):ProgAt w' S vq vf p:=by
 obtain⟨qs,fs,h1,h2,h3,h4⟩:=h;exact⟨qs,fs,h1,h2,h3.grown hg (fun b hb e=>by injection e with e;subst e;exact hS hb),h4.grown hg (fun b hb e=>by injection e with e;subst e;exact hS hb)⟩
def pgF (l:Bs) (r:PgU × St):Option (Nat × Nat × Nat):=(lexF l).or r.2.fin.err
def PgPost (l:Bs) (r:PgU × St) (w:World) (e:Ending) (w':World):Prop:=Below w.heap.size w w'/\((∃ f ev,pgF l r=some f/\e=.returned (.tuple #[.agg #[.slice none 0 0,.slice none 0 0],ev])/\AtF w' ev f)\/(pgF l r=none/\∃ vq vf,e=.returned (.tuple #[.agg #[vq,vf],.nilIface])/\ProgAt w' (fun b=>w.heap.size<=b) vq vf r.1))
theorem parse_p (m n:Nat) (hn:n<=1000000) (l:Bs) (r:PgU × St) (w:World) (hl:l.length<=20000) (hop:OpsAt w) (hc:lexF l=none->cProg m n ⟨[],[]⟩ (st0 l)=some r) :
  Calls Tryz.prog 7 #[.string ⟨l.toArray⟩] w (PgPost l r w):=by
 have HC:=h_ hc;have HO:=h_ hop;clear hc hop;go_enter Tryz.func7,Tryz.ntmps7
 go_upto_region 1 with fail
 obtain⟨w1,kr,hw,hkk,hb,hs1,HR⟩:=newb w #[.slice none 0 0,.slice none 0 0] 26;have hNr:w.heap.size<=kr:=by omega
 rw[hw,<-hkk];have HB1:=h_ hb;have HO1:=h_ (HO.out.below hb);clear hw hkk hb hs1;go_wp2_with fail
 refine (newp_p l w1 hl).mono ?_;rintro e w2 ⟨hb2,hcase⟩;have HB2:=h_ (HB1.out.trans (hb2.mono HB1.out.size));have HR2:=kB hb2 HR;have HO2:=h_ (HO1.out.below hb2);have hs2:=hb2.size;clear hb2;rcases hcase with ⟨f,ev,hf,rfl,hA⟩ | ⟨hf,g,rfl,hg,hps⟩
 ·obtain⟨q,rfl,hq⟩:=hA;have HA:=h_ hq;have HF:=h_ hf;have hqk:q≠kr:=fun e=>by subst e;have:=HR2.out;unfold AtB at hq;rw[hq] at this;injection this with this;injection this with _ this;exact absurd this (by decide)
  clear hq hf;have z0:=cell_at HR2.out 0 rfl;have z1:=cell_at HR2.out 1 rfl;have f0:=froz_at HR2.out 0;have f1:=froz_at HR2.out 1;go_wp2_with fail
  refine bodyPost_ret (v:=.tuple #[.agg #[.slice none 0 0,.slice none 0 0],.iface 111 (.pointer (some ⟨q,0,none⟩))]) (by simp[results,Tryz.results7,go_sem,z0,z1]) rfl ⟨below_set1 (below_set1 HB2.out hNr 0 _) hNr 1 _,.inl ⟨f,_,by unfold pgF;rw[HF.out];rfl,rfl,q,rfl,?_⟩⟩;have:=HA.out;unfold AtB at this ⊢;rw[set1_other _ _ _ _ hqk,set1_other _ _ _ _ hqk];exact this
 have HF:=h_ hf;have HPS:=h_ hps;have HC2:=h_ (HC.out hf);have hgr:kr<g:=Nat.lt_of_lt_of_le (lt_of_block HR.out) hg;have HGO:Hid (GOps w2 g):=h_ ⟨HO2.out,Nat.lt_of_lt_of_le (cell_lt (HO1.out 0 _ rfl)) hg⟩;have hgw:w.heap.size<=g:=by have:=HB1.out.size;omega
 clear hf hps hg;go_wp2_with fail
 obtain⟨N,hN⟩:∃ k,k=w2.heap.size:=⟨_,rfl⟩
 have hrN:kr<N:=by rw[hN];exact lt_of_block HR2.out
 have hgN:g<N:=by rw[hN];exact HPS.out.lt
 have hwN:w.heap.size<=N:=by have:=HB2.out.size;omega
 refine (program_p m n hn g (st0 l) r w2 HPS.out HGO.out HC2.out).mono ?_;rintro e w3 ⟨vq,vf,rfl,hu,hp,hgd⟩;rw[<-hN] at hu;have HR3:=kG hgd HR2;have HB3:=h_ (HB2.out.trans (grown_below hgd HB2.out.size hgw));have HP3:=h_ hp;obtain⟨qa,qn,qc,fa,fn,fc,rfl,rfl⟩:=hu.form;have HU3:=h_ hu;clear hu hp hgd hN;go_upto_region 5 with fail
 obtain⟨w4,kp,hw,hkk,hb,hs1,HX⟩:=newb w3 #[.slice qa qn qc,.slice fa fn fc] 26;have hgp:g<kp:=by rw[hkk];exact HP3.out.lt
 have hrp:=lk_ hkk HR3;rw[hw,<-hkk];have HR4:=kB hb HR3;have HB4:=bw_ HB3 hb;have HP4:=h_ (HP3.out.below hb);have HU4:=h_ (HU3.out.below hb);clear hw hkk hb hs1;go_wp2_with fail
 refine (finish_p g r.2 w4 HP4.out).mono ?_;rintro e w5 ⟨ev,rfl,he,hp,hgd⟩;have HR5:=kG hgd HR4;have HX5:=kG hgd HX;have HB5:=h_ (HB4.out.trans (grown_below hgd HB4.out.size hgw));have HU5:=h_ (HU4.out.grown hgd (fun h=>by omega));clear hgd hp;have z0:=cell_at HR5.out 0 rfl;have z1:=cell_at HR5.out 1 rfl;have f0:=froz_at HR5.out 0;have f1:=froz_at HR5.out 1;have x0:=cell_at HX5.out 0 rfl;have x1:=cell_at HX5.out 1 rfl;obtain⟨fe,hfe⟩:∃ x,x=r.2.fin.err:=⟨_,rfl⟩
 rw[<-hfe] at he;have HFE:Hid (pgF l r=fe):=h_ (by unfold pgF;rw[HF.out,hfe];rfl);clear hfe
 match fe,he with
 | none,he =>
  have he':ev=.nilIface:=he;subst he';clear he;go_wp2_with fail
  refine bodyPost_ret (v:=.tuple #[.agg #[.slice qa qn qc,.slice fa fn fc],.nilIface]) (by simp[results,Tryz.results7,go_sem,z0,z1]) rfl ⟨below_set1 (below_set1 HB5.out hNr 0 _) hNr 1 _,.inr ⟨HFE.out,_,_,rfl,?_⟩⟩;exact ((HU5.out.grown (grown_set _ kr 0 _) (fun h=>by omega)).grown (grown_set _ kr 1 _) (fun h=>by omega)).mono fun b h=>Nat.le_trans hwN h
 | some (c,ln,cl),he =>
  obtain⟨q,rfl,hq,-⟩:=he;have hqk:q≠kr:=fun e=>by subst e;have:=HR5.out;unfold AtB at hq;rw[hq] at this;injection this with this;injection this with _ this;exact absurd this (by decide)
  have HA:=h_ hq;clear hq;go_wp2_with fail
  refine bodyPost_ret (v:=.tuple #[.agg #[.slice none 0 0,.slice none 0 0],.iface 111 (.pointer (some ⟨q,0,none⟩))]) (by simp[results,Tryz.results7,go_sem,z0,z1]) rfl ⟨below_set1 (below_set1 HB5.out hNr 0 _) hNr 1 _,.inl ⟨(c,ln,cl),_,HFE.out,rfl,q,rfl,?_⟩⟩;have:=HA.out;unfold AtB at this ⊢;rw[set1_other _ _ _ _ hqk,set1_other _ _ _ _ hqk];exact this
end Go.Proofs.YtkocdbgmckdcpaaGreatDoor
namespace Go.Proofs.YtkocdbgmckdcpaaGreatDoor
open Go.RowKit Go.Maps
set_option maxRecDepth 100000
set_option linter.unusedVariables false
set_option linter.unusedSimpArgs false
def fnZ:Value:=.agg #[.string ⟨#[]⟩,.slice none 0 0,.string ⟨#[]⟩,.int .i64 0,.bool false,.int .i64 0,.string ⟨#[]⟩,.string ⟨#[]⟩,.bool false,.slice none 0 0,.slice none 0 0,.int .i64 0,.int .i64 0,.int .i64 0,.int .i64 0,.int .i64 0,.string ⟨#[]⟩,.string ⟨#[]⟩,.bool false,.slice none 0 0,.slice none 0 0,.int .i64 0,.int .i64 0,.int .i64 0,.int .i64 0]
def qlZ:Value:=.agg #[.string ⟨#[]⟩,.slice none 0 0,.int .i64 0,.string ⟨#[]⟩,.string ⟨#[]⟩,.bool false,.slice none 0 0,.slice none 0 0,.int .i64 0,.int .i64 0,.int .i64 0,.int .i64 0]
theorem zeroB (w:World):(zeroValue 39).run Tryz.prog w=.ok (iv 0) w:=by kernel_rfl
theorem zeroF (w:World):(zeroValue 50).run Tryz.prog w=.ok fnZ w:=by kernel_rfl
theorem zeroQ (w:World):(zeroValue 69).run Tryz.prog w=.ok qlZ w:=by kernel_rfl
theorem zeroF_ex:∃ B:List Value,B.length=25/\(∀ v ∈ B,v.oneCell'=true)/\∀ w,(zeroValue 50).run Tryz.prog w=.ok (.agg B.toArray) w:=⟨_,rfl,by decide,zeroF⟩
theorem zeroQ_ex:∃ B:List Value,B.length=12/\(∀ v ∈ B,v.oneCell'=true)/\∀ w,(zeroValue 69).run Tryz.prog w=.ok (.agg B.toArray) w:=⟨_,rfl,by decide,zeroQ⟩
def addM (m:Bs->Option Value) (n:Bs) (v:Value):Bs->Option Value:=if (m n).isSome then m else fun x=>if x=n then some v else m x
theorem addM_yes {m:Bs->Option Value} {n:Bs} {u:Value} (h:m n=some u) (v:Value):addM m n v=m:=by unfold addM;rw[h];rfl
theorem addM_no {m:Bs->Option Value} {n:Bs} (h:m n=none) (v:Value):addM m n v=fun x=>if x=n then some v else m x:=by unfold addM;rw[h];rfl
theorem addB_p (b:Nat) (m:Bs->Option Value) (nm:Bs) (v:Nat) (w:World) (hm:MapIs Tryz.prog 9 w b m) (hn:nm.length<=maxLen) {N:Nat} (hd:DomV m N) (hN:N<maxLen) :
  Calls Tryz.prog 86 #[.map (some b),.string ⟨nm.toArray⟩,iv v] w fun e w'=>e=.returned (.bool (m nm).isNone)/\MapIs Tryz.prog 9 w' b (addM m nm (iv v))/\w.grownBy w' (some b):=by
 have HM:=h_ hm;have HN:=h_ hn;have HD:=h_ hd;have HNN:=h_ hN;clear hm hn hd hN;obtain⟨V,hV⟩:∃ V:Value,V=iv v:=⟨_,rfl⟩
 have HV:=h_ hV;rw[<-hV];clear hV
 by_cases hc:(m nm).isSome=true
 ·obtain⟨u,hu⟩:=Option.isSome_iff_exists.1 hc;have HU:=h_ hu;clear hc hu;rw[HU.out];simp only[Option.isNone_some,Option.isNone_none];go_enter Tryz.func86,Tryz.ntmps86
  have HG1:=h_ (World.grownBy.refl w (some b));go_wp2_with (first | (at_lookup;refine wp_look_ok _ rfl _ _ 85 rfl 9 39 Tryz.underlying9 Tryz.underlying85 (zeroB _) b m rfl HM.out nm rfl HN.out ?_;rw[HU.out];simp only[Option.isSome_some,Option.isSome_none,Option.getD_some,Option.getD_none]) | fail)
  go_ret
  exact⟨rfl,by rw[addM_yes HU.out];exact HM.out,HG1.out⟩
 have hu:m nm=none:=by simpa using hc
 have HU:=h_ hu;clear hc hu;rw[HU.out];simp only[Option.isNone_some,Option.isNone_none];go_enter Tryz.func86,Tryz.ntmps86
 have HG1:=h_ (World.grownBy.refl w (some b));have HMX:=HM;go_wp2_with (first | (at_lookup;refine wp_look_ok _ rfl _ _ 85 rfl 9 39 Tryz.underlying9 Tryz.underlying85 (zeroB _) b m rfl HM.out nm rfl HN.out ?_;rw[HU.out];simp only[Option.isSome_some,Option.isSome_none,Option.getD_some,Option.getD_none]) | (at_mapUpdate;refine wp_update _ rfl _ _ _ 85 rfl 9 39 Tryz.underlying9 Tryz.underlying85 b m rfl HMX.out HD.out HNN.out nm rfl HN.out _ rfl ?_;intro wz hmz hgz) | fail)
 have HMZ:=h_ hmz;have HGZ:=h_ hgz;clear hmz hgz;go_wp2_with fail
 go_ret
 exact⟨rfl,by rw[addM_no HU.out];exact HMZ.out,grown_tr HG1.out HGZ.out⟩
theorem addF_p (b:Nat) (m:Bs->Option Value) (nm:Bs) (A:List Value) (hA:A.length=25) (hA1:∀ v ∈ A,v.oneCell'=true) (w:World) (hm:MapIs Tryz.prog 9 w b m) (hn:nm.length<=maxLen) {N:Nat} (hd:DomV m N) (hN:N<maxLen) (hS:∀ n u,m n=some u->∃ B:List Value,B.length=25/\(∀ v ∈ B,v.oneCell'=true)/\u=.agg B.toArray) :
  Calls Tryz.prog 56 #[.map (some b),.string ⟨nm.toArray⟩,.agg A.toArray] w fun e w'=>e=.returned (.bool (m nm).isNone)/\MapIs Tryz.prog 9 w' b (addM m nm (.agg A.toArray))/\w.grownBy w' (some b):=by
 have HM:=h_ hm;have HN:=h_ hn;have HD:=h_ hd;have HNN:=h_ hN;clear hm hn hd hN;obtain⟨V,hV⟩:∃ V:Value,V=.agg A.toArray:=⟨_,rfl⟩
 have HV:=h_ hV;rw[<-hV];clear hV;have HS:=h_ hS;clear hS
 by_cases hc:(m nm).isSome=true
 ·obtain⟨u,hu⟩:=Option.isSome_iff_exists.1 hc;have HU:=h_ hu;clear hc hu;rw[HU.out];simp only[Option.isNone_some,Option.isNone_none];rw[HV.out];obtain⟨B,hB,hB1,rfl⟩:=HS.out _ _ HU.out;go_enter Tryz.func56,Tryz.ntmps56
  go_upto_region 1 with fail
  obtain⟨w1,k,hw,hkk,hb,hs1,HA⟩:=newb w A.toArray 50;rw[hw,<-hkk];have HM1:=h_ (HM.out.keep (hb.block _ HM.out.lt));have HG1:=h_ (below_grown hb (some b));have hkb:b<k:=by rw[hkk];exact HM.out.lt
  clear hw hkk hb hs1;have hBs:B.toArray.size=25:=by rw[List.size_toArray];exact hB
  have hBa:B.toArray.all (·.oneCell')=true:=by rw[List.all_toArray];exact List.all_eq_true.2 hB1
  have hmd:=made_at w1 (.cells (#[.string ⟨#[]⟩,.slice none 0 0,.string ⟨#[]⟩,.int .i64 0,.bool false,.int .i64 0,.string ⟨#[]⟩,.string ⟨#[]⟩,.bool false,.slice none 0 0,.slice none 0 0,.int .i64 0,.int .i64 0,.int .i64 0,.int .i64 0,.int .i64 0,.string ⟨#[]⟩,.string ⟨#[]⟩,.bool false,.slice none 0 0,.slice none 0 0,.int .i64 0,.int .i64 0,.int .i64 0,.int .i64 0]:Array Value) 50) _ rfl;have HBS:=h_ hBs;have HBA:=h_ hBa;have HMD:=h_ hmd;clear hBs hBa hmd hB hB1
  go_upto_region 2 with (first | (at_lookup;refine wp_look_ok _ rfl _ _ 84 rfl 9 50 Tryz.underlying9 Tryz.underlying84 (zeroF _) b m rfl HM1.out nm rfl HN.out ?_;rw[HU.out];simp only[Option.isSome_some,Option.isSome_none,Option.getD_some,Option.getD_none]) | (refine wpList_store_row (P:=Tryz.prog) rfl 50 _ _ rfl w1.heap.size B.toArray rfl rfl 50 (#[.string ⟨#[]⟩,.slice none 0 0,.string ⟨#[]⟩,.int .i64 0,.bool false,.int .i64 0,.string ⟨#[]⟩,.string ⟨#[]⟩,.bool false,.slice none 0 0,.slice none 0 0,.int .i64 0,.int .i64 0,.int .i64 0,.int .i64 0,.int .i64 0,.string ⟨#[]⟩,.string ⟨#[]⟩,.bool false,.slice none 0 0,.slice none 0 0,.int .i64 0,.int .i64 0,.int .i64 0,.int .i64 0]:Array Value) HMD.out (by rw[HBS.out];kernel_rfl) (HBS.out.symm) HBA.out ?_) | fail)
  obtain⟨w2,hw⟩:∃ x,x=(w1.alloc (.cells (#[.string ⟨#[]⟩,.slice none 0 0,.string ⟨#[]⟩,.int .i64 0,.bool false,.int .i64 0,.string ⟨#[]⟩,.string ⟨#[]⟩,.bool false,.slice none 0 0,.slice none 0 0,.int .i64 0,.int .i64 0,.int .i64 0,.int .i64 0,.int .i64 0,.string ⟨#[]⟩,.string ⟨#[]⟩,.bool false,.slice none 0 0,.slice none 0 0,.int .i64 0,.int .i64 0,.int .i64 0,.int .i64 0]:Array Value) 50)).setRow w1.heap.size B.toArray:=⟨_,rfl⟩
  rw[<-hw];have hgs:=grown_setRow (w1.alloc (.cells (#[.string ⟨#[]⟩,.slice none 0 0,.string ⟨#[]⟩,.int .i64 0,.bool false,.int .i64 0,.string ⟨#[]⟩,.string ⟨#[]⟩,.bool false,.slice none 0 0,.slice none 0 0,.int .i64 0,.int .i64 0,.int .i64 0,.int .i64 0,.int .i64 0,.string ⟨#[]⟩,.string ⟨#[]⟩,.bool false,.slice none 0 0,.slice none 0 0,.int .i64 0,.int .i64 0,.int .i64 0,.int .i64 0]:Array Value) 50)) w1.heap.size B.toArray;have hb2:Below w1.heap.size w1 w2:=by rw[hw];exact ((Below.refl _ _).alloc (Nat.le_refl _) _).trans (grown_below hgs (by simp) (Nat.le_refl _))
  have HM2:=h_ (HM1.out.keep (hb2.block _ HM1.out.lt));have HG2:=h_ (grown_tr HG1.out (below_grown hb2 (some b)));replace HA:=kB hb2 HA;clear hw hgs hb2 HM1 HG1 HMD HBS HBA;go_wp2_with fail
  go_ret
  exact⟨rfl,by rw[addM_yes HU.out];exact HM2.out,HG2.out⟩
 have hu:m nm=none:=by simpa using hc
 have HU:=h_ hu;clear hc hu;rw[HU.out];simp only[Option.isNone_some,Option.isNone_none];rw[HV.out];obtain⟨B,hB,hB1,hz⟩:=zeroF_ex;have HZ:=h_ hz;clear hz;go_enter Tryz.func56,Tryz.ntmps56
 go_upto_region 1 with fail
 obtain⟨w1,k,hw,hkk,hb,hs1,HA⟩:=newb w A.toArray 50;rw[hw,<-hkk];have HM1:=h_ (HM.out.keep (hb.block _ HM.out.lt));have HG1:=h_ (below_grown hb (some b));have hkb:b<k:=by rw[hkk];exact HM.out.lt
 clear hw hkk hb hs1;have hBs:B.toArray.size=25:=by rw[List.size_toArray];exact hB
 have hBa:B.toArray.all (·.oneCell')=true:=by rw[List.all_toArray];exact List.all_eq_true.2 hB1
 have hmd:=made_at w1 (.cells (#[.string ⟨#[]⟩,.slice none 0 0,.string ⟨#[]⟩,.int .i64 0,.bool false,.int .i64 0,.string ⟨#[]⟩,.string ⟨#[]⟩,.bool false,.slice none 0 0,.slice none 0 0,.int .i64 0,.int .i64 0,.int .i64 0,.int .i64 0,.int .i64 0,.string ⟨#[]⟩,.string ⟨#[]⟩,.bool false,.slice none 0 0,.slice none 0 0,.int .i64 0,.int .i64 0,.int .i64 0,.int .i64 0]:Array Value) 50) _ rfl;have HBS:=h_ hBs;have HBA:=h_ hBa;have HMD:=h_ hmd;clear hBs hBa hmd hB hB1
 go_upto_region 2 with (first | (at_lookup;refine wp_look_ok _ rfl _ _ 84 rfl 9 50 Tryz.underlying9 Tryz.underlying84 (HZ.out _) b m rfl HM1.out nm rfl HN.out ?_;rw[HU.out];simp only[Option.isSome_some,Option.isSome_none,Option.getD_some,Option.getD_none]) | (refine wpList_store_row (P:=Tryz.prog) rfl 50 _ _ rfl w1.heap.size B.toArray rfl rfl 50 (#[.string ⟨#[]⟩,.slice none 0 0,.string ⟨#[]⟩,.int .i64 0,.bool false,.int .i64 0,.string ⟨#[]⟩,.string ⟨#[]⟩,.bool false,.slice none 0 0,.slice none 0 0,.int .i64 0,.int .i64 0,.int .i64 0,.int .i64 0,.int .i64 0,.string ⟨#[]⟩,.string ⟨#[]⟩,.bool false,.slice none 0 0,.slice none 0 0,.int .i64 0,.int .i64 0,.int .i64 0,.int .i64 0]:Array Value) HMD.out (by rw[HBS.out];kernel_rfl) (HBS.out.symm) HBA.out ?_) | fail)
 obtain⟨w2,hw⟩:∃ x,x=(w1.alloc (.cells (#[.string ⟨#[]⟩,.slice none 0 0,.string ⟨#[]⟩,.int .i64 0,.bool false,.int .i64 0,.string ⟨#[]⟩,.string ⟨#[]⟩,.bool false,.slice none 0 0,.slice none 0 0,.int .i64 0,.int .i64 0,.int .i64 0,.int .i64 0,.int .i64 0,.string ⟨#[]⟩,.string ⟨#[]⟩,.bool false,.slice none 0 0,.slice none 0 0,.int .i64 0,.int .i64 0,.int .i64 0,.int .i64 0]:Array Value) 50)).setRow w1.heap.size B.toArray:=⟨_,rfl⟩
 rw[<-hw];have hgs:=grown_setRow (w1.alloc (.cells (#[.string ⟨#[]⟩,.slice none 0 0,.string ⟨#[]⟩,.int .i64 0,.bool false,.int .i64 0,.string ⟨#[]⟩,.string ⟨#[]⟩,.bool false,.slice none 0 0,.slice none 0 0,.int .i64 0,.int .i64 0,.int .i64 0,.int .i64 0,.int .i64 0,.string ⟨#[]⟩,.string ⟨#[]⟩,.bool false,.slice none 0 0,.slice none 0 0,.int .i64 0,.int .i64 0,.int .i64 0,.int .i64 0]:Array Value) 50)) w1.heap.size B.toArray;have hb2:Below w1.heap.size w1 w2:=by rw[hw];exact ((Below.refl _ _).alloc (Nat.le_refl _) _).trans (grown_below hgs (by simp) (Nat.le_refl _))
 have HM2:=h_ (HM1.out.keep (hb2.block _ HM1.out.lt));have HG2:=h_ (grown_tr HG1.out (below_grown hb2 (some b)));replace HA:=kB hb2 HA;clear hw hgs hb2 HM1 HG1 HMD HBS HBA;have HMX:=HM2;have hcA:∀ j v,A[j]?=some v->w2.cell? ((⟨k,0,none⟩:Addr).add j)=some v:=fun j v hj=>by rw[add_lit,Nat.zero_add];exact cell_at HA.out j (by simpa using hj)
 have HCA:=h_ hcA;clear hcA;go_wp2_with (first | (refine wpList_plain rfl fun K1 hK1=>?_;refine wp_load_row (P:=Tryz.prog) 50 _ rfl ⟨k,0,none⟩ rfl A _ HCA.out Tryz.underlying50 rfl (by rw[hA];kernel_rfl) ?_;refine hK1 _ _ ?_) | (at_mapUpdate;refine wp_update _ rfl _ _ _ 84 rfl 9 50 Tryz.underlying9 Tryz.underlying84 b m rfl HMX.out HD.out HNN.out nm rfl HN.out _ rfl ?_;intro wz hmz hgz) | fail)
 have HMZ:=h_ hmz;have HGZ:=h_ hgz;clear hmz hgz;go_wp2_with fail
 go_ret
 refine⟨rfl,?_,grown_tr HG2.out HGZ.out⟩;rw[addM_no HU.out];exact HMZ.out
theorem addQ_p (b:Nat) (m:Bs->Option Value) (nm:Bs) (A:List Value) (hA:A.length=12) (hA1:∀ v ∈ A,v.oneCell'=true) (w:World) (hm:MapIs Tryz.prog 9 w b m) (hn:nm.length<=maxLen) {N:Nat} (hd:DomV m N) (hN:N<maxLen) (hS:∀ n u,m n=some u->∃ B:List Value,B.length=12/\(∀ v ∈ B,v.oneCell'=true)/\u=.agg B.toArray) :
  Calls Tryz.prog 54 #[.map (some b),.string ⟨nm.toArray⟩,.agg A.toArray] w fun e w'=>e=.returned (.bool (m nm).isNone)/\MapIs Tryz.prog 9 w' b (addM m nm (.agg A.toArray))/\w.grownBy w' (some b):=by
 have HM:=h_ hm;have HN:=h_ hn;have HD:=h_ hd;have HNN:=h_ hN;clear hm hn hd hN;obtain⟨V,hV⟩:∃ V:Value,V=.agg A.toArray:=⟨_,rfl⟩
 have HV:=h_ hV;rw[<-hV];clear hV;have HS:=h_ hS;clear hS
 by_cases hc:(m nm).isSome=true
 ·obtain⟨u,hu⟩:=Option.isSome_iff_exists.1 hc;have HU:=h_ hu;clear hc hu;rw[HU.out];simp only[Option.isNone_some,Option.isNone_none];rw[HV.out];obtain⟨B,hB,hB1,rfl⟩:=HS.out _ _ HU.out;go_enter Tryz.func54,Tryz.ntmps54
  go_upto_region 1 with fail
  obtain⟨w1,k,hw,hkk,hb,hs1,HA⟩:=newb w A.toArray 69;rw[hw,<-hkk];have HM1:=h_ (HM.out.keep (hb.block _ HM.out.lt));have HG1:=h_ (below_grown hb (some b));have hkb:b<k:=by rw[hkk];exact HM.out.lt
  clear hw hkk hb hs1;have hBs:B.toArray.size=12:=by rw[List.size_toArray];exact hB
  have hBa:B.toArray.all (·.oneCell')=true:=by rw[List.all_toArray];exact List.all_eq_true.2 hB1
  have hmd:=made_at w1 (.cells (#[.string ⟨#[]⟩,.slice none 0 0,.int .i64 0,.string ⟨#[]⟩,.string ⟨#[]⟩,.bool false,.slice none 0 0,.slice none 0 0,.int .i64 0,.int .i64 0,.int .i64 0,.int .i64 0]:Array Value) 69) _ rfl;have HBS:=h_ hBs;have HBA:=h_ hBa;have HMD:=h_ hmd;clear hBs hBa hmd hB hB1
  go_upto_region 2 with (first | (at_lookup;refine wp_look_ok _ rfl _ _ 124 rfl 9 69 Tryz.underlying9 Tryz.underlying124 (zeroQ _) b m rfl HM1.out nm rfl HN.out ?_;rw[HU.out];simp only[Option.isSome_some,Option.isSome_none,Option.getD_some,Option.getD_none]) | (refine wpList_store_row (P:=Tryz.prog) rfl 69 _ _ rfl w1.heap.size B.toArray rfl rfl 69 (#[.string ⟨#[]⟩,.slice none 0 0,.int .i64 0,.string ⟨#[]⟩,.string ⟨#[]⟩,.bool false,.slice none 0 0,.slice none 0 0,.int .i64 0,.int .i64 0,.int .i64 0,.int .i64 0]:Array Value) HMD.out (by rw[HBS.out];kernel_rfl) (HBS.out.symm) HBA.out ?_) | fail)
  obtain⟨w2,hw⟩:∃ x,x=(w1.alloc (.cells (#[.string ⟨#[]⟩,.slice none 0 0,.int .i64 0,.string ⟨#[]⟩,.string ⟨#[]⟩,.bool false,.slice none 0 0,.slice none 0 0,.int .i64 0,.int .i64 0,.int .i64 0,.int .i64 0]:Array Value) 69)).setRow w1.heap.size B.toArray:=⟨_,rfl⟩
  rw[<-hw];have hgs:=grown_setRow (w1.alloc (.cells (#[.string ⟨#[]⟩,.slice none 0 0,.int .i64 0,.string ⟨#[]⟩,.string ⟨#[]⟩,.bool false,.slice none 0 0,.slice none 0 0,.int .i64 0,.int .i64 0,.int .i64 0,.int .i64 0]:Array Value) 69)) w1.heap.size B.toArray;have hb2:Below w1.heap.size w1 w2:=by rw[hw];exact ((Below.refl _ _).alloc (Nat.le_refl _) _).trans (grown_below hgs (by simp) (Nat.le_refl _))
  have HM2:=h_ (HM1.out.keep (hb2.block _ HM1.out.lt));have HG2:=h_ (grown_tr HG1.out (below_grown hb2 (some b)));replace HA:=kB hb2 HA;clear hw hgs hb2 HM1 HG1 HMD HBS HBA;go_wp2_with fail
  go_ret
  exact⟨rfl,by rw[addM_yes HU.out];exact HM2.out,HG2.out⟩
 have hu:m nm=none:=by simpa using hc
 have HU:=h_ hu;clear hc hu;rw[HU.out];simp only[Option.isNone_some,Option.isNone_none];rw[HV.out];obtain⟨B,hB,hB1,hz⟩:=zeroQ_ex;have HZ:=h_ hz;clear hz;go_enter Tryz.func54,Tryz.ntmps54
 go_upto_region 1 with fail
 obtain⟨w1,k,hw,hkk,hb,hs1,HA⟩:=newb w A.toArray 69;rw[hw,<-hkk];have HM1:=h_ (HM.out.keep (hb.block _ HM.out.lt));have HG1:=h_ (below_grown hb (some b));have hkb:b<k:=by rw[hkk];exact HM.out.lt
 clear hw hkk hb hs1;have hBs:B.toArray.size=12:=by rw[List.size_toArray];exact hB
 have hBa:B.toArray.all (·.oneCell')=true:=by rw[List.all_toArray];exact List.all_eq_true.2 hB1
 have hmd:=made_at w1 (.cells (#[.string ⟨#[]⟩,.slice none 0 0,.int .i64 0,.string ⟨#[]⟩,.string ⟨#[]⟩,.bool false,.slice none 0 0,.slice none 0 0,.int .i64 0,.int .i64 0,.int .i64 0,.int .i64 0]:Array Value) 69) _ rfl;have HBS:=h_ hBs;have HBA:=h_ hBa;have HMD:=h_ hmd;clear hBs hBa hmd hB hB1
 go_upto_region 2 with (first | (at_lookup;refine wp_look_ok _ rfl _ _ 124 rfl 9 69 Tryz.underlying9 Tryz.underlying124 (HZ.out _) b m rfl HM1.out nm rfl HN.out ?_;rw[HU.out];simp only[Option.isSome_some,Option.isSome_none,Option.getD_some,Option.getD_none]) | (refine wpList_store_row (P:=Tryz.prog) rfl 69 _ _ rfl w1.heap.size B.toArray rfl rfl 69 (#[.string ⟨#[]⟩,.slice none 0 0,.int .i64 0,.string ⟨#[]⟩,.string ⟨#[]⟩,.bool false,.slice none 0 0,.slice none 0 0,.int .i64 0,.int .i64 0,.int .i64 0,.int .i64 0]:Array Value) HMD.out (by rw[HBS.out];kernel_rfl) (HBS.out.symm) HBA.out ?_) | fail)
 obtain⟨w2,hw⟩:∃ x,x=(w1.alloc (.cells (#[.string ⟨#[]⟩,.slice none 0 0,.int .i64 0,.string ⟨#[]⟩,.string ⟨#[]⟩,.bool false,.slice none 0 0,.slice none 0 0,.int .i64 0,.int .i64 0,.int .i64 0,.int .i64 0]:Array Value) 69)).setRow w1.heap.size B.toArray:=⟨_,rfl⟩
 rw[<-hw];have hgs:=grown_setRow (w1.alloc (.cells (#[.string ⟨#[]⟩,.slice none 0 0,.int .i64 0,.string ⟨#[]⟩,.string ⟨#[]⟩,.bool false,.slice none 0 0,.slice none 0 0,.int .i64 0,.int .i64 0,.int .i64 0,.int .i64 0]:Array Value) 69)) w1.heap.size B.toArray;have hb2:Below w1.heap.size w1 w2:=by rw[hw];exact ((Below.refl _ _).alloc (Nat.le_refl _) _).trans (grown_below hgs (by simp) (Nat.le_refl _))
 have HM2:=h_ (HM1.out.keep (hb2.block _ HM1.out.lt));have HG2:=h_ (grown_tr HG1.out (below_grown hb2 (some b)));replace HA:=kB hb2 HA;clear hw hgs hb2 HM1 HG1 HMD HBS HBA;have HMX:=HM2;have hcA:∀ j v,A[j]?=some v->w2.cell? ((⟨k,0,none⟩:Addr).add j)=some v:=fun j v hj=>by rw[add_lit,Nat.zero_add];exact cell_at HA.out j (by simpa using hj)
 have HCA:=h_ hcA;clear hcA;go_wp2_with (first | (refine wpList_plain rfl fun K1 hK1=>?_;refine wp_load_row (P:=Tryz.prog) 69 _ rfl ⟨k,0,none⟩ rfl A _ HCA.out Tryz.underlying69 rfl (by rw[hA];kernel_rfl) ?_;refine hK1 _ _ ?_) | (at_mapUpdate;refine wp_update _ rfl _ _ _ 124 rfl 9 69 Tryz.underlying9 Tryz.underlying124 b m rfl HMX.out HD.out HNN.out nm rfl HN.out _ rfl ?_;intro wz hmz hgz) | fail)
 have HMZ:=h_ hmz;have HGZ:=h_ hgz;clear hmz hgz;go_wp2_with fail
 go_ret
 refine⟨rfl,?_,grown_tr HG2.out HGZ.out⟩;rw[addM_no HU.out];exact HMZ.out
theorem variable_s {w0 w:World} {kg bf bs:Nat} {Gv:Bs->Option Value} {s:Ks} {rf:Bool} {ev:Value} (h:Ck w0 w kg bf bs Gv s rf ev) (x:X) (nm:Bs) (ln cl:Nat) (e0:x.nm=⟨nm.toArray⟩) (e1:x.ln=(ln:Nat)) (e2:x.cl=(cl:Nat)) (hn:nm.length<=maxLen) :
  Calls Tryz.prog 135 #[.pointer (some ⟨kg,0,none⟩),xv x] w fun e w'=>e=.returned (iv (kVar nm ln cl s).1)/\CkP w0 w kg bf bs Gv ((kVar nm ln cl s).2) rf w':=by
 obtain⟨xk,xnm,xot,xb,xao,xn,xq,xko,xkn,xkc,xln,xcl⟩:=x;simp only at e0 e1 e2;subst e0 e1 e2;have HN:=h_ hn;clear hn;simp only[xv];have HC:=h_ h;have HBg:=h_ h.blk;have HF:Hid (Fc w w kg bs):=h_ (Fc.refl _ _ _);clear h;go_enter Tryz.func135,Tryz.ntmps135
 go_upto_region 1 with fail
 obtain⟨w1,ke,hw,hkk,hb,hs1,HBe⟩:=newb w #[.int .i64 xk,.string ⟨nm.toArray⟩,.string xot,.bool xb,.slice xao xn xq,.slice xko xkn xkc,.int .i64 (ln:Nat),.int .i64 (cl:Nat)] 46;have hge:=lk_ hkk HBg;have hse:bs<ke:=by rw[hkk];exact HC.out.sm.lt
 have hee:w.heap.size<=ke:=by rw[hkk];exact HF.out.size
 rw[hw,<-hkk];replace HBg:=kB hb HBg;replace HC:=h_ (HC.out.below hb);replace HF:=fb_ HF hb;clear hw hb hkk hs1;obtain⟨sc,er⟩:=s;have hlt_g:=lt_of_block HBg.out;have hlt_e:=lt_of_block HBe.out;refine R7.r0 [[],[0],[0,1],[0,1,2],[],[4],[0,1,2,3,4,5],[0,1,2,3,4,5,6],[0,1,2,3,4,5,6,7],[0,1,2,3,4,5,6,7],[0,1,2,3,4,5,6,7,8],[0,1,2,3,4,5,6,7,8,9,10]] 12 ?_;refine R7.cd ?_ (fun T xs wr hA=>?_) ?_
 rotate_left
 ·have e0:=hA.pq 0;simp only[gsa,gsz] at e0;clear hA;go_simp<;>(try with_reducible rfl)
 refine R7.cd ?_ (fun T xs wr hA=>?_) ?_
 rotate_left
 ·have e8:=tr_ (hA.tq 0 8) (hA.fq 0)
  (try simp (disch:=decide) only [R7.mi] at e8)
  clear hA;go_simp<;>(try with_reducible rfl)
 refine R7.cd ?_ (fun T xs wr hA=>?_) ?_
 rotate_left
 ·have e9:=tr_ (hA.tq 1 9) (hA.fq 1)
  (try simp (disch:=decide) only [R7.mi] at e9)
  clear hA;go_simp<;>(try with_reducible rfl)
 refine R7.cd ?_ (fun T xs wr hA=>?_) ?_
 rotate_left
 ·have e10:=tr_ (hA.tq 2 10) (hA.fq 2)
  (try simp (disch:=decide) only [R7.mi] at e10)
  have hBq:wr.heap[kg]?=_:=(hA.bl _ hlt_g (fun q h=>absurd h (Nat.not_lt_zero _))).trans HBg.out;obtain⟨q0,q1,q2,q3⟩:=cl4 hBq;clear hBq;clear hA;go_simp<;>(try with_reducible rfl)
 refine R7.cd ?_ (fun T xs wr hA=>?_) ?_
 rotate_left
 ·have e3:=hA.pq 3;simp only[gsa,gsc,gsz] at e3;clear hA;go_simp<;>(try with_reducible rfl)
 refine R7.cd ?_ (fun T xs wr hA=>?_) ?_
 rotate_left
 ·have e12:=tr_ (hA.tq 4 12) (hA.fq 4)
  (try simp (disch:=decide) only [R7.mi] at e12)
  have hBq:wr.heap[ke]?=_:=(hA.bl _ hlt_e (fun q h=>absurd h (Nat.not_lt_zero _))).trans HBe.out;obtain⟨q0,q1,q2,q3,q4,q5,q6,q7⟩:=cl8 hBq;clear hBq;clear hA;go_simp<;>(try with_reducible rfl)
 refine R7.Chain.call (fun xs v w=>v=.tuple #[iv ((sc nm).getD 0),.bool (sc nm).isSome]) (fun _ _ _ _ h _=>h) (fun _ _ _ _ _ h _ _=>h) (by rfl) (fun T xs wr hA=>?_) ?_
 ·have hsw:=(hA.be 0 (Nat.zero_le _) (fun _ _=>Nat.zero_le _)).size;have e11:=tr_ (hA.tq 3 11) (hA.fq 3);have e13:=tr_ (hA.tq 5 13) (hA.fq 5)
  (try simp (disch:=decide) only [R7.mi] at e11 e13)
  have hbw:=undrew (hA.be w1.heap.size (Nat.le_refl _) (fun q h=>absurd h (Nat.not_lt_zero _)));have hlk:=(HC.out.sm.keep (hbw.block _ HC.out.sm.lt)).look_ok Tryz.underlying9 Tryz.underlying85 (zeroB wr) (s:=nm) HN.out;rw[scV_get,scV_some] at hlk;unfold bsv at hlk;clear hbw;clear hA;refine⟨(by rfl),fun K hK=>?_⟩;go_simp
  exact hK.out _ _ rfl (Below.refl _ _)
 refine R7.cd ?_ (fun T xs wr hA=>?_) ?_
 rotate_left
 ·have e14:=hA.tm 6 14 (by rfl) (by rfl);have f14:xs 6=(.tuple #[iv ((sc nm).getD 0),.bool (sc nm).isSome]):=hA.fa 6 (by rfl);rw[f14] at e14;clear f14;clear hA;go_simp<;>(try with_reducible rfl)
 refine R7.cd ?_ (fun T xs wr hA=>?_) ?_
 rotate_left
 ·have e7:=tr_ (hA.tq 7 7) (hA.fq 7)
  (try simp (disch:=decide) only [R7.mi] at e7)
  clear hA;go_simp<;>(try with_reducible rfl)
 refine R7.cd ?_ (fun T xs wr hA=>?_) ?_
 rotate_left
 ·have e7:=tr_ (hA.tq 7 7) (hA.fq 7)
  (try simp (disch:=decide) only [R7.mi] at e7)
  clear hA;go_simp<;>(try with_reducible rfl)
 refine R7.cd ?_ (fun T xs wr hA=>?_) ?_
 rotate_left
 ·have e15:=tr_ (hA.tq 8 15) (hA.fq 8)
  (try simp (disch:=decide) only [R7.mi] at e15)
  clear hA;go_simp<;>(try with_reducible rfl)
 refine R7.cd ?_ (fun T xs wr hA=>?_) ?_
 rotate_left
 ·have e16:=tr_ (hA.tq 9 16) (hA.fq 9)
  (try simp (disch:=decide) only [R7.mi] at e16)
  clear hA;go_simp<;>(try with_reducible rfl)
 refine R7.Chain.done (fun xs w2 hL=>?_);obtain⟨⟨hbe,hbl⟩,hf,-,-⟩:=hL;have f0:xs 0=_:=hf 0 (by decide);have f1:xs 1=_:=hf 1 (by decide);have f2:xs 2=_:=hf 2 (by decide);have f3:xs 3=_:=hf 3 (by decide);have f4:xs 4=_:=hf 4 (by decide);have f5:xs 5=_:=hf 5 (by decide);have f6:xs 6=(.tuple #[iv ((sc nm).getD 0),.bool (sc nm).isSome]):=hf 6 (by decide);have f7:xs 7=_:=hf 7 (by decide);have f8:xs 8=_:=hf 8 (by decide);have f9:xs 9=_:=hf 9 (by decide);have f10:xs 10=_:=hf 10 (by decide);have f11:xs 11=_:=hf 11 (by decide)
 (try simp (disch:=decide) only [R7.mi] at f0 f1 f2 f3 f4 f5 f7 f8 f9 f10 f11)
 have hb:Below w1.heap.size w1 w2:=R7.b0_ hbe;clear hbe hbl hf;refine R7.rest_done ?_;simp only[R7.fill,t5_,t6_,t7_,f0,f1,f2,f3,f4,f5,f6,f7,f8,f9,f10,f11];clear hlt_g hlt_e f0 f1 f2 f3 f4 f5 f6 f7 f8 f9 f10 f11;replace HBg:=kB hb HBg;replace HBe:=kB hb HBe;replace HC:=h_ (HC.out.below hb);replace HF:=fb_ HF hb;clear hb;obtain⟨c0,c1,c2,c3,c4,c5,c6,c7⟩:=cl8 HBe.out;go_wp2_with fail
 refine (need_p HC.out ⟨xk,⟨nm.toArray⟩,xot,xb,xao,xn,xq,xko,xkn,xkc,(ln:Nat),(cl:Nat)⟩ ln cl rfl rfl (sc nm).isSome 3).mono ?_;rintro e w3 ⟨rfl,⟨ev,hC⟩,hF⟩;clear c0 c1 c2 c3 c4 c5 c6 c7;replace HBe:=kF hF HBe;replace HF:=h_ (HF.out.trans hF);replace HC:=h_ hC;replace HBg:=h_ hC.blk;clear hC hF;go_wp2_with fail
 go_ret
 exact⟨rfl,⟨_,HC.out⟩,HF.out⟩
theorem nbeq (a b:Nat):(((a:Nat):Int)==((b:Nat):Int))=(a==b):=by rw[Bool.eq_iff_iff];simp;omega
theorem nbeq1 (a:Nat):(((a:Nat):Int)==1)=(a==1):=nbeq a 1
theorem nbeq2 (a:Nat):(((a:Nat):Int)==2)=(a==2):=nbeq a 2
theorem choice_s {w0 w:World} {kg bf bs:Nat} {Gv:Bs->Option Value} {s:Ks} {rf:Bool} {ev:Value} (h:Ck w0 w kg bf bs Gv s rf ev) (x:X) (nm:Bs) (ln cl:Nat) (e0:x.nm=⟨nm.toArray⟩) (e1:x.ln=(ln:Nat)) (e2:x.cl=(cl:Nat)) (kt:Nat) (t0 t1 t2:Nat) (hT:w.heap[kt]?=some (.cells #[iv t0,iv t1,iv t2] 39 (0,0))) (n1:kt≠kg) (n2:kt≠bs) :
  Calls Tryz.prog 137 #[.pointer (some ⟨kg,0,none⟩),xv x,.slice (some ⟨kt,0,none⟩) 3 3] w fun e w'=>e=.returned (iv (kIf rf ln cl [t0,t1,t2] s).1)/\CkP w0 w kg bf bs Gv ((kIf rf ln cl [t0,t1,t2] s).2) rf w':=by
 unfold iv at hT
 by_cases h0:t0=1
 ·obtain⟨xk,xnm,xot,xb,xao,xn,xq,xko,xkn,xkc,xln,xcl⟩:=x;simp only at e0 e1 e2;subst e0 e1 e2;simp only[xv];subst h0;have HC:=h_ h;have HBg:=h_ h.blk;have HF:Hid (Fc w w kg bs):=h_ (Fc.refl _ _ _);clear h;replace hT:w.heap[kt]?=some (.cells #[.int .i64 1,.int .i64 (t1:Nat),.int .i64 (t2:Nat)] 39 (0,0)):=hT;have HBt:=h_ hT;clear hT;go_enter Tryz.func137,Tryz.ntmps137
  go_upto_region 1 with fail
  obtain⟨w1,ke,hw,hkk,hb,hs1,HBe⟩:=newb w #[.int .i64 xk,.string ⟨nm.toArray⟩,.string xot,.bool xb,.slice xao xn xq,.slice xko xkn xkc,.int .i64 (ln:Nat),.int .i64 (cl:Nat)] 46;have hge:=lk_ hkk HBg;have hse:bs<ke:=by rw[hkk];exact HC.out.sm.lt
  have hee:w.heap.size<=ke:=by rw[hkk];exact HF.out.size
  have ht_e:=lk_ hkk HBt;rw[hw,<-hkk];replace HBg:=kB hb HBg;replace HBt:=kB hb HBt;replace HC:=h_ (HC.out.below hb);replace HF:=fb_ HF hb;clear hw hb hkk hs1;obtain⟨c0,c1,c2,c3,c4,c5,c6,c7⟩:=cl8 HBe.out;obtain⟨g0,g1,g2,g3⟩:=cl4 HBg.out;obtain⟨y0,y1,y2⟩:=cl3 HBt.out;refine wp_region_still_tail 7 (by kernel_rfl) (by kernel_rfl) ?_;simp only[List.take_succ_cons,List.take_zero,List.drop_succ_cons,List.drop_zero];refine wpStill_step (fun K hK=>?_);replace hK:=h_ hK;go_simp
  refine hK.out _ ?_;clear hK K;refine wpStill_step (fun K hK=>?_);replace hK:=h_ hK;go_simp
  refine hK.out _ ?_;clear hK K;refine wpStill_step (fun K hK=>?_);replace hK:=h_ hK;go_simp
  refine hK.out _ ?_;clear hK K;refine wpStill_step (fun K hK=>?_);replace hK:=h_ hK;go_simp
  refine hK.out _ ?_;clear hK K;refine wpStill_step (fun K hK=>?_);replace hK:=h_ hK;go_simp
  refine hK.out _ ?_;clear hK K;refine wpStill_step (fun K hK=>?_);replace hK:=h_ hK;go_simp
  refine hK.out _ ?_;clear hK K;refine wpStill_step (fun K hK=>?_);replace hK:=h_ hK;go_simp
  refine hK.out _ ?_;clear hK K;refine wpStill_nil ?_;clear c0 c1 c2 c3 c4 c5 c6 c7 g0 g1 g2 g3 y0 y1 y2;obtain⟨w2,hw⟩:∃ x,x=w1.drew:=⟨_,rfl⟩
  have hb:Below w1.heap.size w1 w2:=by rw[hw];exact (Below.refl _ _).drew
  change wpList _ _ _ _ _ w1.drew;rw[<-hw];replace HBg:=kB hb HBg;replace HBt:=kB hb HBt;replace HBe:=kB hb HBe;replace HC:=h_ (HC.out.below hb);replace HF:=fb_ HF hb;clear hw hb;obtain⟨c0,c1,c2,c3,c4,c5,c6,c7⟩:=cl8 HBe.out;obtain⟨g0,g1,g2,g3⟩:=cl4 HBg.out;obtain⟨y0,y1,y2⟩:=cl3 HBt.out;go_wp2_with fail
  refine (need_p HC.out ⟨xk,⟨nm.toArray⟩,xot,xb,xao,xn,xq,xko,xkn,xkc,(ln:Nat),(cl:Nat)⟩ ln cl rfl rfl (!rf) 1).mono ?_;rintro e w3 ⟨rfl,⟨ev,hC⟩,hF⟩;clear c0 c1 c2 c3 c4 c5 c6 c7 g0 g1 g2 g3 y0 y1 y2;replace HBt:=kF hF HBt;replace HBe:=kF hF HBe;replace HF:=h_ (HF.out.trans hF);replace HC:=h_ hC;replace HBg:=h_ hC.blk;clear hC hF;go_upto_region 2 with fail
  have hlt_g:=lt_of_block HBg.out;have hlt_e:=lt_of_block HBe.out;have hlt_t:=lt_of_block HBt.out;refine R7.r0 [[],[],[],[2],[2,3],[2,3,4],[2,3,4,5],[2,3,4,5,6],[2,3,4,5,6,7],[2,3,4,5,6,7,8],[2,3,4,5,6],[2,3,4,5,6,10],[2,3,4,5,6,10,11],[2,3,4,5,6,7,8,9,10,11,12],[2,3,4,5,6,7,8,9,10,11,12,13],[0,1,2,3,4,5,6,7,8,9,10,11,12,13,14]] 15 ?_;refine R7.cd ?_ (fun T xs wr hA=>?_) ?_
  rotate_left
  ·have e0:=hA.pq 0;simp only[gsa,gsz] at e0;clear hA;go_simp<;>(try with_reducible rfl)
  refine R7.cd ?_ (fun T xs wr hA=>?_) ?_
  rotate_left
  ·have e4:=hA.pq 4;simp only[gsa,gsc,gsz] at e4;have hBq:wr.heap[ke]?=_:=(hA.bl _ hlt_e (fun q h=>absurd h (Nat.not_lt_zero _))).trans HBe.out;obtain⟨q0,q1,q2,q3,q4,q5,q6,q7⟩:=cl8 hBq;clear hBq;clear hA;go_simp<;>(try with_reducible rfl)
  refine R7.cd ?_ (fun T xs wr hA=>?_) ?_
  rotate_left
  ·have e2:=hA.pq 2;simp only[gsa,gsc,gsz] at e2;clear hA;go_simp<;>(try with_reducible rfl)
  refine R7.cd ?_ (fun T xs wr hA=>?_) ?_
  rotate_left
  ·have e17:=tr_ (hA.tq 2 17) (hA.fq 2)
   (try simp (disch:=decide) only [R7.mi] at e17)
   clear hA;go_simp<;>(try with_reducible rfl)
  refine R7.cd ?_ (fun T xs wr hA=>?_) ?_
  rotate_left
  ·have e18:=tr_ (hA.tq 3 18) (hA.fq 3)
   (try simp (disch:=decide) only [R7.mi] at e18)
   have hBq:wr.heap[kt]?=_:=(hA.bl _ hlt_t (fun q h=>absurd h (Nat.not_lt_zero _))).trans HBt.out;obtain⟨q0,q1,q2⟩:=cl3 hBq;clear hBq;clear hA;go_simp<;>(try with_reducible rfl)
  refine R7.cd ?_ (fun T xs wr hA=>?_) ?_
  rotate_left
  ·have e19:=tr_ (hA.tq 4 19) (hA.fq 4)
   (try simp (disch:=decide) only [R7.mi] at e19)
   clear hA;go_simp<;>(try with_reducible rfl)
  refine R7.cd ?_ (fun T xs wr hA=>?_) ?_
  rotate_left
  ·have e20:=tr_ (hA.tq 5 20) (hA.fq 5)
   (try simp (disch:=decide) only [R7.mi] at e20)
   clear hA;go_simp<;>(try with_reducible rfl)
  refine R7.Chain.det ?_ (by rfl) (fun T xs wr hA=>?_) ?_
  rotate_left 1
  ·have e21:=tr_ (hA.tq 6 21) (hA.fq 6)
   (try simp (disch:=decide) only [R7.mi] at e21)
   have e2:=hA.pq 2;simp only[gsa,gsc,gsz] at e2;clear hA;refine⟨((Rely.wanted_at rfl (by rfl) e21).trans (by rfl)),?_⟩;go_simp<;>(try with_reducible rfl)
  refine R7.Chain.det ?_ (by rfl) (fun T xs wr hA=>?_) ?_
  rotate_left 1
  ·have e21:=tr_ (hA.tq 6 21) (hA.fq 6);have e22:=tr_ (hA.tq 7 22) (hA.fq 7)
   (try simp (disch:=decide) only [R7.mi] at e21 e22)
   clear hA;refine⟨((Rely.wanted_at rfl (by rfl) e21).trans (by rfl)),?_⟩;go_simp<;>(try with_reducible rfl)
  refine R7.Chain.det ?_ (by rfl) (fun T xs wr hA=>?_) ?_
  rotate_left 1
  ·have e21:=tr_ (hA.tq 6 21) (hA.fq 6);have e23:=tr_ (hA.tq 8 23) (hA.fq 8)
   (try simp (disch:=decide) only [R7.mi] at e21 e23)
   have hBq:wr.heap[kt]?=_:=(hA.bl _ hlt_t (fun q h=>absurd h (Nat.not_lt_zero _))).trans HBt.out;obtain⟨q0,q1,q2⟩:=cl3 hBq;clear hBq;clear hA;refine⟨((Rely.wanted_at rfl (by rfl) e21).trans (by rfl)),?_⟩;go_simp<;>(try with_reducible rfl)
  refine R7.Chain.det ?_ (by rfl) (fun T xs wr hA=>?_) ?_
  rotate_left 1
  ·have e21:=tr_ (hA.tq 6 21) (hA.fq 6)
   (try simp (disch:=decide) only [R7.mi] at e21)
   have e2:=hA.pq 2;simp only[gsa,gsc,gsz] at e2;clear hA;refine⟨((Rely.wanted_at rfl (by rfl) e21).trans (by rfl)),?_⟩;go_simp<;>(try with_reducible rfl)
  refine R7.Chain.det ?_ (by rfl) (fun T xs wr hA=>?_) ?_
  rotate_left 1
  ·have e21:=tr_ (hA.tq 6 21) (hA.fq 6);have e25:=tr_ (hA.tq 10 25) (hA.fq 10)
   (try simp (disch:=decide) only [R7.mi] at e21 e25)
   clear hA;refine⟨((Rely.wanted_at rfl (by rfl) e21).trans (by rfl)),?_⟩;go_simp<;>(try with_reducible rfl)
  refine R7.Chain.det ?_ (by rfl) (fun T xs wr hA=>?_) ?_
  rotate_left 1
  ·have e21:=tr_ (hA.tq 6 21) (hA.fq 6);have e26:=tr_ (hA.tq 11 26) (hA.fq 11)
   (try simp (disch:=decide) only [R7.mi] at e21 e26)
   have hBq:wr.heap[kt]?=_:=(hA.bl _ hlt_t (fun q h=>absurd h (Nat.not_lt_zero _))).trans HBt.out;obtain⟨q0,q1,q2⟩:=cl3 hBq;clear hBq;clear hA;refine⟨((Rely.wanted_at rfl (by rfl) e21).trans (by rfl)),?_⟩;go_simp<;>(try with_reducible rfl)
  refine R7.Chain.det ?_ (by rfl) (fun T xs wr hA=>?_) ?_
  rotate_left 1
  ·have e21:=tr_ (hA.tq 6 21) (hA.fq 6);have e24:=tr_ (hA.tq 9 24) (hA.fq 9);have e27:=tr_ (hA.tq 12 27) (hA.fq 12)
   (try simp (disch:=decide) only [R7.mi] at e21 e24 e27)
   clear hA;refine⟨((Rely.wanted_at rfl (by rfl) e21).trans (by rfl)),?_⟩;go_simp<;>(try with_reducible rfl)
  refine R7.cd ?_ (fun T xs wr hA=>?_) ?_
  rotate_left
  ·have e21:=tr_ (hA.tq 6 21) (hA.fq 6);have e28:=tr_ (hA.tq 13 28) (hA.fq 13)
   (try simp (disch:=decide) only [R7.mi] at e21 e28)
   clear hA;go_simp<;>(try with_reducible rfl)
  refine R7.Chain.done (fun xs w4 hL=>?_);obtain⟨⟨hbe,hbl⟩,hf,-,-⟩:=hL;have f0:xs 0=_:=hf 0 (by decide);have f1:xs 1=_:=hf 1 (by decide);have f2:xs 2=_:=hf 2 (by decide);have f3:xs 3=_:=hf 3 (by decide);have f4:xs 4=_:=hf 4 (by decide);have f5:xs 5=_:=hf 5 (by decide);have f6:xs 6=_:=hf 6 (by decide);have f7:xs 7=_:=hf 7 (by decide);have f8:xs 8=_:=hf 8 (by decide);have f9:xs 9=_:=hf 9 (by decide);have f10:xs 10=_:=hf 10 (by decide);have f11:xs 11=_:=hf 11 (by decide);have f12:xs 12=_:=hf 12 (by decide);have f13:xs 13=_:=hf 13 (by decide);have f14:xs 14=_:=hf 14 (by decide)
  (try simp (disch:=decide) only [R7.mi] at f0 f1 f2 f3 f4 f5 f6 f7 f8 f9 f10 f11 f12 f13 f14)
  have hb:Below w3.heap.size w3 w4:=R7.b0_ hbe;clear hbe hbl hf;refine R7.rest_list (by decide) (by kernel_rfl) ?_;simp only[R7.fill,t1_,t2_,t3_,t4_,t5_,t6_,t7_,f0,f1,f2,f3,f4,f5,f6,f7,f8,f9,f10,f11,f12,f13,f14];clear hlt_g hlt_e hlt_t f0 f1 f2 f3 f4 f5 f6 f7 f8 f9 f10 f11 f12 f13 f14;replace HBg:=kB hb HBg;replace HBt:=kB hb HBt;replace HBe:=kB hb HBe;replace HC:=h_ (HC.out.below hb);replace HF:=fb_ HF hb;clear hb;go_wp2_with fail
  refine (need_p HC.out ⟨xk,⟨nm.toArray⟩,xot,xb,xao,xn,xq,xko,xkn,xkc,(ln:Nat),(cl:Nat)⟩ ln cl rfl rfl (((t1:Nat):Int)==((t2:Nat):Int)) 4).mono ?_;rintro e w5 ⟨rfl,⟨ev,hC⟩,hF⟩;replace HBt:=kF hF HBt;replace HBe:=kF hF HBe;replace HF:=h_ (HF.out.trans hF);replace HC:=h_ hC;replace HBg:=h_ hC.blk;clear hC hF;obtain⟨y0,y1,y2⟩:=cl3 HBt.out;go_wp2_with fail
  go_ret
  rw[nbeq] at HC;exact⟨rfl,⟨_,HC.out⟩,HF.out⟩
 obtain⟨xk,xnm,xot,xb,xao,xn,xq,xko,xkn,xkc,xln,xcl⟩:=x;simp only at e0 e1 e2;subst e0 e1 e2;simp only[xv];have q0:(((t0:Nat):Int)==1)=false:=by rw[nbeq1];simpa using h0
 have H0:=h_ h0;clear h0;have HC:=h_ h;have HBg:=h_ h.blk;have HF:Hid (Fc w w kg bs):=h_ (Fc.refl _ _ _);clear h;have HBt:=h_ hT;clear hT;go_enter Tryz.func137,Tryz.ntmps137
 go_upto_region 1 with fail
 obtain⟨w1,ke,hw,hkk,hb,hs1,HBe⟩:=newb w #[.int .i64 xk,.string ⟨nm.toArray⟩,.string xot,.bool xb,.slice xao xn xq,.slice xko xkn xkc,.int .i64 (ln:Nat),.int .i64 (cl:Nat)] 46;have hge:=lk_ hkk HBg;have hse:bs<ke:=by rw[hkk];exact HC.out.sm.lt
 have hee:w.heap.size<=ke:=by rw[hkk];exact HF.out.size
 have ht_e:=lk_ hkk HBt;rw[hw,<-hkk];replace HBg:=kB hb HBg;replace HBt:=kB hb HBt;replace HC:=h_ (HC.out.below hb);replace HF:=fb_ HF hb;clear hw hb hkk hs1;obtain⟨c0,c1,c2,c3,c4,c5,c6,c7⟩:=cl8 HBe.out;obtain⟨g0,g1,g2,g3⟩:=cl4 HBg.out;obtain⟨y0,y1,y2⟩:=cl3 HBt.out;refine wp_region_still_tail 7 (by kernel_rfl) (by kernel_rfl) ?_;simp only[List.take_succ_cons,List.take_zero,List.drop_succ_cons,List.drop_zero];refine wpStill_step (fun K hK=>?_);replace hK:=h_ hK;go_simp
 refine hK.out _ ?_;clear hK K;refine wpStill_step (fun K hK=>?_);replace hK:=h_ hK;go_simp
 refine hK.out _ ?_;clear hK K;refine wpStill_step (fun K hK=>?_);replace hK:=h_ hK;go_simp
 refine hK.out _ ?_;clear hK K;refine wpStill_step (fun K hK=>?_);replace hK:=h_ hK;go_simp
 refine hK.out _ ?_;clear hK K;refine wpStill_step (fun K hK=>?_);replace hK:=h_ hK;go_simp
 refine hK.out _ ?_;clear hK K;refine wpStill_step (fun K hK=>?_);replace hK:=h_ hK;go_simp
 refine hK.out _ ?_;clear hK K;refine wpStill_step (fun K hK=>?_);replace hK:=h_ hK;go_simp
 refine hK.out _ ?_;clear hK K;refine wpStill_nil ?_;clear c0 c1 c2 c3 c4 c5 c6 c7 g0 g1 g2 g3 y0 y1 y2;obtain⟨w2,hw⟩:∃ x,x=w1.drew:=⟨_,rfl⟩
 have hb:Below w1.heap.size w1 w2:=by rw[hw];exact (Below.refl _ _).drew
 change wpList _ _ _ _ _ w1.drew;rw[<-hw];replace HBg:=kB hb HBg;replace HBt:=kB hb HBt;replace HBe:=kB hb HBe;replace HC:=h_ (HC.out.below hb);replace HF:=fb_ HF hb;clear hw hb;obtain⟨c0,c1,c2,c3,c4,c5,c6,c7⟩:=cl8 HBe.out;obtain⟨g0,g1,g2,g3⟩:=cl4 HBg.out;obtain⟨y0,y1,y2⟩:=cl3 HBt.out;go_wp2_with fail
 refine (need_p HC.out ⟨xk,⟨nm.toArray⟩,xot,xb,xao,xn,xq,xko,xkn,xkc,(ln:Nat),(cl:Nat)⟩ ln cl rfl rfl (!rf) 1).mono ?_;rintro e w3 ⟨rfl,⟨ev,hC⟩,hF⟩;clear c0 c1 c2 c3 c4 c5 c6 c7 g0 g1 g2 g3 y0 y1 y2;replace HBt:=kF hF HBt;replace HBe:=kF hF HBe;replace HF:=h_ (HF.out.trans hF);replace HC:=h_ hC;replace HBg:=h_ hC.blk;clear hC hF;go_upto_region 2 with fail
 have hlt_g:=lt_of_block HBg.out;have hlt_e:=lt_of_block HBe.out;have hlt_t:=lt_of_block HBt.out;refine R7.r0 [[],[],[],[2],[2,3],[2,3,4],[2,3,4,5],[2,3,4,5,6],[2,3,4,5,6,7],[2,3,4,5,6,7,8],[2,3,4,5,6],[2,3,4,5,6,10],[2,3,4,5,6,10,11],[2,3,4,5,6,7,8,9,10,11,12],[2,3,4,5,6,7,8,9,10,11,12,13],[0,1,2,3,4,5,6,7,8,9,10,11,12,13,14]] 15 ?_;refine R7.cd ?_ (fun T xs wr hA=>?_) ?_
 rotate_left
 ·have e0:=hA.pq 0;simp only[gsa,gsz] at e0;clear hA;go_simp<;>(try with_reducible rfl)
 refine R7.cd ?_ (fun T xs wr hA=>?_) ?_
 rotate_left
 ·have e4:=hA.pq 4;simp only[gsa,gsc,gsz] at e4;have hBq:wr.heap[ke]?=_:=(hA.bl _ hlt_e (fun q h=>absurd h (Nat.not_lt_zero _))).trans HBe.out;obtain⟨q0,q1,q2,q3,q4,q5,q6,q7⟩:=cl8 hBq;clear hBq;clear hA;go_simp<;>(try with_reducible rfl)
 refine R7.cd ?_ (fun T xs wr hA=>?_) ?_
 rotate_left
 ·have e2:=hA.pq 2;simp only[gsa,gsc,gsz] at e2;clear hA;go_simp<;>(try with_reducible rfl)
 refine R7.cd ?_ (fun T xs wr hA=>?_) ?_
 rotate_left
 ·have e17:=tr_ (hA.tq 2 17) (hA.fq 2)
  (try simp (disch:=decide) only [R7.mi] at e17)
  clear hA;go_simp<;>(try with_reducible rfl)
 refine R7.cd ?_ (fun T xs wr hA=>?_) ?_
 rotate_left
 ·have e18:=tr_ (hA.tq 3 18) (hA.fq 3)
  (try simp (disch:=decide) only [R7.mi] at e18)
  have hBq:wr.heap[kt]?=_:=(hA.bl _ hlt_t (fun q h=>absurd h (Nat.not_lt_zero _))).trans HBt.out;obtain⟨q0,q1,q2⟩:=cl3 hBq;clear hBq;clear hA;go_simp<;>(try with_reducible rfl)
 refine R7.cd ?_ (fun T xs wr hA=>?_) ?_
 rotate_left
 ·have e19:=tr_ (hA.tq 4 19) (hA.fq 4)
  (try simp (disch:=decide) only [R7.mi] at e19)
  clear hA;go_simp<;>(try with_reducible rfl)
 refine R7.cd ?_ (fun T xs wr hA=>?_) ?_
 rotate_left
 ·have e20:=tr_ (hA.tq 5 20) (hA.fq 5)
  (try simp (disch:=decide) only [R7.mi] at e20)
  clear hA;go_simp<;>(try with_reducible rfl)
 refine R7.Chain.skip (by rfl) (fun T xs wr hA=>?_) ?_
 ·have e21:=tr_ (hA.tq 6 21) (hA.fq 6)
  (try simp (disch:=decide) only [R7.mi] at e21)
  exact ((Rely.wanted_at rfl (by rfl) e21).trans (by rfl))
 refine R7.Chain.skip (by rfl) (fun T xs wr hA=>?_) ?_
 ·have e21:=tr_ (hA.tq 6 21) (hA.fq 6)
  (try simp (disch:=decide) only [R7.mi] at e21)
  exact ((Rely.wanted_at rfl (by rfl) e21).trans (by rfl))
 refine R7.Chain.skip (by rfl) (fun T xs wr hA=>?_) ?_
 ·have e21:=tr_ (hA.tq 6 21) (hA.fq 6)
  (try simp (disch:=decide) only [R7.mi] at e21)
  exact ((Rely.wanted_at rfl (by rfl) e21).trans (by rfl))
 refine R7.Chain.skip (by rfl) (fun T xs wr hA=>?_) ?_
 ·have e21:=tr_ (hA.tq 6 21) (hA.fq 6)
  (try simp (disch:=decide) only [R7.mi] at e21)
  exact ((Rely.wanted_at rfl (by rfl) e21).trans (by rfl))
 refine R7.Chain.skip (by rfl) (fun T xs wr hA=>?_) ?_
 ·have e21:=tr_ (hA.tq 6 21) (hA.fq 6)
  (try simp (disch:=decide) only [R7.mi] at e21)
  exact ((Rely.wanted_at rfl (by rfl) e21).trans (by rfl))
 refine R7.Chain.skip (by rfl) (fun T xs wr hA=>?_) ?_
 ·have e21:=tr_ (hA.tq 6 21) (hA.fq 6)
  (try simp (disch:=decide) only [R7.mi] at e21)
  exact ((Rely.wanted_at rfl (by rfl) e21).trans (by rfl))
 refine R7.Chain.skip (by rfl) (fun T xs wr hA=>?_) ?_
 ·have e21:=tr_ (hA.tq 6 21) (hA.fq 6)
  (try simp (disch:=decide) only [R7.mi] at e21)
  exact ((Rely.wanted_at rfl (by rfl) e21).trans (by rfl))
 refine R7.cd ?_ (fun T xs wr hA=>?_) ?_
 rotate_left
 ·have e21:=tr_ (hA.tq 6 21) (hA.fq 6)
  (try simp (disch:=decide) only [R7.mi] at e21)
  have e28:=hA.tm 13 28 (by rfl) (by rfl);have f28:xs 13=(undef):=hA.fa 13 (by rfl);rw[f28] at e28;clear f28;clear hA;go_simp<;>(try with_reducible rfl)
 refine R7.Chain.done (fun xs w4 hL=>?_);obtain⟨⟨hbe,hbl⟩,hf,-,-⟩:=hL;have f0:xs 0=_:=hf 0 (by decide);have f1:xs 1=_:=hf 1 (by decide);have f2:xs 2=_:=hf 2 (by decide);have f3:xs 3=_:=hf 3 (by decide);have f4:xs 4=_:=hf 4 (by decide);have f5:xs 5=_:=hf 5 (by decide);have f6:xs 6=_:=hf 6 (by decide);have f7:xs 7=(undef):=hf 7 (by decide);have f8:xs 8=(undef):=hf 8 (by decide);have f9:xs 9=(undef):=hf 9 (by decide);have f10:xs 10=(undef):=hf 10 (by decide);have f11:xs 11=(undef):=hf 11 (by decide);have f12:xs 12=(undef):=hf 12 (by decide);have f13:xs 13=(undef):=hf 13 (by decide);have f14:xs 14=_:=hf 14 (by decide)
 (try simp (disch:=decide) only [R7.mi] at f0 f1 f2 f3 f4 f5 f6 f14)
 have hb:Below w3.heap.size w3 w4:=R7.b0_ hbe;clear hbe hbl hf;refine R7.rest_list (by decide) (by kernel_rfl) ?_;simp only[R7.fill,t1_,t2_,t3_,t4_,t5_,t6_,t7_,f0,f1,f2,f3,f4,f5,f6,f7,f8,f9,f10,f11,f12,f13,f14];clear hlt_g hlt_e hlt_t f0 f1 f2 f3 f4 f5 f6 f7 f8 f9 f10 f11 f12 f13 f14;replace HBg:=kB hb HBg;replace HBt:=kB hb HBt;replace HBe:=kB hb HBe;replace HC:=h_ (HC.out.below hb);replace HF:=fb_ HF hb;clear hb;go_wp2_with fail
 refine (need_p HC.out ⟨xk,⟨nm.toArray⟩,xot,xb,xao,xn,xq,xko,xkn,xkc,(ln:Nat),(cl:Nat)⟩ ln cl rfl rfl false 4).mono ?_;rintro e w5 ⟨rfl,⟨ev,hC⟩,hF⟩;replace HBt:=kF hF HBt;replace HBe:=kF hF HBe;replace HF:=h_ (HF.out.trans hF);replace HC:=h_ hC;replace HBg:=h_ hC.blk;clear hC hF;obtain⟨y0,y1,y2⟩:=cl3 HBt.out;go_wp2_with fail
 go_ret
 have e:(kIf rf ln cl [t0,t1,t2] s).2=(s.need ln cl (!rf) 1).need ln cl false 4:=by
  have e0:([t0,t1,t2].getD 0 0==1)=false:=beq_eq_false_iff_ne.2 H0.out;unfold kIf;simp only[e0,Bool.false_and]
 refine⟨rfl,⟨ev,?_⟩,HF.out⟩;rw[e];exact HC.out
def LB (w:World) (v:Value) (L:List Nat):Prop:=∃ ao c,v=.slice ao L.length c/\(L.length<=c/\c<=maxLen)/\∀ i (h:i<L.length),∃ a,ao=some a/\w.cell? (a.add i)=some (iv L[i])
theorem LB.keep {w w':World} {v:Value} {L:List Nat} (h:LB w v L) (hk:∀ ao n c,v=.slice ao n c->∀ a,ao=some a->a.block<w.heap.size->w'.heap[a.block]?=w.heap[a.block]?):LB w' v L:=by
 obtain⟨ao,c,rfl,h1,h2⟩:=h;refine⟨ao,c,rfl,h1,fun i hi=>?_⟩;obtain⟨a,e,h3⟩:=h2 i hi;have hl:=cell_lt h3;rw[add_block] at hl;exact⟨a,e,by rw[cell_keep (w:=w) (by rw[add_block];exact hk _ _ _ rfl a e hl)];exact h3⟩
theorem lb_block {w:World} {k:Nat} {L:List Nat} {T:TypeId} (h:w.heap[k]?=some (.cells (L.map iv).toArray T (0,0))) (hl:L.length<=maxLen):LB w (.slice (some ⟨k,0,none⟩) L.length L.length) L:=
 ⟨some ⟨k,0,none⟩,L.length,rfl,⟨Nat.le_refl _,hl⟩,fun i hi=>⟨_,rfl,by rw[add_lit,Nat.zero_add];exact cell_at (v:=iv L[i]) h i (by simp[hi])⟩⟩
theorem lb_nil (w:World):LB w (.slice none 0 0) []:=⟨none,0,rfl,⟨Nat.le_refl _,Nat.zero_le _⟩,fun i hi=>absurd hi (Nat.not_lt_zero _)⟩
theorem take_succ_eq {L M:List Nat} {k:Nat} (h:L.take k=M.take k) (h1:k<L.length) (h2:k<M.length) (e:L[k]=M[k]):L.take (k+1)=M.take (k+1):=by
 rw[List.take_succ_eq_append_getElem h1,List.take_succ_eq_append_getElem h2,h,e]
theorem equal_s (w:World) (v u:Value) (L M:List Nat) (h1:LB w v L) (h2:LB w u M) :
  Calls Tryz.prog 153 #[v,u] w fun e w'=>e=.returned (.bool (decide (L=M)))/\Below w.heap.size w w':=by
 obtain⟨ao,c,rfl,h3,h4⟩:=h1;obtain⟨bo,d,rfl,h5,h6⟩:=h2
 by_cases hl:L.length=M.length
 ·have hne:(((L.length:Nat):Int) != ((M.length:Nat):Int))=false:=by rw[hl];exact bne_self_eq_false _
  have HL:=h_ hl;have HA:=h_ h4;have HB:=h_ h6;have hm:L.length<=9223372036854775807:=Nat.le_trans h3.1 h3.2;clear hl h4 h6;go_enter Tryz.func153,Tryz.ntmps153
  go_wp2_with fail
  clear hne
  go_loopw [13] (fun i wr=>∃ k:Nat,i=.int .i64 (k:Nat)/\k<=L.length/\Hid (L.take k=M.take k)/\Hid (Below w.heap.size w wr)) (fun i _=>L.length - (intOf i).toNat)
  case atStart=>exact⟨0,rfl,Nat.zero_le _,h_ rfl,h_ (Below.refl _ _)⟩
  case round =>
   obtain⟨k,rfl,hk,HT,HW⟩:=hrel
   by_cases hi:k<L.length
   ·have hi2:k<M.length:=by rw[<-HL.out];exact hi
    obtain⟨a,rfl,hca⟩:=HA.out k hi;obtain⟨b,rfl,hcb⟩:=HB.out k hi2;have qa:wr.cell? (a.add k)=some (.int .i64 (L[k]:Nat)):=by rw[HW.out.cell (cell_lt hca)];exact hca
    have qb:wr.cell? (b.add k)=some (.int .i64 (M[k]:Nat)):=by rw[HW.out.cell (cell_lt hcb)];exact hcb
    obtain⟨x,hx⟩:∃ x,x=L[k]:=⟨_,rfl⟩
    obtain⟨y,hy⟩:∃ y,y=M[k]:=⟨_,rfl⟩
    rw[<-hx] at qa;rw[<-hy] at qb;have HX:=h_ hx;have HY:=h_ hy;clear hca hcb hx hy
    by_cases he:x=y
    ·have hb:(((x:Nat):Int) != ((y:Nat):Int))=false:=by rw[he];exact bne_self_eq_false _
     have HE:=h_ he;clear he;go_wp2_with fail
     go_quiet (fail)
     go_wp2_with fail
     go_roundw
     case rel=>exact⟨k+1,by go_num,hi,h_ (take_succ_eq HT.out hi hi2 (by rw[<-HX.out,<-HY.out,HE.out])),h_ (HW.out.trans (below_drewN' _ _ _))⟩
     case measure=>simp[intOf];omega
    have hb:(((x:Nat):Int) != ((y:Nat):Int))=true:=by rw[bne_iff_ne];omega
    have HE:=h_ he;clear he;go_wp2_with fail
    go_quiet (fail)
    go_wp2_with fail
    go_ret
    refine⟨?_,HW.out.trans (below_drewN' _ _ _)⟩;rw[decide_eq_false (fun e=>HE.out (by rw[HX.out,HY.out];simp only[e]))];rfl
   go_wp2_with fail
   go_ret
   refine⟨?_,HW.out⟩;have e:=HT.out;rw[show k=L.length by omega,List.take_length,HL.out,List.take_length] at e;rw[decide_eq_true e];rfl
 have hne:(((L.length:Nat):Int) != ((M.length:Nat):Int))=true:=by rw[bne_iff_ne];omega
 have HL:=h_ hl;clear hl h4 h6;go_enter Tryz.func153,Tryz.ntmps153
 go_wp2_with fail
 go_ret
 refine⟨?_,Below.refl _ _⟩;rw[decide_eq_false (fun e=>HL.out (by rw[e]))];rfl
theorem signature_s (w:World):∀ (k:Nat),k<29->Calls Tryz.prog 154 #[.int .i64 (k:Nat)] w fun e w'=>∃ v,e=.returned (.tuple #[v,iv (sig k).2])/\LB w' v (sig k).1/\Below w.heap.size w w'
 | 0,_ | 1,_ | 2,_ | 3,_ | 4,_=>by
  go_enter Tryz.func154,Tryz.ntmps154
  go_wp2_with fail
  exact bodyPost_ret (results_tmp2 Tryz.results154 _ _ _) rfl ⟨_,rfl,lb_nil _,Below.refl _ _⟩
 | 5,_=>by
  go_enter Tryz.func154,Tryz.ntmps154
  go_wp2_with fail
  exact bodyPost_ret (results_tmp2 Tryz.results154 _ _ _) rfl ⟨_,rfl,lb_block (L:=[0]) (made_at w _ _ rfl) (by decide),(Below.refl _ _).alloc (Nat.le_refl _) _⟩
 | 6,_=>by
  go_enter Tryz.func154,Tryz.ntmps154
  go_wp2_with fail
  exact bodyPost_ret (results_tmp2 Tryz.results154 _ _ _) rfl ⟨_,rfl,lb_block (L:=[1]) (made_at w _ _ rfl) (by decide),(Below.refl _ _).alloc (Nat.le_refl _) _⟩
 | 7,_ | 8,_ | 9,_=>by
  go_enter Tryz.func154,Tryz.ntmps154
  go_wp2_with fail
  exact bodyPost_ret (results_tmp2 Tryz.results154 _ _ _) rfl ⟨_,rfl,lb_block (L:=[2]) (made_at w _ _ rfl) (by decide),(Below.refl _ _).alloc (Nat.le_refl _) _⟩
 | 10,_ | 11,_ | 12,_ | 13,_ | 14,_=>by
  go_enter Tryz.func154,Tryz.ntmps154
  go_wp2_with fail
  exact bodyPost_ret (results_tmp2 Tryz.results154 _ _ _) rfl ⟨_,rfl,lb_block (L:=[0,0]) (made_at w _ _ rfl) (by decide),(Below.refl _ _).alloc (Nat.le_refl _) _⟩
 | 15,_ | 16,_=>by
  go_enter Tryz.func154,Tryz.ntmps154
  go_wp2_with fail
  exact bodyPost_ret (results_tmp2 Tryz.results154 _ _ _) rfl ⟨_,rfl,lb_nil _,Below.refl _ _⟩
 | 17,_ | 18,_ | 19,_ | 20,_=>by
  go_enter Tryz.func154,Tryz.ntmps154
  go_wp2_with fail
  exact bodyPost_ret (results_tmp2 Tryz.results154 _ _ _) rfl ⟨_,rfl,lb_block (L:=[0,0]) (made_at w _ _ rfl) (by decide),(Below.refl _ _).alloc (Nat.le_refl _) _⟩
 | 21,_ | 22,_=>by
  go_enter Tryz.func154,Tryz.ntmps154
  go_wp2_with fail
  exact bodyPost_ret (results_tmp2 Tryz.results154 _ _ _) rfl ⟨_,rfl,lb_block (L:=[1,1]) (made_at w _ _ rfl) (by decide),(Below.refl _ _).alloc (Nat.le_refl _) _⟩
 | 23,_=>by
  go_enter Tryz.func154,Tryz.ntmps154
  go_wp2_with fail
  exact bodyPost_ret (results_tmp2 Tryz.results154 _ _ _) rfl ⟨_,rfl,lb_block (L:=[0,2]) (made_at w _ _ rfl) (by decide),(Below.refl _ _).alloc (Nat.le_refl _) _⟩
 | 24,_ | 25,_ | 26,_ | 27,_ | 28,_=>by
  go_enter Tryz.func154,Tryz.ntmps154
  go_wp2_with fail
  exact bodyPost_ret (results_tmp2 Tryz.results154 _ _ _) rfl ⟨_,rfl,lb_nil _,Below.refl _ _⟩
 | k+29,h=>absurd h (by omega)
theorem gi_numS {w:World} {ao:Option Addr} {n c z m:Nat} (h:Sl w .u32 (.slice ao n c) (dig L32 z)) (hz:z<L32 ^ m):GI w (.agg #[.bool false,.slice ao n c]) (z:Nat) m:=by
 have:CI w (.agg #[.bool (decide ((z:Int)<0)),.slice ao n c]) (z:Nat) m:=⟨.slice ao n c,rfl,h,hz⟩
 rw[show decide ((z:Int)<0)=false from decide_eq_false (by omega)] at this;exact this.gi
theorem isPositive_s (x:X) (u:U) (w:World) (S:Nat->Prop) (h:Um w S x u) (hB:Bnd u) :
  Calls Tryz.prog 155 #[xv x] w fun e w'=>e=.returned (.bool (posU u))/\Below w.heap.size w w':=by
 obtain⟨k,nm,ot,z,ln,cl,ks⟩:=u;rw[Um] at h;rw[Bnd] at hB;obtain⟨⟨hk,ha⟩,⟨b1,b2,m,hm,hz⟩,⟨b4,b5⟩,hks⟩:=hB;obtain⟨⟨e1,e2,e3,e4,e5,e6⟩,⟨h2,h3⟩,⟨h4,h5,h6⟩,h7⟩:=h;obtain⟨xk,xnm,xot,xb,xao,xn,xq,xko,xkn,xkc,xln,xcl⟩:=x;simp only at e1 e2 e3 e4 e5 e6 h2;subst e1 e2 e3 e4 e5 e6;have HGI:=h_ (gi_numS h2 hz);have HM:Hid (m<=1000000):=h_ (by omega);clear h2 h3 h4 h5 h6 h7 hks hz hm b1 b2 b4 b5 ha;simp only[xv]
 by_cases hk0:k=0
 ·subst hk0;have hp:posU (.node 0 nm ot z ln cl ks)=decide (0<z):=by unfold posU;rfl
  rw[hp];clear hp hk;simp only[show (((0:Nat):Int))=0 from rfl];go_enter Tryz.func155,Tryz.ntmps155
  go_upto_region 1 with fail
  obtain⟨w1,ke,hw,hkk,hb,hs1,HBe⟩:=newb w #[.int .i64 0,.string ⟨nm.toArray⟩,.string ⟨ot.toArray⟩,.bool false,.slice xao xn xq,.slice xko xkn xkc,.int .i64 (ln:Nat),.int .i64 (cl:Nat)] 46;rw[hw,<-hkk];have HW:=h_ hb;have HG1:=h_ (HGI.out.below hb);clear hw hb hkk hs1;have c0:=cell_at (v:=.int .i64 0) HBe.out 0 rfl;have c3:=cell_at (v:=.bool false) HBe.out 3 rfl;have c4:=cell_at (v:=.slice xao xn xq) HBe.out 4 rfl;go_wp2_with fail
  refine (wsign_any _ _ m w1 HG1.out HM.out).mono ?_;rintro e w2 ⟨rfl,hb⟩;have HW2:=bw_ HW hb;obtain⟨sg,hsg⟩:∃ s,s=sgnZ (z:Nat):=⟨_,rfl⟩
  have HSG:=h_ hsg;rw[<-hsg];clear hsg hb c0 c3 c4;go_wp2_with fail
  go_ret
  refine⟨?_,HW2.out⟩;have:decide (0<sg)=decide (0<z):=by rw[HSG.out];unfold sgnZ;by_cases h0:0<z<;>simp[h0]<;>omega
  rw[<-this];rfl
 have hp:posU (.node k nm ot z ln cl ks)=false:=by show (k==0 && decide (0<z))=false;rw[beq_eq_false_iff_ne.2 hk0];rfl
 have q0:(((k:Nat):Int)==0)=false:=by rw[beq_eq_false_iff_ne];omega
 rw[hp];clear hp hk hk0;go_enter Tryz.func155,Tryz.ntmps155
 go_upto_region 1 with fail
 obtain⟨w1,ke,hw,hkk,hb,hs1,HBe⟩:=newb w #[.int .i64 (k:Nat),.string ⟨nm.toArray⟩,.string ⟨ot.toArray⟩,.bool false,.slice xao xn xq,.slice xko xkn xkc,.int .i64 (ln:Nat),.int .i64 (cl:Nat)] 46;rw[hw,<-hkk];have HW:=h_ hb;clear hw hb hkk hs1;have c0:=cell_at (v:=.int .i64 (k:Nat)) HBe.out 0 rfl;go_wp2_with fail
 go_ret
 exact⟨rfl,HW.out⟩
theorem ps_getD (ks:List U) (h:1<ks.length):ks.getD 1 u0=ks[1]:=by rw[List.getD_eq_getElem?_getD,List.getElem?_eq_getElem h];rfl
theorem ar13 {k:Nat} (h:k=13\/k=14):ar k=2:=by rcases h with rfl | rfl<;>rfl
theorem operation_s {w0 w:World} {kg bf bs:Nat} {Gv:Bs->Option Value} {s:Ks} {rf:Bool} {ev:Value} (h:Ck w0 w kg bf bs Gv s rf ev) (x:X) (k:Nat) (nm ot:Bs) (z ln cl:Nat) (ks:List U) (S:Nat->Prop) (hu:Um w0 S x (.node k nm ot z ln cl ks)) (hb:Bnd (.node k nm ot z ln cl ks)) (kt:Nat) (ts:List Nat) (hT:w.heap[kt]?=some (.cells (ts.map iv).toArray 39 (0,0))) (hts:ts.length<=maxLen) (n1:kt≠kg) (n2:kt≠bs) :
  Calls Tryz.prog 138 #[.pointer (some ⟨kg,0,none⟩),xv x,.slice (some ⟨kt,0,none⟩) ts.length ts.length] w fun e w'=>e=.returned (iv (kOp rf k ln cl (posU (ks.getD 1 u0)) ts s).1)/\CkP w0 w kg bf bs Gv ((kOp rf k ln cl (posU (ks.getD 1 u0)) ts s).2) rf w':=by
 rw[Um] at hu;obtain⟨⟨e1,e2,e3,e4,e5,e6⟩,⟨h2,h3⟩,⟨h4,h5,h6⟩,h7⟩:=hu;obtain⟨xk,xnm,xot,xb,xao,xn,xq,xko,xkn,xkc,xln,xcl⟩:=x;simp only at e1 e2 e3 e4 e5 e6 h2 h3 h4 h5 h6 h7;have HK:=h_ (fun j (hj:j<ks.length)=>ums_get 0 j h7 hj);have HBN:=h_ hb;rw[Bnd] at hb;have hk29:=hb.1.1;have HAR:=h_ hb.1.2;have HKS:=h_ (fun j (hj:j<ks.length)=>bnds_mem hb.2.2.2 (List.getElem_mem hj));have hkl:ks.length<=9223372036854775807:=by rw[<-h4];exact Nat.le_trans h5.1 h5.2
 have HTS:=h_ hts;clear h7 hb hts h2 h3 h5 h6;subst e1 e2 e3 e4 e5 e6;subst h4;simp only[xv];have HC:=h_ h;have HBg:=h_ h.blk;have HF:Hid (Fc w w kg bs):=h_ (Fc.refl _ _ _);clear h;have HBt:=h_ hT;clear hT;go_enter Tryz.func138,Tryz.ntmps138
 go_upto_region 1 with fail
 obtain⟨w1,ke,hw,hkk,hb,hs1,HBe⟩:=newb w #[.int .i64 (k:Nat),.string ⟨nm.toArray⟩,.string ⟨ot.toArray⟩,.bool false,.slice xao xn xq,.slice xko ks.length xkc,.int .i64 (ln:Nat),.int .i64 (cl:Nat)] 46;have hge:=lk_ hkk HBg;have hse:bs<ke:=by rw[hkk];exact HC.out.sm.lt
 have hee:w.heap.size<=ke:=by rw[hkk];exact HF.out.size
 have ht_e:=lk_ hkk HBt;rw[hw,<-hkk];replace HBg:=kB hb HBg;replace HBt:=kB hb HBt;replace HC:=h_ (HC.out.below hb);replace HF:=fb_ HF hb;clear hw hb hkk hs1;have c0:=cell_at (v:=.int .i64 (k:Nat)) HBe.out 0 rfl;go_wp2_with fail
 refine (signature_s w1 k hk29).mono ?_;rintro e w2 ⟨vs,rfl,hL,hb⟩;clear c0;replace HBg:=kB hb HBg;replace HBt:=kB hb HBt;replace HBe:=kB hb HBe;replace HC:=h_ (HC.out.below hb);replace HF:=fb_ HF hb;have HL:=h_ hL;clear hL hb;obtain⟨so,hso⟩:∃ s,s=(sig k):=⟨_,rfl⟩
 rw[<-hso] at HL;rw[<-hso];have HSO:=h_ hso;clear hso;go_upto_region 2 with fail
 have hlt_e:=lt_of_block HBe.out;refine R7.r0 [[],[],[],[],[2,3],[0,1,2,3,4]] 5 ?_;refine R7.cd ?_ (fun T xs wr hA=>?_) ?_
 rotate_left
 ·have e0:=hA.pq 0;simp only[gsa,gsz] at e0;clear hA;go_simp<;>(try with_reducible rfl)
 refine R7.cd ?_ (fun T xs wr hA=>?_) ?_
 rotate_left
 ·have e4:=hA.pq 4;simp only[gsa,gsc,gsz] at e4;have hBq:wr.heap[ke]?=_:=(hA.bl _ hlt_e (fun q h=>absurd h (Nat.not_lt_zero _))).trans HBe.out;obtain⟨q0,q1,q2,q3,q4,q5,q6,q7⟩:=cl8 hBq;clear hBq;clear hA;go_simp<;>(try with_reducible rfl)
 refine R7.cd ?_ (fun T xs wr hA=>?_) ?_
 rotate_left
 ·have e2:=hA.pq 2;simp only[gsa,gsc,gsz] at e2;clear hA;go_simp<;>(try with_reducible rfl)
 refine R7.cd ?_ (fun T xs wr hA=>?_) ?_
 rotate_left
 ·have e7:=hA.pq 7;simp only[gsa,gsc,gsz] at e7;clear hA;go_simp<;>(try with_reducible rfl)
 refine R7.Chain.call (fun xs v w=>v=.bool (decide (ts=so.1))) (fun _ _ _ _ h _=>h) (fun _ _ _ _ _ h _ _=>h) (by rfl) (fun T xs wr hA=>?_) ?_
 ·have hsw:=(hA.be 0 (Nat.zero_le _) (fun _ _=>Nat.zero_le _)).size;have e17:=tr_ (hA.tq 2 17) (hA.fq 2);have e18:=tr_ (hA.tq 3 18) (hA.fq 3)
  (try simp (disch:=decide) only [R7.mi] at e17 e18)
  have hbw:=undrew (hA.be w2.heap.size (Nat.le_refl _) (fun q h=>absurd h (Nat.not_lt_zero _)));have hl1:=lb_block (w:=wr) ((hbw.block _ (lt_of_block HBt.out)).trans HBt.out) HTS.out;have hl2:=HL.out.keep (w':=wr) (fun _ _ _ _ a _ ha=>hbw.block _ ha);have HL1:=h_ hl1;have HL2:=h_ hl2;clear hl1 hl2 hbw;clear hA;refine⟨(by rfl),fun K hK=>?_⟩;go_simp
  refine (equal_s wr _ _ ts so.1 HL1.out HL2.out).mono ?_;rintro e w' ⟨rfl,hb⟩;exact hK.out _ _ rfl hb
 refine R7.Chain.done (fun xs w3 hL=>?_);obtain⟨⟨hbe,hbl⟩,hf,-,-⟩:=hL;have f0:xs 0=_:=hf 0 (by decide);have f1:xs 1=_:=hf 1 (by decide);have f2:xs 2=_:=hf 2 (by decide);have f3:xs 3=_:=hf 3 (by decide);have f4:xs 4=(.bool (decide (ts=so.1))):=hf 4 (by decide)
 (try simp (disch:=decide) only [R7.mi] at f0 f1 f2 f3)
 have hb:Below w2.heap.size w2 w3:=R7.b0_ hbe;clear hbe hbl hf;refine R7.rest_list (by decide) (by kernel_rfl) ?_;simp only[R7.fill,t1_,t2_,t3_,t4_,t5_,t6_,t7_,f0,f1,f2,f3,f4];clear hlt_e f0 f1 f2 f3 f4;replace HBg:=kB hb HBg;replace HBt:=kB hb HBt;replace HBe:=kB hb HBe;replace HC:=h_ (HC.out.below hb);replace HF:=fb_ HF hb;clear hb;go_wp2_with fail
 refine (need_p HC.out ⟨(k:Nat),⟨nm.toArray⟩,⟨ot.toArray⟩,false,xao,xn,xq,xko,ks.length,xkc,(ln:Nat),(cl:Nat)⟩ ln cl rfl rfl (decide (ts=so.1)) 4).mono ?_;rintro e w4 ⟨rfl,⟨ev,hC⟩,hF⟩;replace HBt:=kF hF HBt;replace HBe:=kF hF HBe;replace HF:=h_ (HF.out.trans hF);replace HC:=h_ hC;replace HBg:=h_ hC.blk;clear hC hF;obtain⟨s2,hs2⟩:∃ x,x=s.need ln cl (decide (ts=so.1)) 4:=⟨_,rfl⟩
 rw[<-hs2] at HC;have HS2:=h_ hs2;clear hs2
 by_cases h8:k=8
 ·have e:(kOp rf k ln cl (posU (ks.getD 1 u0)) ts s).2=s2.need ln cl rf 1:=by
   unfold kOp;simp only[<-HSO.out,<-HS2.out];rw[if_pos (.inl h8)]
  have HE:=h_ e;clear e;have HKK:=h_ h8;have q8:(((k:Nat):Int)==8)=true:=by rw[beq_iff_eq];omega
  clear h8;have c0:=cell_at (v:=.int .i64 (k:Nat)) HBe.out 0 rfl;go_upto_region 6 with fail
  clear q8;have hlt_g:=lt_of_block HBg.out;have hlt_e:=lt_of_block HBe.out;refine R7.r0 [[],[],[],[2],[2,3],[2,3,4],[0,1,2,3,4,5]] 6 ?_;refine R7.cd ?_ (fun T xs wr hA=>?_) ?_
  rotate_left
  ·have e0:=hA.pq 0;simp only[gsa,gsz] at e0;clear hA;go_simp<;>(try with_reducible rfl)
  refine R7.cd ?_ (fun T xs wr hA=>?_) ?_
  rotate_left
  ·have e4:=hA.pq 4;simp only[gsa,gsc,gsz] at e4;have hBq:wr.heap[ke]?=_:=(hA.bl _ hlt_e (fun q h=>absurd h (Nat.not_lt_zero _))).trans HBe.out;obtain⟨q0,q1,q2,q3,q4,q5,q6,q7⟩:=cl8 hBq;clear hBq;clear hA;go_simp<;>(try with_reducible rfl)
  refine R7.cd ?_ (fun T xs wr hA=>?_) ?_
  rotate_left
  ·have e0:=hA.pq 0;simp only[gsa,gsz] at e0;clear hA;go_simp<;>(try with_reducible rfl)
  refine R7.cd ?_ (fun T xs wr hA=>?_) ?_
  rotate_left
  ·have e28:=tr_ (hA.tq 2 28) (hA.fq 2)
   (try simp (disch:=decide) only [R7.mi] at e28)
   clear hA;go_simp<;>(try with_reducible rfl)
  refine R7.cd ?_ (fun T xs wr hA=>?_) ?_
  rotate_left
  ·have e29:=tr_ (hA.tq 3 29) (hA.fq 3)
   (try simp (disch:=decide) only [R7.mi] at e29)
   clear hA;go_simp<;>(try with_reducible rfl)
  refine R7.cd ?_ (fun T xs wr hA=>?_) ?_
  rotate_left
  ·have e30:=tr_ (hA.tq 4 30) (hA.fq 4)
   (try simp (disch:=decide) only [R7.mi] at e30)
   have hBq:wr.heap[kg]?=_:=(hA.bl _ hlt_g (fun q h=>absurd h (Nat.not_lt_zero _))).trans HBg.out;obtain⟨q0,q1,q2,q3⟩:=cl4 hBq;clear hBq;clear hA;go_simp<;>(try with_reducible rfl)
  refine R7.Chain.done (fun xs w5 hL=>?_);obtain⟨⟨hbe,hbl⟩,hf,-,-⟩:=hL;have f0:xs 0=_:=hf 0 (by decide);have f1:xs 1=_:=hf 1 (by decide);have f2:xs 2=_:=hf 2 (by decide);have f3:xs 3=_:=hf 3 (by decide);have f4:xs 4=_:=hf 4 (by decide);have f5:xs 5=_:=hf 5 (by decide)
  (try simp (disch:=decide) only [R7.mi] at f0 f1 f2 f3 f4 f5)
  have hb:Below w4.heap.size w4 w5:=R7.b0_ hbe;clear hbe hbl hf;refine R7.rest_list (by decide) (by kernel_rfl) ?_;simp only[R7.fill,t1_,t2_,t3_,t4_,t5_,t6_,t7_,f0,f1,f2,f3,f4,f5];clear hlt_g hlt_e f0 f1 f2 f3 f4 f5;clear c0;replace HBg:=kB hb HBg;replace HBt:=kB hb HBt;replace HBe:=kB hb HBe;replace HC:=h_ (HC.out.below hb);replace HF:=fb_ HF hb;clear hb;go_wp2_with fail
  refine (need_p HC.out ⟨(k:Nat),⟨nm.toArray⟩,⟨ot.toArray⟩,false,xao,xn,xq,xko,ks.length,xkc,(ln:Nat),(cl:Nat)⟩ ln cl rfl rfl rf 1).mono ?_;rintro e w6 ⟨rfl,⟨ev,hC⟩,hF⟩;replace HBt:=kF hF HBt;replace HBe:=kF hF HBe;replace HF:=h_ (HF.out.trans hF);replace HC:=h_ hC;replace HBg:=h_ hC.blk;clear hC hF;go_wp2_with fail
  go_ret
  refine⟨?_,⟨ev,?_⟩,HF.out⟩
  ·rw[HSO.out];rfl
  rw[HE.out];exact HC.out
 by_cases h9:k=9
 ·have e:(kOp rf k ln cl (posU (ks.getD 1 u0)) ts s).2=s2.need ln cl rf 1:=by
   unfold kOp;simp only[<-HSO.out,<-HS2.out];rw[if_pos (.inr h9)]
  have HE:=h_ e;clear e;have HKK:=h_ h9;have q8:(((k:Nat):Int)==8)=false:=by rw[beq_eq_false_iff_ne];omega
  have q9:(((k:Nat):Int)==9)=true:=by rw[beq_iff_eq];omega
  clear h9;clear h8;have c0:=cell_at (v:=.int .i64 (k:Nat)) HBe.out 0 rfl;go_upto_region 6 with fail
  clear q8 q9;have hlt_g:=lt_of_block HBg.out;have hlt_e:=lt_of_block HBe.out;refine R7.r0 [[],[],[],[2],[2,3],[2,3,4],[0,1,2,3,4,5]] 6 ?_;refine R7.cd ?_ (fun T xs wr hA=>?_) ?_
  rotate_left
  ·have e0:=hA.pq 0;simp only[gsa,gsz] at e0;clear hA;go_simp<;>(try with_reducible rfl)
  refine R7.cd ?_ (fun T xs wr hA=>?_) ?_
  rotate_left
  ·have e4:=hA.pq 4;simp only[gsa,gsc,gsz] at e4;have hBq:wr.heap[ke]?=_:=(hA.bl _ hlt_e (fun q h=>absurd h (Nat.not_lt_zero _))).trans HBe.out;obtain⟨q0,q1,q2,q3,q4,q5,q6,q7⟩:=cl8 hBq;clear hBq;clear hA;go_simp<;>(try with_reducible rfl)
  refine R7.cd ?_ (fun T xs wr hA=>?_) ?_
  rotate_left
  ·have e0:=hA.pq 0;simp only[gsa,gsz] at e0;clear hA;go_simp<;>(try with_reducible rfl)
  refine R7.cd ?_ (fun T xs wr hA=>?_) ?_
  rotate_left
  ·have e28:=tr_ (hA.tq 2 28) (hA.fq 2)
   (try simp (disch:=decide) only [R7.mi] at e28)
   clear hA;go_simp<;>(try with_reducible rfl)
  refine R7.cd ?_ (fun T xs wr hA=>?_) ?_
  rotate_left
  ·have e29:=tr_ (hA.tq 3 29) (hA.fq 3)
   (try simp (disch:=decide) only [R7.mi] at e29)
   clear hA;go_simp<;>(try with_reducible rfl)
  refine R7.cd ?_ (fun T xs wr hA=>?_) ?_
  rotate_left
  ·have e30:=tr_ (hA.tq 4 30) (hA.fq 4)
   (try simp (disch:=decide) only [R7.mi] at e30)
   have hBq:wr.heap[kg]?=_:=(hA.bl _ hlt_g (fun q h=>absurd h (Nat.not_lt_zero _))).trans HBg.out;obtain⟨q0,q1,q2,q3⟩:=cl4 hBq;clear hBq;clear hA;go_simp<;>(try with_reducible rfl)
  refine R7.Chain.done (fun xs w5 hL=>?_);obtain⟨⟨hbe,hbl⟩,hf,-,-⟩:=hL;have f0:xs 0=_:=hf 0 (by decide);have f1:xs 1=_:=hf 1 (by decide);have f2:xs 2=_:=hf 2 (by decide);have f3:xs 3=_:=hf 3 (by decide);have f4:xs 4=_:=hf 4 (by decide);have f5:xs 5=_:=hf 5 (by decide)
  (try simp (disch:=decide) only [R7.mi] at f0 f1 f2 f3 f4 f5)
  have hb:Below w4.heap.size w4 w5:=R7.b0_ hbe;clear hbe hbl hf;refine R7.rest_list (by decide) (by kernel_rfl) ?_;simp only[R7.fill,t1_,t2_,t3_,t4_,t5_,t6_,t7_,f0,f1,f2,f3,f4,f5];clear hlt_g hlt_e f0 f1 f2 f3 f4 f5;clear c0;replace HBg:=kB hb HBg;replace HBt:=kB hb HBt;replace HBe:=kB hb HBe;replace HC:=h_ (HC.out.below hb);replace HF:=fb_ HF hb;clear hb;go_wp2_with fail
  refine (need_p HC.out ⟨(k:Nat),⟨nm.toArray⟩,⟨ot.toArray⟩,false,xao,xn,xq,xko,ks.length,xkc,(ln:Nat),(cl:Nat)⟩ ln cl rfl rfl rf 1).mono ?_;rintro e w6 ⟨rfl,⟨ev,hC⟩,hF⟩;replace HBt:=kF hF HBt;replace HBe:=kF hF HBe;replace HF:=h_ (HF.out.trans hF);replace HC:=h_ hC;replace HBg:=h_ hC.blk;clear hC hF;go_wp2_with fail
  go_ret
  refine⟨?_,⟨ev,?_⟩,HF.out⟩
  ·rw[HSO.out];rfl
  rw[HE.out];exact HC.out
 by_cases h13:k=13
 ·have hk1:1<ks.length:=by rcases HAR.out with h | h;omega;rw[h,ar13 (.inl h13)];omega
  have e:(kOp rf k ln cl (posU (ks.getD 1 u0)) ts s).2=s2.need ln cl (posU ks[1]) 1:=by
   unfold kOp;simp only[<-HSO.out,<-HS2.out];rw[if_neg (by omega),if_pos (.inl h13),ps_getD ks hk1]
  have HE:=h_ e;clear e;have q8:(((k:Nat):Int)==8)=false:=by rw[beq_eq_false_iff_ne];omega
  have q9:(((k:Nat):Int)==9)=false:=by rw[beq_eq_false_iff_ne];omega
  have q13:(((k:Nat):Int)==13)=true:=by rw[beq_iff_eq];omega
  clear h8 h9 h13;have c0:=cell_at (v:=.int .i64 (k:Nat)) HBe.out 0 rfl;go_upto_region 9 with fail
  clear q8 q9 q13;obtain⟨y,⟨a,ha,hy⟩,hU⟩:=HK.out 1 hk1;subst ha;have HY:=h_ hy;have HU:=h_ hU;clear hy hU;have hlt_e:=lt_of_block HBe.out;refine R7.r0 [[],[],[],[2],[2,3],[2,3,4],[2,3,4,5],[0,1,2,3,4,5,6]] 7 ?_;refine R7.cd ?_ (fun T xs wr hA=>?_) ?_
  rotate_left
  ·have e0:=hA.pq 0;simp only[gsa,gsz] at e0;clear hA;go_simp<;>(try with_reducible rfl)
  refine R7.cd ?_ (fun T xs wr hA=>?_) ?_
  rotate_left
  ·have e4:=hA.pq 4;simp only[gsa,gsc,gsz] at e4;have hBq:wr.heap[ke]?=_:=(hA.bl _ hlt_e (fun q h=>absurd h (Nat.not_lt_zero _))).trans HBe.out;obtain⟨q0,q1,q2,q3,q4,q5,q6,q7⟩:=cl8 hBq;clear hBq;clear hA;go_simp<;>(try with_reducible rfl)
  refine R7.cd ?_ (fun T xs wr hA=>?_) ?_
  rotate_left
  ·have e4:=hA.pq 4;simp only[gsa,gsc,gsz] at e4;clear hA;go_simp<;>(try with_reducible rfl)
  refine R7.cd ?_ (fun T xs wr hA=>?_) ?_
  rotate_left
  ·have e38:=tr_ (hA.tq 2 38) (hA.fq 2)
   (try simp (disch:=decide) only [R7.mi] at e38)
   have hBq:wr.heap[ke]?=_:=(hA.bl _ hlt_e (fun q h=>absurd h (Nat.not_lt_zero _))).trans HBe.out;obtain⟨q0,q1,q2,q3,q4,q5,q6,q7⟩:=cl8 hBq;clear hBq;clear hA;go_simp<;>(try with_reducible rfl)
  refine R7.Chain.call (fun xs v w=>v=.pointer (some ⟨a.block,a.off+8,none⟩)) (fun _ _ _ _ h _=>h) (fun _ _ _ _ _ h _ _=>h) (by rfl) (fun T xs wr hA=>?_) ?_
  ·have hsw:=(hA.be 0 (Nat.zero_le _) (fun _ _=>Nat.zero_le _)).size;have e39:=tr_ (hA.tq 3 39) (hA.fq 3)
   (try simp (disch:=decide) only [R7.mi] at e39)
   clear hA;clear hlt_e hge hse hee ht_e n1 n2;have hI:(1:Int)<((ks.length:Nat):Int):=by omega
   have hA:=hk1;clear hA;refine⟨(by rfl),fun K hK=>?_⟩;go_simp
   exact hK.out _ _ rfl (Below.refl _ _)
  refine R7.cd ?_ (fun T xs wr hA=>?_) ?_
  rotate_left
  ·have e40:=hA.tm 4 40 (by rfl) (by rfl);have f40:xs 4=(.pointer (some ⟨a.block,a.off+8,none⟩)):=hA.fa 4 (by rfl);rw[f40] at e40;clear f40;have hbw:=undrew (hA.be w0.heap.size HC.out.bw.size (fun q h=>absurd h (Nat.not_lt_zero _)));have hbw0:=HC.out.bw.trans hbw;obtain⟨z0,z1,z2,z3,z4,z5,z6,z7⟩:=cells8 (w:=wr) (p:=⟨a.block,a.off+8,none⟩) (y:=y) (fun j v hv=>by have:=HY.out j v hv;rw[show (⟨a.block,a.off+8,none⟩:Addr).add j=(a.add ((0+1)*8)).add j from rfl,hbw0.cell (cell_lt this)];exact this);clear hbw hbw0;clear hA;go_simp<;>(try with_reducible rfl)
  refine R7.Chain.call (fun xs v w=>v=.bool (posU ks[1])) (fun _ _ _ _ h _=>h) (fun _ _ _ _ _ h _ _=>h) (by rfl) (fun T xs wr hA=>?_) ?_
  ·have hsw:=(hA.be 0 (Nat.zero_le _) (fun _ _=>Nat.zero_le _)).size;have e41:=tr_ (hA.tq 5 41) (hA.fq 5)
   (try simp (disch:=decide) only [R7.mi] at e41)
   have hbw:=undrew (hA.be w0.heap.size HC.out.bw.size (fun q h=>absurd h (Nat.not_lt_zero _)));have hu:=HU.out.lt.keep (w':=wr) (fun g hg=>(HC.out.bw.trans hbw).block g hg.2);have HUW:=h_ hu;clear hu hbw;clear hA;refine⟨(by rfl),fun K hK=>?_⟩;go_simp
   refine (isPositive_s y ks[1] wr _ HUW.out (HKS.out 1 hk1)).mono ?_;rintro e w' ⟨rfl,hb⟩;exact hK.out _ _ rfl hb
  refine R7.Chain.done (fun xs w5 hL=>?_);obtain⟨⟨hbe,hbl⟩,hf,-,-⟩:=hL;have f0:xs 0=_:=hf 0 (by decide);have f1:xs 1=_:=hf 1 (by decide);have f2:xs 2=_:=hf 2 (by decide);have f3:xs 3=_:=hf 3 (by decide);have f4:xs 4=(.pointer (some ⟨a.block,a.off+8,none⟩)):=hf 4 (by decide);have f5:xs 5=_:=hf 5 (by decide);have f6:xs 6=(.bool (posU ks[1])):=hf 6 (by decide)
  (try simp (disch:=decide) only [R7.mi] at f0 f1 f2 f3 f5)
  have hb:Below w4.heap.size w4 w5:=R7.b0_ hbe;clear hbe hbl hf;refine R7.rest_list (by decide) (by kernel_rfl) ?_;simp only[R7.fill,t1_,t2_,t3_,t4_,t5_,t6_,t7_,f0,f1,f2,f3,f4,f5,f6];clear hlt_e f0 f1 f2 f3 f4 f5 f6;clear c0;replace HBg:=kB hb HBg;replace HBt:=kB hb HBt;replace HBe:=kB hb HBe;replace HC:=h_ (HC.out.below hb);replace HF:=fb_ HF hb;clear hb;go_wp2_with fail
  refine (need_p HC.out ⟨(k:Nat),⟨nm.toArray⟩,⟨ot.toArray⟩,false,xao,xn,xq,some a,ks.length,xkc,(ln:Nat),(cl:Nat)⟩ ln cl rfl rfl (posU ks[1]) 1).mono ?_;rintro e w6 ⟨rfl,⟨ev,hC⟩,hF⟩;replace HBt:=kF hF HBt;replace HBe:=kF hF HBe;replace HF:=h_ (HF.out.trans hF);replace HC:=h_ hC;replace HBg:=h_ hC.blk;clear hC hF;go_wp2_with fail
  go_ret
  refine⟨?_,⟨ev,?_⟩,HF.out⟩
  ·rw[HSO.out];rfl
  rw[HE.out];exact HC.out
 by_cases h14:k=14
 ·have hk1:1<ks.length:=by rcases HAR.out with h | h;omega;rw[h,ar13 (.inr h14)];omega
  have e:(kOp rf k ln cl (posU (ks.getD 1 u0)) ts s).2=s2.need ln cl (posU ks[1]) 1:=by
   unfold kOp;simp only[<-HSO.out,<-HS2.out];rw[if_neg (by omega),if_pos (.inr h14),ps_getD ks hk1]
  have HE:=h_ e;clear e;have q8:(((k:Nat):Int)==8)=false:=by rw[beq_eq_false_iff_ne];omega
  have q9:(((k:Nat):Int)==9)=false:=by rw[beq_eq_false_iff_ne];omega
  have q13:(((k:Nat):Int)==13)=false:=by rw[beq_eq_false_iff_ne];omega
  have q14:(((k:Nat):Int)==14)=true:=by rw[beq_iff_eq];omega
  clear h8 h9 h13 h14;have c0:=cell_at (v:=.int .i64 (k:Nat)) HBe.out 0 rfl;go_upto_region 9 with fail
  clear q8 q9 q13 q14;obtain⟨y,⟨a,ha,hy⟩,hU⟩:=HK.out 1 hk1;subst ha;have HY:=h_ hy;have HU:=h_ hU;clear hy hU;have hlt_e:=lt_of_block HBe.out;refine R7.r0 [[],[],[],[2],[2,3],[2,3,4],[2,3,4,5],[0,1,2,3,4,5,6]] 7 ?_;refine R7.cd ?_ (fun T xs wr hA=>?_) ?_
  rotate_left
  ·have e0:=hA.pq 0;simp only[gsa,gsz] at e0;clear hA;go_simp<;>(try with_reducible rfl)
  refine R7.cd ?_ (fun T xs wr hA=>?_) ?_
  rotate_left
  ·have e4:=hA.pq 4;simp only[gsa,gsc,gsz] at e4;have hBq:wr.heap[ke]?=_:=(hA.bl _ hlt_e (fun q h=>absurd h (Nat.not_lt_zero _))).trans HBe.out;obtain⟨q0,q1,q2,q3,q4,q5,q6,q7⟩:=cl8 hBq;clear hBq;clear hA;go_simp<;>(try with_reducible rfl)
  refine R7.cd ?_ (fun T xs wr hA=>?_) ?_
  rotate_left
  ·have e4:=hA.pq 4;simp only[gsa,gsc,gsz] at e4;clear hA;go_simp<;>(try with_reducible rfl)
  refine R7.cd ?_ (fun T xs wr hA=>?_) ?_
  rotate_left
  ·have e38:=tr_ (hA.tq 2 38) (hA.fq 2)
   (try simp (disch:=decide) only [R7.mi] at e38)
   have hBq:wr.heap[ke]?=_:=(hA.bl _ hlt_e (fun q h=>absurd h (Nat.not_lt_zero _))).trans HBe.out;obtain⟨q0,q1,q2,q3,q4,q5,q6,q7⟩:=cl8 hBq;clear hBq;clear hA;go_simp<;>(try with_reducible rfl)
  refine R7.Chain.call (fun xs v w=>v=.pointer (some ⟨a.block,a.off+8,none⟩)) (fun _ _ _ _ h _=>h) (fun _ _ _ _ _ h _ _=>h) (by rfl) (fun T xs wr hA=>?_) ?_
  ·have hsw:=(hA.be 0 (Nat.zero_le _) (fun _ _=>Nat.zero_le _)).size;have e39:=tr_ (hA.tq 3 39) (hA.fq 3)
   (try simp (disch:=decide) only [R7.mi] at e39)
   clear hA;clear hlt_e hge hse hee ht_e n1 n2;have hI:(1:Int)<((ks.length:Nat):Int):=by omega
   have hA:=hk1;clear hA;refine⟨(by rfl),fun K hK=>?_⟩;go_simp
   exact hK.out _ _ rfl (Below.refl _ _)
  refine R7.cd ?_ (fun T xs wr hA=>?_) ?_
  rotate_left
  ·have e40:=hA.tm 4 40 (by rfl) (by rfl);have f40:xs 4=(.pointer (some ⟨a.block,a.off+8,none⟩)):=hA.fa 4 (by rfl);rw[f40] at e40;clear f40;have hbw:=undrew (hA.be w0.heap.size HC.out.bw.size (fun q h=>absurd h (Nat.not_lt_zero _)));have hbw0:=HC.out.bw.trans hbw;obtain⟨z0,z1,z2,z3,z4,z5,z6,z7⟩:=cells8 (w:=wr) (p:=⟨a.block,a.off+8,none⟩) (y:=y) (fun j v hv=>by have:=HY.out j v hv;rw[show (⟨a.block,a.off+8,none⟩:Addr).add j=(a.add ((0+1)*8)).add j from rfl,hbw0.cell (cell_lt this)];exact this);clear hbw hbw0;clear hA;go_simp<;>(try with_reducible rfl)
  refine R7.Chain.call (fun xs v w=>v=.bool (posU ks[1])) (fun _ _ _ _ h _=>h) (fun _ _ _ _ _ h _ _=>h) (by rfl) (fun T xs wr hA=>?_) ?_
  ·have hsw:=(hA.be 0 (Nat.zero_le _) (fun _ _=>Nat.zero_le _)).size;have e41:=tr_ (hA.tq 5 41) (hA.fq 5)
   (try simp (disch:=decide) only [R7.mi] at e41)
   have hbw:=undrew (hA.be w0.heap.size HC.out.bw.size (fun q h=>absurd h (Nat.not_lt_zero _)));have hu:=HU.out.lt.keep (w':=wr) (fun g hg=>(HC.out.bw.trans hbw).block g hg.2);have HUW:=h_ hu;clear hu hbw;clear hA;refine⟨(by rfl),fun K hK=>?_⟩;go_simp
   refine (isPositive_s y ks[1] wr _ HUW.out (HKS.out 1 hk1)).mono ?_;rintro e w' ⟨rfl,hb⟩;exact hK.out _ _ rfl hb
  refine R7.Chain.done (fun xs w5 hL=>?_);obtain⟨⟨hbe,hbl⟩,hf,-,-⟩:=hL;have f0:xs 0=_:=hf 0 (by decide);have f1:xs 1=_:=hf 1 (by decide);have f2:xs 2=_:=hf 2 (by decide);have f3:xs 3=_:=hf 3 (by decide);have f4:xs 4=(.pointer (some ⟨a.block,a.off+8,none⟩)):=hf 4 (by decide);have f5:xs 5=_:=hf 5 (by decide);have f6:xs 6=(.bool (posU ks[1])):=hf 6 (by decide)
  (try simp (disch:=decide) only [R7.mi] at f0 f1 f2 f3 f5)
  have hb:Below w4.heap.size w4 w5:=R7.b0_ hbe;clear hbe hbl hf;refine R7.rest_list (by decide) (by kernel_rfl) ?_;simp only[R7.fill,t1_,t2_,t3_,t4_,t5_,t6_,t7_,f0,f1,f2,f3,f4,f5,f6];clear hlt_e f0 f1 f2 f3 f4 f5 f6;clear c0;replace HBg:=kB hb HBg;replace HBt:=kB hb HBt;replace HBe:=kB hb HBe;replace HC:=h_ (HC.out.below hb);replace HF:=fb_ HF hb;clear hb;go_wp2_with fail
  refine (need_p HC.out ⟨(k:Nat),⟨nm.toArray⟩,⟨ot.toArray⟩,false,xao,xn,xq,some a,ks.length,xkc,(ln:Nat),(cl:Nat)⟩ ln cl rfl rfl (posU ks[1]) 1).mono ?_;rintro e w6 ⟨rfl,⟨ev,hC⟩,hF⟩;replace HBt:=kF hF HBt;replace HBe:=kF hF HBe;replace HF:=h_ (HF.out.trans hF);replace HC:=h_ hC;replace HBg:=h_ hC.blk;clear hC hF;go_wp2_with fail
  go_ret
  refine⟨?_,⟨ev,?_⟩,HF.out⟩
  ·rw[HSO.out];rfl
  rw[HE.out];exact HC.out
 have e:(kOp rf k ln cl (posU (ks.getD 1 u0)) ts s).2=s2:=by
  unfold kOp;simp only[<-HSO.out,<-HS2.out];rw[if_neg (by omega),if_neg (by omega)]
 have HE:=h_ e;clear e;have q8:(((k:Nat):Int)==8)=false:=by rw[beq_eq_false_iff_ne];omega
 have q9:(((k:Nat):Int)==9)=false:=by rw[beq_eq_false_iff_ne];omega
 have q13:(((k:Nat):Int)==13)=false:=by rw[beq_eq_false_iff_ne];omega
 have q14:(((k:Nat):Int)==14)=false:=by rw[beq_eq_false_iff_ne];omega
 clear h8 h9 h13 h14;have c0:=cell_at (v:=.int .i64 (k:Nat)) HBe.out 0 rfl;go_wp2_with fail
 go_ret
 refine⟨?_,⟨ev,?_⟩,HF.out⟩
 ·rw[HSO.out];rfl
 rw[HE.out];exact HC.out
end Go.Proofs.YtkocdbgmckdcpaaGreatDoor
