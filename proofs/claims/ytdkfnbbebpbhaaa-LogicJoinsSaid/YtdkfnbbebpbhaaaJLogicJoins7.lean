/-
 Joined texts: LgZq,LgZm,LgU,LgZn,LgZr,LgZs.
-/
import Derived.Test.YtdkfnbbebpbhaaaJLogicJoins4
import Derived.Test.YtdkfnbbebpbhaaaJLogicJoins5
import Derived.Test.YtdkfnbbebpbhaaaJLogicJoins6
set_option maxHeartbeats 32000000
namespace Go.Proofs.Ytdkfnbbebpbhaaa
open Go.RowKit
set_option maxRecDepth 100000
set_option linter.unusedVariables false
set_option linter.unusedSimpArgs false
attribute [local go_sem] fieldV0 fieldV1 fieldV2 fieldV3
def lastF (op neu:Int):List F->F
 | []=>.node neu 0 ⟨#[]⟩ []
 | [t]=>t
 | l=>.node op 0 ⟨#[]⟩ l
def joinF (op neu dec:Int) (ts:List F):F:=if ts.any (fun t=>decide (t.op=dec)) then .node dec 0 ⟨#[]⟩ [] else lastF op neu (ts.filter (fun t=>decide (t.op≠neu)))
theorem join_dec {op neu dec:Int} {ts:List F} (j:Nat) (hj:j<ts.length) (h:ts[j].op=dec):joinF op neu dec ts=.node dec 0 ⟨#[]⟩ []:=
 if_pos (List.any_eq_true.2 ⟨ts[j],List.getElem_mem hj,decide_eq_true h⟩)
theorem join_else {op neu dec:Int} {ts rs:List F} (h:∀ t ∈ ts,t.op≠dec) (hr:rs=ts.filter (fun t=>decide (t.op≠neu))):joinF op neu dec ts=lastF op neu rs:=by
 have hn:¬ ts.any (fun t=>decide (t.op=dec))=true:=by
  intro hc;obtain⟨t,ht,he⟩:=List.any_eq_true.1 hc;exact h t ht (of_decide_eq_true he)
 unfold joinF;rw[if_neg hn,hr]
theorem filt_keep {neu:Int} {ts:List F} {j:Nat} (hj:j<ts.length) (h:ts[j].op≠neu):(ts.take (j+1)).filter (fun t=>decide (t.op≠neu))=(ts.take j).filter (fun t=>decide (t.op≠neu))++[ts[j]]:=by
 rw[List.take_succ_eq_append_getElem hj,List.filter_append]
 simp[h]
theorem filt_drop {neu:Int} {ts:List F} {j:Nat} (hj:j<ts.length) (h:ts[j].op=neu):(ts.take (j+1)).filter (fun t=>decide (t.op≠neu))=(ts.take j).filter (fun t=>decide (t.op≠neu)):=by
 rw[List.take_succ_eq_append_getElem hj,List.filter_append]
 simp[h]
theorem none_next {dec:Int} {ts:List F} {j:Nat} (hj:j<ts.length) (h:∀ t ∈ ts.take j,t.op≠dec) (hn:ts[j].op≠dec):∀ t ∈ ts.take (j+1),t.op≠dec:=by
 intro t ht;rw[List.take_succ_eq_append_getElem hj] at ht;rcases List.mem_append.1 ht with ht | ht
 ·exact h t ht
 rw[List.mem_singleton] at ht;subst ht;exact hn
theorem n32_made (n:Nat):N32 (madeCells fR.z.cells n).toList:=by
 intro u hu z e;simp only[madeCells,Array.toList_map,List.mem_map] at hu;obtain⟨j,-,rfl⟩:=hu;have hsz:fR.z.cells.size=5:=rfl;rw[hsz] at e;have hm:j % 5=0\/j % 5=1\/j % 5=2\/j % 5=3\/j % 5=4:=by omega
 rcases hm with h | h | h | h | h<;>rw[h] at e<;>cases e
theorem fR_make0 (w:World) {ops:Array Oper} {rest:List Oper} {o:Oper} {a:Act} {Q:Exit->Act->World->Prop} (hg:o.guard=none) (l c:Operand) (hop:o.op=Op.makeSlice 27 l c) (kl kc:IntKind) (n:Nat) (hl:a.eval l=.int kl 0) (hc:a.eval c=.int kc (n:Int)) (hn:n<=1000)
  (hK:∀ w',fR.Row w' w.heap.size (.slice (some ⟨w.heap.size,0,none⟩) 0 n) []->Below w.heap.size w w'->wpList Try.prog ops Q rest (a.put o.dst (.slice (some ⟨w.heap.size,0,none⟩) 0 n)) w'):wpList Try.prog ops Q (o::rest) a w:=by
 obtain⟨i,hi,hz,hz1,hz2⟩:=info_parts fR.info;refine wpList_plain hg fun K hk=>?_
 have hr:=run_makeSlice (P:=Try.prog) w 27 29 i fR.z fR.ht hi hz kl kc 0 (n:Int) (Int.le_refl _) (by omega) (by rw[hz1];show ((n:Int).toNat)*5<=_;omega) (by rw[hz2];show (80:Int)*n<=_;omega) (by omega);unfold Oper.wp execOp;simp only[hop,hl,hc,Sem.run_bind,Sem.run_pure,Result.andThen_ok];rw[hr];have h1:=World.ownsRow_made (e:=29) (size:=5) (base:=w.heap.size) w (madeCells fR.z.cells (n*5)) n (Nat.le_refl _) (by unfold maxLen;omega) (by simp[madeCells]);refine hk _ _ (hK _ ⟨?_,?_,fun _ h=>by cases h⟩ ((Below.refl _ _).alloc (Nat.le_refl _) _))
 ·rw[hz1];exact h1
 intro g hg;injection hg with hg;subst hg;exact⟨_,heap_alloc_new w _,n32_made _⟩
theorem FR.shape {w:World} {B:Nat} {v:Value} {us:List FU} (h:fR.Row w B v us) (hn:0<us.length):∃ g cap,v=.slice (some ⟨g,0,none⟩) us.length cap:=by
 rcases h.own.2 with ⟨-,h0⟩ | ⟨g,cap,cur,hv,_⟩
 ·omega
 exact⟨g,cap,hv⟩
theorem FL.recap {w:World} {S:Nat->Prop} {d g n cap cap':Nat} {ts:List F} (h:FL w S d (.slice (some ⟨g,0,none⟩) n cap) ts) (h1:n<=cap') (h2:cap'<=maxLen):FL w S d (.slice (some ⟨g,0,none⟩) n cap') ts:=by
 obtain⟨el,⟨ko,kc,e,⟨a1,a2,a3⟩,h3,h4⟩,h5⟩:=h;injection e with e1 e2 e3;subst e1 e2;exact⟨el,⟨_,cap',rfl,⟨h1,h2,fun h=>by cases h⟩,h3,h4⟩,h5⟩
theorem one_atF {w:World} {g:Nat} {u:FU} {v0 v1 v2 v3 v4:Value} (hB:w.heap[g]?=some (.cells #[v0,v1,v2,v3,v4] 29 (0,0))) (hu:fC u=[v0,v1,v2,v3,v4]):fR.At w (.slice (some ⟨g,0,none⟩) 1 1) [u]:=
 El.At.block (E:=fR) (el:=[u]) (by rw[hB];show _=some (Obj.cells (([u]:List FU).flatMap fC).toArray _ _);rw[List.flatMap_cons,hu];rfl) (show 1<=maxLen by decide) (fun _ _=>trivial)
theorem ft_snoc {w:World} {S:Nat->Prop} {d:Nat} {us:List FU} {rs:List F} {u:FU} {t:F} (hl:us.length=rs.length) (h:∀ q (h1:q<us.length) (h2:q<rs.length),FT w S d us[q] rs[q]) (ht:FT w S d u t):∀ q (h1:q<(us++[u]).length) (h2:q<(rs++[t]).length),FT w S d (us++[u])[q] (rs++[t])[q]:=by
 intro q h1 h2
 by_cases hq:q<us.length
 ·rw[List.getElem_append_left hq,List.getElem_append_left (by omega)];exact h q hq (by omega)
 have hqe:q=us.length:=by simp at h1;omega
 rw[List.getElem_append_right (by omega),List.getElem_append_right (by omega)]
 simpa using ht
theorem FL.unitAt {w w':World} {S:Nat->Prop} {d:Nat} {ko:Option Addr} {n kc:Nat} {ts:List F} (h:FL w S d (.slice ko n kc) ts) {j:Nat} (hj:j<ts.length) {b:Bool} {o:Option Addr} {l c:Nat} {x:Int} {ym:ByteArray} {po:Option Addr} {pl pc:Nat} (hb:Below w.heap.size w w')
  (hc:∀ a,ko=some a->w'.cell? (a.add (j*5))=some (.int .i64 x)/\w'.cell? ⟨(a.add (j*5)).block,(a.add (j*5)).off+1,none⟩=some (.bool b)/\w'.cell? ⟨(a.add (j*5)).block,(a.add (j*5)).off+2,none⟩=some (.slice o l c)/\w'.cell? ⟨(a.add (j*5)).block,(a.add (j*5)).off+3,none⟩=some (.string ym)/\w'.cell? ⟨(a.add (j*5)).block,(a.add (j*5)).off+4,none⟩=some (.slice po pl pc)) :
  ∃ u:FU,fC u=[.int .i64 x,.bool b,.slice o l c,.string ym,.slice po pl pc]/\FT w S d u ts[j]:=by
 obtain⟨a,b2,o2,l2,c2,po2,pl2,pc2,rfl,⟨c0,c1,c2',c3,c4⟩,hf⟩:=h.cells j hj;obtain⟨d0,d1,d2,d3,d4⟩:=hc a rfl;rw[hb.cell (cell_lt c0)] at d0;rw[hb.cell (cell_lt c1)] at d1;rw[hb.cell (cell_lt c2')] at d2;rw[hb.cell (cell_lt c3)] at d3;rw[hb.cell (cell_lt c4)] at d4;rw[c0] at d0;rw[c1] at d1;rw[c2'] at d2;rw[c3] at d3;rw[c4] at d4;obtain⟨u,hu,hT⟩:=hf.unit5;refine⟨u,?_,hT⟩;rw[hu];injection d0 with d0;injection d1 with d1;injection d2 with d2;injection d3 with d3;injection d4 with d4;rw[d0,d1,d2,d3,d4]
theorem joined_p (op neu dec:Int) (ko:Option Addr) (kl kc:Nat) (ts:List F) (S:Nat->Prop) (d:Nat) (w:World) (h:FL w S d (.slice ko kl kc) ts) (hl:ts.length<=100) (hd:1<=d) (hop:IR op) (hneu:IR neu) (hdec:IR dec) :
  Calls Try.prog 47 #[.int .i64 op,.int .i64 neu,.int .i64 dec,.slice ko kl kc] w fun e w'=>∃ v,e=.returned v/\FC w' (fun b=>S b\/w.heap.size<=b) (d+1) v (joinF op neu dec ts)/\Below w.heap.size w w':=by
 obtain⟨ko',kc',e,hkl,hkm,-⟩:=h.form;injection e with e1 e2 e3;subst e1;subst e3;have hkm':kc<=9223372036854775807:=hkm;have HN:=Lib.hid e2;have hk100:kl<=100:=by rw[e2];exact hl
 have hkc:kl<=kc:=by rw[e2];exact hkl
 have HX:=Lib.hid h.ltF;have HD:=Lib.hid hd;have HOP:=Lib.hid hop;have HNE:=Lib.hid hneu;have HDE:=Lib.hid hdec;clear h hl hd hop hneu hdec e2 hkl;have HW:=Lib.hid (Below.refl w.heap.size w);have HX0:=HX;go_enter Try.func47,Try.ntmps47
 obtain⟨x1,kr,er,ekr,hbr,hkr,HBr⟩:=newV w #[.int .i64 0,.bool false,.slice none 0 0,.string ⟨#[]⟩,.slice none 0 0] 29;replace HW:=Lib.hid (HW.out.trans (hbr.out.mono HW.out.size));have HKr:Hid (w.heap.size<=kr):=hkr;have HLR:=Lib.hid (lt_of_block HBr.out);go_wp2_with (refine fR_make0 x1 rfl (.const (.int .i64 0)) (.tmp 13) rfl .i64 .i64 kl rfl rfl (by omega) ?_;intro w9 r1 r2;have HR9:=Lib.hid r1;have HBB:=Lib.hid r2;clear r1 r2)
 obtain⟨B,hBs⟩:∃ B,B=x1.heap.size:=⟨_,rfl⟩
 rw[<-hBs] at HR9 HBB HLR ⊢;have HBX:Hid (w.heap.size<=B):=Lib.hid (by rw[hBs];exact hbr.out.size);have HW9:=Lib.hid (HW.out.trans (HBB.out.mono HBX.out));have HBr9:=Lib.hid ((HBB.out.block kr HLR.out).trans HBr.out);have HB9:Hid (B<=w9.heap.size):=Lib.hid (by have:=HBB.out.size;omega);clear HW HBr HBB hBs
 go_loopw [9,17] (fun r i wr=>∃ (j:Nat) (us:List FU) (rs:List F) (ro:Option Addr) (rc:Nat),r=.slice ro us.length rc/\i=.int .i64 (j:Nat)/\j<=kl/\us.length<=j/\us.length<=rc/\rc<=9223372036854775807/\Hid (fR.Row wr B (.slice ro us.length rc) us)/\Hid (rs=(ts.take j).filter (fun t=>decide (t.op≠neu)))/\Hid (us.length=rs.length)/\Hid (∀ q (h1:q<us.length) (h2:q<rs.length),FT w (fun b=>S b/\b<w.heap.size) d us[q] rs[q])/\Hid (∀ t ∈ ts.take j,t.op≠dec)/\Hid (Below w.heap.size w wr)/\Hid (B<=wr.heap.size)/\Hid (wr.heap[kr]?=some (.cells #[.int .i64 0,.bool false,.slice none 0 0,.string ⟨#[]⟩,.slice none 0 0] 29 (0,0)))) (fun _ i _=>kl - (intOf i).toNat)
 case atStart=>exact⟨0,[],[],_,_,rfl,rfl,Nat.zero_le _,Nat.le_refl _,Nat.zero_le _,by omega,HR9,Lib.hid (by rw[List.take_zero];rfl),Lib.hid rfl,Lib.hid (fun q h=>absurd h (Nat.not_lt_zero q)),Lib.hid (fun t ht=>by rw[List.take_zero] at ht;cases ht),HW9,HB9,HBr9⟩
 case round =>
  obtain⟨wl,hwl⟩:∃ q,q=wr:=⟨_,rfl⟩
  subst hwl;obtain⟨j,us,rs,ro,rc,rfl,rfl,hj,huj,hur,hurm,HROW,HRS,HUR,HFT,HND,HW,HBW,HBr⟩:=hrel;clear HR9 HW9 HB9 HBr9;obtain⟨n,hn⟩:∃ n,n=us.length:=⟨_,rfl⟩
  rw[<-hn] at huj hur HROW ⊢;have HNU:=Lib.hid hn;clear hn
  by_cases hlt:j<kl
  ·have hjs:j<ts.length:=by rw[<-HN.out];exact hlt
   have HJS:=Lib.hid hjs;obtain⟨a,bb,qo,ql,qc,po,pl,pc,rfl,hcel,hf⟩:=(HX0.out.below HW.out).cells j hjs;obtain⟨x,hxx⟩:∃ x,x=(ts[j]'hjs).op:=⟨_,rfl⟩
   obtain⟨ym,hnm⟩:∃ x,x=(ts[j]'hjs).name:=⟨_,rfl⟩
   rw[<-hxx,<-hnm] at hcel hf;have HCEL:=Lib.hid hcel;have HWl:=HW;obtain⟨c0,c1,c2,c3,c4⟩:=hcel;have HXX:Hid (x=(ts[j]'HJS.out).op):=Lib.hid hxx;clear hxx hnm hf hjs;obtain⟨x2,k7,e7,ek7,hb7,hk7,HB7⟩:=newV wl #[.int .i64 x,.bool bb,.slice qo ql qc,.string ym,.slice po pl pc] 29;replace HBr:=kBV hb7.out HBr;replace HW:=Lib.hid (HW.out.trans (hb7.out.mono HW.out.size));replace HROW:=Lib.hid (HROW.out.below hb7.out);have HBW7:Hid (B<=x2.heap.size):=Lib.hid (Nat.le_trans HBW.out hb7.out.size);have g0:=cell_at (v:=.int .i64 x) HB7.out 0 rfl;have fg0:=froz_at HB7.out 0;have g1:=cell_at (v:=.bool bb) HB7.out 1 rfl;have fg1:=froz_at HB7.out 1;have g2:=cell_at (v:=.slice qo ql qc) HB7.out 2 rfl;have fg2:=froz_at HB7.out 2;have g3:=cell_at (v:=.string ym) HB7.out 3 rfl;have fg3:=froz_at HB7.out 3
   have g4:=cell_at (v:=.slice po pl pc) HB7.out 4 rfl;have fg4:=froz_at HB7.out 4
   by_cases hxd:x=dec
   ·have hxb:(x==dec)=true:=by rw[hxd];exact beq_self_eq_true dec
    have HXD:=Lib.hid hxd;clear hxd;go_wp2_with fail
    refine (of_p dec none 0 0 x2).mono ?_;rintro e x3 ⟨rfl,hb⟩;clear g0 fg0 g1 fg1 g2 fg2 g3 fg3 g4 fg4;replace HBr:=kBV hb HBr;replace HB7:=kBV hb HB7;replace HW:=Lib.hid (HW.out.trans (hb.mono HW.out.size));replace HROW:=Lib.hid (HROW.out.below hb);obtain⟨⟨r0,r1,r2,r3,r4⟩,fr0,fr1,fr2,fr3,fr4⟩:=cells5V HBr.out;go_wp2_with fail
    obtain⟨s1,s2⟩:=res5F HW.out HBr.out n32_F HKr.out (.int .i64 dec) (.bool false) (.slice none 0 0) (.string ⟨#[]⟩) (.slice none 0 0)
    (try simp only[Exit.inBlock,Exit.then])
    exact bodyPost_ret (v:=.agg #[.int .i64 dec,.bool false,.slice none 0 0,.string ⟨#[]⟩,.slice none 0 0]) (by simp[results,Try.results47,go_sem,r0,r1,r2,r3,r4]) rfl ⟨_,rfl,by rw[join_dec j HJS.out (HXX.out.symm.trans HXD.out)];exact FC.mk HDE.out ((nr0 _).fr s1) (FL.nil _ _ d),s2⟩
   have hxb:(x==dec)=false:=beq_eq_false_iff_ne.2 hxd;have HXD:=Lib.hid (none_next HJS.out HND.out (fun e=>hxd (HXX.out.trans e)));clear hxd
   by_cases hxn:x=neu
   ·have hxc:(x==neu)=true:=by rw[hxn];exact beq_self_eq_true neu
    have HXN:=Lib.hid hxn;clear hxn;go_wp2_with fail
    go_roundw
    case rel=>exact⟨j+1,us,rs,_,_,by rw[<-HNU.out],by go_num,hlt,by rw[<-HNU.out];omega,by rw[<-HNU.out];exact hur,hurm,by rw[<-HNU.out];exact HROW,Lib.hid (by rw[filt_drop HJS.out (HXX.out.symm.trans HXN.out)];exact HRS.out),HUR,HFT,HXD,HW,HBW7,HBr⟩
    case measure=>simp[intOf];omega
   have hxc:(x==neu)=false:=beq_eq_false_iff_ne.2 hxn;have HXN:=Lib.hid (filt_keep HJS.out (fun e=>hxn (HXX.out.trans e)));clear hxn;obtain⟨u,hu,hT⟩:=FL.unitAt HX0.out HJS.out HWl.out (fun a2 ha2=>by injection ha2 with ha2;subst ha2;exact HCEL.out);have HU:=Lib.hid hu;have HT:=Lib.hid hT;clear hu hT;obtain⟨x3,ky,ey,eky,hby,hky,HBy⟩:=newV x2 #[.int .i64 x,.bool bb,.slice qo ql qc,.string ym,.slice po pl pc] 29;replace HBr:=kBV hby.out HBr;replace HB7:=kBV hby.out HB7;replace HW:=Lib.hid (HW.out.trans (hby.out.mono HW.out.size));replace HROW:=Lib.hid (HROW.out.below hby.out);have HAT:=Lib.hid (one_atF HBy.out HU.out);have HLY:Hid (kr<B):=HLR
   go_wp2_with (at_builtin;refine El.Row.append (E:=fR) (by have h:=HROW.out;rw[HNU.out] at h;exact h) rfl (.tmp 23) (.tmp 25) rfl (by rw[<-HNU.out];rfl) rfl HAT.out (by simp;have:=HNU.out;omega) (Nat.le_trans HBW7.out hby.out.size) ?_;intro v9 w9 r1 r2 r3 r4;obtain⟨vo,vc,rfl,h9a,h9b,-⟩:=r1.form;have HBr9:=Lib.hid ((r3.block kr HLR.out).trans HBr.out);have HW9:=Lib.hid (HW.out.trans (r3.mono HBX.out));have HR9:=Lib.hid r1;have HB9:Hid (B<=w9.heap.size):=Lib.hid (Nat.le_trans (Nat.le_trans HBW7.out hby.out.size) r3.size);have H9a:=Lib.hid h9a;have H9b:=Lib.hid h9b;clear r1 r2 r3 r4 h9a h9b)
   go_roundw
   case rel=>exact⟨j+1,us++[u],rs++[ts[j]'HJS.out],_,_,by rw[lsa];rfl,by go_num,hlt,by rw[lsa];have:=HNU.out;simp;omega,H9a.out,H9b.out,HR9,Lib.hid (by rw[HXN.out,<-HRS.out]),Lib.hid (by rw[lsa,lsa,HUR.out];rfl),Lib.hid (ft_snoc HUR.out HFT.out HT.out),HXD,HW9,HB9,HBr9⟩
   case measure=>simp[intOf];omega
  have hjk:j=kl:=by omega
  have htk:ts.take j=ts:=by rw[hjk,HN.out,List.take_length]
  rw[htk] at HRS HND;have HJF:=Lib.hid (join_else (op:=op) HND.out HRS.out);clear htk hjk;have hn3:n=0\/n=1\/2<=n:=by omega
  rcases hn3 with rfl | rfl | hn2
  ·have hrs:rs=[]:=List.eq_nil_of_length_eq_zero (by rw[<-HUR.out,<-HNU.out]);have HE:=Lib.hid (show joinF op neu dec ts=.node neu 0 ⟨#[]⟩ [] from by rw[HJF.out,hrs];rfl);clear hrs;go_wp2_with fail
   refine (of_p neu none 0 0 wl).mono ?_;rintro e x2 ⟨rfl,hb⟩;replace HBr:=kBV hb HBr;replace HW:=Lib.hid (HW.out.trans (hb.mono HW.out.size));replace HROW:=Lib.hid (HROW.out.below hb);obtain⟨⟨r0,r1,r2,r3,r4⟩,fr0,fr1,fr2,fr3,fr4⟩:=cells5V HBr.out;go_wp2_with fail
   obtain⟨s1,s2⟩:=res5F HW.out HBr.out n32_F HKr.out (.int .i64 neu) (.bool false) (.slice none 0 0) (.string ⟨#[]⟩) (.slice none 0 0)
   (try simp only[Exit.inBlock,Exit.then])
   exact bodyPost_ret (v:=.agg #[.int .i64 neu,.bool false,.slice none 0 0,.string ⟨#[]⟩,.slice none 0 0]) (by simp[results,Try.results47,go_sem,r0,r1,r2,r3,r4]) rfl ⟨_,rfl,by rw[HE.out];exact FC.mk HNE.out ((nr0 _).fr s1) (FL.nil _ _ d),s2⟩
  ·obtain⟨u,hus⟩:∃ u,us=[u]:=List.length_eq_one_iff.1 HNU.out.symm;obtain⟨t,hrs⟩:∃ t,rs=[t]:=List.length_eq_one_iff.1 (by rw[<-HUR.out,<-HNU.out]);subst hus hrs;have HE:=Lib.hid (show joinF op neu dec ts=t from HJF.out);have HT:=Lib.hid (HFT.out 0 (by simp) (by simp));obtain⟨g,cap,hsh⟩:=FR.shape HROW.out (by simp);injection hsh with e1 e2 e3;subst e1;obtain⟨⟨c0,c1,c2,c3,c4⟩,-⟩:=Row.atF HROW.out rfl (show 0 < [u].length by simp);simp only[List.getElem_cons_zero,Nat.zero_mul,Nat.zero_add] at c0 c1 c2 c3 c4;clear e2 e3;obtain⟨⟨r0,r1,r2,r3,r4⟩,fr0,fr1,fr2,fr3,fr4⟩:=cells5V HBr.out;go_wp2_with fail
   clear c0 c1 c2 c3 c4;obtain⟨s1,s2⟩:=res5F HW.out HBr.out n32_F HKr.out (.int .i64 u.k) (.bool (decide (u.n.z<0))) (.slice u.n.o u.n.l u.n.c) (.string u.nm) (.slice u.ko u.kl u.kc)
   (try simp only[Exit.inBlock,Exit.then])
   exact bodyPost_ret (v:=.agg #[.int .i64 u.k,.bool (decide (u.n.z<0)),.slice u.n.o u.n.l u.n.c,.string u.nm,.slice u.ko u.kl u.kc]) (by simp[results,Try.results47,go_sem,r0,r1,r2,r3,r4]) rfl ⟨_,rfl,by rw[HE.out];exact⟨u,rfl,(((HT.out.below s2).mono (fun b hb=>Or.inl hb.1)).up (Nat.le_succ d))⟩,s2⟩
  have HE:Hid (joinF op neu dec ts=.node op 0 ⟨#[]⟩ rs):=Lib.hid (by have h2:2<=rs.length:=(by rw[<-HUR.out,<-HNU.out];exact hn2);rw[HJF.out];match rs,h2 with | _::_::_,_=>rfl);obtain⟨g,cap,hsh⟩:=FR.shape HROW.out (by rw[<-HNU.out];omega);injection hsh with e1 e2 e3;subst e1;have hc0:(((n:Nat):Int)==0)=false:=beq_eq_false_iff_ne.2 (by omega);have hc1:(((n:Nat):Int)==1)=false:=beq_eq_false_iff_ne.2 (by omega);have HGK:Hid (kr≠g):=Lib.hid (fun e=>by have h1:B<=g:=(HROW.out.ge rfl).1;have h2:=HLR.out;omega);have HGS:Hid (w.heap.size<=g):=Lib.hid (by have h1:B<=g:=(HROW.out.ge rfl).1;have h2:=HBX.out;omega);clear e2 e3;go_wp2_with fail
  refine (of_p op (some ⟨g,0,none⟩) n n wl).mono ?_;rintro e x2 ⟨rfl,hb⟩;replace HBr:=kBV hb HBr;replace HW:=Lib.hid (HW.out.trans (hb.mono HW.out.size));replace HROW:=Lib.hid (HROW.out.below hb);obtain⟨⟨r0,r1,r2,r3,r4⟩,fr0,fr1,fr2,fr3,fr4⟩:=cells5V HBr.out;go_wp2_with fail
  obtain⟨s1,s2⟩:=res5F HW.out HBr.out n32_F HKr.out (.int .i64 op) (.bool false) (.slice none 0 0) (.string ⟨#[]⟩) (.slice (some ⟨g,0,none⟩) n n)
  (try simp only[Exit.inBlock,Exit.then])
  have hg5:=grown5V (w:=x2) (k:=kr) (.int .i64 op) (.bool false) (.slice none 0 0) (.string ⟨#[]⟩) (.slice (some ⟨g,0,none⟩) n n);have hrow5:=HROW.out.other2 hg5 (fun j hj e=>HGK.out (by have hj2:g=j:=(by simpa [Value.ownBlock] using hj);omega)) s1 trivial;exact bodyPost_ret (v:=.agg #[.int .i64 op,.bool false,.slice none 0 0,.string ⟨#[]⟩,.slice (some ⟨g,0,none⟩) n n]) (by simp[results,Try.results47,go_sem,r0,r1,r2,r3,r4]) rfl ⟨_,rfl,by rw[HE.out];exact FC.mk HOP.out ((nr0 _).fr s1) ((FL.turned hrow5 HNU.out HUR.out (Or.inr HGS.out) (fun i h1 h2=>((HFT.out i h1 h2).below s2).mono (fun b hb=>Or.inl hb.1))).recap (Nat.le_refl _) (by unfold maxLen;omega)),s2⟩
theorem both_p (ko:Option Addr) (kl kc:Nat) (ts:List F) (S:Nat->Prop) (d:Nat) (w:World) (h:FL w S d (.slice ko kl kc) ts) (hl:ts.length<=100) (hd:1<=d) :
  Calls Try.prog 18 #[.slice ko kl kc] w fun e w'=>∃ v,e=.returned v/\FC w' (fun b=>S b\/w.heap.size<=b) (d+1) v (joinF 18 12 13 ts)/\Below w.heap.size w w':=by
 have HX:=Lib.hid h;have HX1:=Lib.hid h.ltF;have HL:=Lib.hid hl;have HD:=Lib.hid hd;clear h hl hd;have HW:=Lib.hid (Below.refl w.heap.size w);go_enter Try.func18,Try.ntmps18
 obtain⟨x1,kr,er,ekr,hbr,hkr,HBr⟩:=newV w #[.int .i64 0,.bool false,.slice none 0 0,.string ⟨#[]⟩,.slice none 0 0] 29;replace HW:=Lib.hid (HW.out.trans (hbr.out.mono HW.out.size));replace HX1:=Lib.hid (HX1.out.below hbr.out);have HKr:Hid (w.heap.size<=kr):=hkr;have HLR:=Lib.hid (lt_of_block HBr.out);go_wp2_with fail
 refine (joined_p 18 12 13 ko kl kc ts _ d x1 HX1.out HL.out HD.out (by unfold IR;decide) (by unfold IR;decide) (by unfold IR;decide)).mono ?_;rintro e x2 ⟨v,rfl,hv,hb⟩;replace HBr:=kBV hb HBr;replace HW:=Lib.hid (HW.out.trans (hb.mono HW.out.size));replace HX1:=Lib.hid (HX1.out.below hb);have hv2:=hv.mono (S':=fun b=>(S b\/w.heap.size<=b)/\b≠kr) (fun b hb=>hb.elim (fun h=>⟨Or.inl h.1,by have h1:=h.2;have h2:=HKr.out;omega⟩) (fun h=>⟨Or.inr (Nat.le_trans hbr.out.size h),by have h2:=HLR.out;omega⟩));obtain⟨b1,o1,l1,c1,q1,m1,n1,rfl,-,-,-⟩:=hv2.open;obtain⟨x,hx⟩:∃ x,x=(joinF 18 12 13 ts).op:=⟨_,rfl⟩
 obtain⟨y,hy⟩:∃ x,x=(joinF 18 12 13 ts).name:=⟨_,rfl⟩
 rw[<-hx,<-hy] at hv2 ⊢;have HV:=Lib.hid hv2;clear hv hv2 hx hy;obtain⟨⟨r0,r1,r2,r3,r4⟩,fr0,fr1,fr2,fr3,fr4⟩:=cells5V HBr.out;go_wp2_with fail
 obtain⟨s1,s2⟩:=res5F HW.out HBr.out n32_F HKr.out (.int .i64 x) (.bool b1) (.slice o1 l1 c1) (.string y) (.slice q1 m1 n1)
 (try simp only[Exit.inBlock,Exit.then])
 exact bodyPost_ret (v:=.agg #[.int .i64 x,.bool b1,.slice o1 l1 c1,.string y,.slice q1 m1 n1]) (by simp[results,Try.results18,go_sem,r0,r1,r2,r3,r4]) rfl ⟨_,rfl,((HV.out.grown (grown5V (k:=kr) _ _ _ _ _) (KN.of_fr s1) (fun b hb e=>hb.2 (by injection e with e;exact e.symm))).mono (fun b hb=>hb.1)),s2⟩
theorem either_p (ko:Option Addr) (kl kc:Nat) (ts:List F) (S:Nat->Prop) (d:Nat) (w:World) (h:FL w S d (.slice ko kl kc) ts) (hl:ts.length<=100) (hd:1<=d) :
  Calls Try.prog 19 #[.slice ko kl kc] w fun e w'=>∃ v,e=.returned v/\FC w' (fun b=>S b\/w.heap.size<=b) (d+1) v (joinF 19 13 12 ts)/\Below w.heap.size w w':=by
 have HX:=Lib.hid h;have HX1:=Lib.hid h.ltF;have HL:=Lib.hid hl;have HD:=Lib.hid hd;clear h hl hd;have HW:=Lib.hid (Below.refl w.heap.size w);go_enter Try.func19,Try.ntmps19
 obtain⟨x1,kr,er,ekr,hbr,hkr,HBr⟩:=newV w #[.int .i64 0,.bool false,.slice none 0 0,.string ⟨#[]⟩,.slice none 0 0] 29;replace HW:=Lib.hid (HW.out.trans (hbr.out.mono HW.out.size));replace HX1:=Lib.hid (HX1.out.below hbr.out);have HKr:Hid (w.heap.size<=kr):=hkr;have HLR:=Lib.hid (lt_of_block HBr.out);go_wp2_with fail
 refine (joined_p 19 13 12 ko kl kc ts _ d x1 HX1.out HL.out HD.out (by unfold IR;decide) (by unfold IR;decide) (by unfold IR;decide)).mono ?_;rintro e x2 ⟨v,rfl,hv,hb⟩;replace HBr:=kBV hb HBr;replace HW:=Lib.hid (HW.out.trans (hb.mono HW.out.size));replace HX1:=Lib.hid (HX1.out.below hb);have hv2:=hv.mono (S':=fun b=>(S b\/w.heap.size<=b)/\b≠kr) (fun b hb=>hb.elim (fun h=>⟨Or.inl h.1,by have h1:=h.2;have h2:=HKr.out;omega⟩) (fun h=>⟨Or.inr (Nat.le_trans hbr.out.size h),by have h2:=HLR.out;omega⟩));obtain⟨b1,o1,l1,c1,q1,m1,n1,rfl,-,-,-⟩:=hv2.open;obtain⟨x,hx⟩:∃ x,x=(joinF 19 13 12 ts).op:=⟨_,rfl⟩
 obtain⟨y,hy⟩:∃ x,x=(joinF 19 13 12 ts).name:=⟨_,rfl⟩
 rw[<-hx,<-hy] at hv2 ⊢;have HV:=Lib.hid hv2;clear hv hv2 hx hy;obtain⟨⟨r0,r1,r2,r3,r4⟩,fr0,fr1,fr2,fr3,fr4⟩:=cells5V HBr.out;go_wp2_with fail
 obtain⟨s1,s2⟩:=res5F HW.out HBr.out n32_F HKr.out (.int .i64 x) (.bool b1) (.slice o1 l1 c1) (.string y) (.slice q1 m1 n1)
 (try simp only[Exit.inBlock,Exit.then])
 exact bodyPost_ret (v:=.agg #[.int .i64 x,.bool b1,.slice o1 l1 c1,.string y,.slice q1 m1 n1]) (by simp[results,Try.results19,go_sem,r0,r1,r2,r3,r4]) rfl ⟨_,rfl,((HV.out.grown (grown5V (k:=kr) _ _ _ _ _) (KN.of_fr s1) (fun b hb e=>hb.2 (by injection e with e;exact e.symm))).mono (fun b hb=>hb.1)),s2⟩
attribute [local go_sem] fieldV0 fieldV1 fieldV2 fieldV3
attribute [local go_sem] fieldV0 fieldV1 fieldV2 fieldV3
theorem env7 {env:List (ByteArray × V)} (h:EnvAt 7 env):∃ z0 z1 z2 l0 l1 b0 b1,env=[(⟨#[105,48]⟩,.I z0),(⟨#[105,49]⟩,.I z1),(⟨#[105,50]⟩,.I z2),(⟨#[108,48]⟩,.L l0),(⟨#[108,49]⟩,.L l1),(⟨#[98,48]⟩,.B b0),(⟨#[98,49]⟩,.B b1)]/\∀ p ∈ env,TV p.2:=by
 obtain⟨h1,h2,h3⟩:=h;have hl:env.length=7:=by have:=congrArg List.length h1;simpa using this
 match env,hl with
 | [p0,p1,p2,p3,p4,p5,p6],_ =>
  have e1:[p0.1,p1.1,p2.1,p3.1,p4.1,p5.1,p6.1]=[nmAt 0,nmAt 1,nmAt 2,nmAt 3,nmAt 4,nmAt 5,nmAt 6]:=h1;have e2:[sortOf p0.2,sortOf p1.2,sortOf p2.2,sortOf p3.2,sortOf p4.2,sortOf p5.2,sortOf p6.2]=[0,0,0,2,2,1,1]:=h2;simp only[List.cons.injEq,and_true] at e1 e2;obtain⟨n0,n1,n2,n3,n4,n5,n6⟩:=e1;obtain⟨s0,s1,s2,s3,s4,s5,s6⟩:=e2;obtain⟨a0,x0⟩:=p0;obtain⟨a1,x1⟩:=p1;obtain⟨a2,x2⟩:=p2;obtain⟨a3,x3⟩:=p3;obtain⟨a4,x4⟩:=p4;obtain⟨a5,x5⟩:=p5;obtain⟨a6,x6⟩:=p6;simp only at n0 n1 n2 n3 n4 n5 n6 s0 s1 s2 s3 s4 s5 s6;subst n0 n1 n2 n3 n4 n5 n6;have toI:∀ {x:V},sortOf x=0->∃ z,x=.I z:=fun {x} h=>by cases x with | I z=>exact⟨z,rfl⟩ | B b=>cases h | L l=>cases h
  have toL:∀ {x:V},sortOf x=2->∃ z,x=.L z:=fun {x} h=>by cases x with | I z=>cases h | B b=>cases h | L l=>exact⟨l,rfl⟩
  have toB:∀ {x:V},sortOf x=1->∃ z,x=.B z:=fun {x} h=>by cases x with | I z=>cases h | B b=>exact⟨b,rfl⟩ | L l=>cases h
  obtain⟨z0,rfl⟩:=toI s0;obtain⟨z1,rfl⟩:=toI s1;obtain⟨z2,rfl⟩:=toI s2;obtain⟨l0,rfl⟩:=toL s3;obtain⟨l1,rfl⟩:=toL s4;obtain⟨b0,rfl⟩:=toB s5;obtain⟨b1,rfl⟩:=toB s6;exact⟨z0,z1,z2,l0,l1,b0,b1,rfl,h3⟩
theorem pow46 {n:Nat} (h:n<L32 ^ 4):n<L32 ^ 600:=lt_pow_more (k:=4) (k':=600) h (by decide)
def eD:Nat->Nat
 | 0=>4
 | d+1=>2*eD d+4
theorem eD_pos:∀ d,4<=eD d
 | 0=>Nat.le_refl _
 | d+1=>by unfold eD;omega
def Bd (d:Nat):V->Prop
 | .I z=>z.natAbs<L32 ^ eD d
 | .B _=>True
 | .L l=>l.length<=6+d/\∀ z ∈ l,z.natAbs<L32 ^ eD d
theorem L32_pos:0<L32:=by decide
theorem L32_le {a b:Nat} (h:a<=b):L32 ^ a<=L32 ^ b:=Nat.pow_le_pow_right L32_pos h
theorem Bd.asI {d:Nat} {v:V} (h:Bd d v):(Go.Proofs.Ytdkfnbbebpbhaaa.asI v).natAbs<L32 ^ eD d:=by
 cases v with
 | I z=>exact h
 | B b=>exact Nat.pow_pos L32_pos
 | L l=>exact Nat.pow_pos L32_pos
theorem Bd.asL {d:Nat} {v:V} (h:Bd d v):(Go.Proofs.Ytdkfnbbebpbhaaa.asL v).length<=6+d/\∀ z ∈ Go.Proofs.Ytdkfnbbebpbhaaa.asL v,z.natAbs<L32 ^ eD d:=by
 cases v with
 | I z=>exact⟨Nat.zero_le _,fun z hz=>by cases hz⟩
 | B b=>exact⟨Nat.zero_le _,fun z hz=>by cases hz⟩
 | L l=>exact h
theorem Bd.up {d:Nat} {v:V} (h:Bd d v):Bd (d+1) v:=by
 have hle:L32 ^ eD d<=L32 ^ eD (d+1):=L32_le (by show eD d<=2*eD d+4;omega)
 cases v with
 | I z=>exact Nat.lt_of_lt_of_le h hle
 | B b=>trivial
 | L l=>exact⟨by have:=h.1;omega,fun z hz=>Nat.lt_of_lt_of_le (h.2 z hz) hle⟩
theorem Bd.zero (d:Nat):Bd d (.I 0):=Nat.pow_pos L32_pos
theorem Bd.ups {v:V} (h:Bd 0 v):∀ d,Bd d v
 | 0=>h
 | d+1=>(Bd.ups h d).up
theorem Bd.sm {d:Nat} {v:V} (h:Bd d v) (h1:eD d<=600) (h2:6+d<=1000):SmV v:=by
 cases v with
 | I z=>exact lt_pow_more (k:=eD d) (k':=600) h h1
 | B b=>trivial
 | L l=>exact⟨Nat.le_trans h.1 h2,fun z hz=>lt_pow_more (k:=eD d) (k':=600) (h.2 z hz) h1⟩
theorem at_bd {d:Nat} {vs:List V} (h:∀ v ∈ vs,Bd d v) (i:Nat):Bd d (vs.getD i (.I 0)):=by
 by_cases hi:i<vs.length
 ·have e:vs.getD i (.I 0)=vs[i]:=by simp[List.getD,hi]
  rw[e];exact h _ (List.getElem_mem hi)
 have e:vs.getD i (.I 0)=.I 0:=by simp[List.getD,List.getElem?_eq_none (Nat.le_of_not_lt hi)]
 rw[e];exact Bd.zero d
theorem two_pow {a:Nat} (h:4<=a):2*L32 ^ a<=L32 ^ (2*a+4):=by
 have h1:L32 ^ (a+1)<=L32 ^ (2*a+4):=L32_le (by omega);rw[Nat.pow_succ] at h1;have h2:2<=L32:=by decide
 have h3:=Nat.mul_le_mul_left (L32 ^ a) h2;rw[Nat.mul_comm] at h3
 omega
theorem opV_bd {r:ByteArray->V} {d:Nat} {o z:Int} {nm:ByteArray} {vs:List V} (hv:∀ v ∈ vs,Bd d v) (hz:z.natAbs<L32 ^ 4) (h5:o=5->1<=z) (hr:∀ nm,Bd d (r nm)) (hd:d<=900):Bd (d+1) (opV r o z nm vs):=by
 have a0:=(at_bd hv 0).asI;have a1:=(at_bd hv 1).asI;have l0:=(at_bd hv 0).asL;have l1:=(at_bd hv 1).asL;have hp:=eD_pos d;have hle:L32 ^ eD d<=L32 ^ eD (d+1):=L32_le (by show eD d<=2*eD d+4;omega);have h2:=two_pow hp;rcases ops21 o with h | h
 ·rcases h with rfl | rfl | rfl | rfl | rfl | rfl | rfl | rfl | rfl | rfl | rfl | rfl | rfl | rfl | rfl | rfl | rfl | rfl | rfl | rfl | rfl
  ·show z.natAbs<_
   exact Nat.lt_of_lt_of_le hz (L32_le (by show 4<=2*eD d+4;omega))
  ·exact Nat.lt_of_lt_of_le (hr nm).asI hle
  ·show (asI (at0 vs)+asI (at1 vs)).natAbs<L32 ^ (2*eD d+4)
   have:(asI (at0 vs)+asI (at1 vs)).natAbs<=(asI (at0 vs)).natAbs+(asI (at1 vs)).natAbs:=Int.natAbs_add_le _ _;unfold at0 at1 at *
   omega
  ·show (z*asI (at0 vs)).natAbs<L32 ^ (2*eD d+4)
   rw[Int.natAbs_mul];have h3:=Nat.mul_lt_mul'' hz a0;rw[<-Nat.pow_add] at h3;exact Nat.lt_of_lt_of_le h3 (L32_le (by omega))
  ·show (asI (at0 vs)*asI (at1 vs)).natAbs<L32 ^ (2*eD d+4)
   rw[Int.natAbs_mul];have h3:=Nat.mul_lt_mul'' a0 a1;rw[<-Nat.pow_add] at h3;exact Nat.lt_of_lt_of_le h3 (L32_le (by omega))
  ·show (Int.fdiv (asI (at0 vs)) z).natAbs<L32 ^ (2*eD d+4)
   have hz1:=h5 rfl;rw[Int.fdiv_eq_ediv_of_nonneg _ (by omega)];exact Nat.lt_of_lt_of_le (Nat.lt_of_le_of_lt (Int.natAbs_ediv_le_natAbs _ _) a0) hle
  ·show (((asL (at0 vs)).length:Nat):Int).natAbs<L32 ^ (2*eD d+4)
   rw[Int.natAbs_natCast];have h3:L32 ^ 1<=L32 ^ (2*eD d+4):=L32_le (by omega);have h4:L32 ^ 1=4294967296:=by decide
   have h6:(asL (at0 vs)).length<=6+d:=l0.1
   omega
  ·show ((asL (at0 vs)).headD 0).natAbs<L32 ^ (2*eD d+4)
   have h6:∀ z ∈ asL (at0 vs),z.natAbs<L32 ^ eD d:=l0.2
   cases hl:asL (at0 vs) with
   | nil=>exact Nat.pow_pos L32_pos
   | cons y l=>rw[hl] at h6;exact Nat.lt_of_lt_of_le (h6 y (by simp)) hle
  ·show (asL (r nm)).length<=6+(d+1)/\_
   have h6:=(hr nm).asL;exact⟨by have:=h6.1;omega,fun z hz=>Nat.lt_of_lt_of_le (h6.2 z hz) hle⟩
  ·exact⟨Nat.zero_le _,fun z hz=>by cases hz⟩
  ·show (asI (at0 vs)::asL (at1 vs)).length<=6+(d+1)/\_
   have h6:(asL (at1 vs)).length<=6+d:=l1.1;have h7:∀ z ∈ asL (at1 vs),z.natAbs<L32 ^ eD d:=l1.2;refine⟨by rw[lsc];omega,fun z hz=>?_⟩;rcases List.mem_cons.1 hz with rfl | hz
   ·exact Nat.lt_of_lt_of_le a0 hle
   exact Nat.lt_of_lt_of_le (h7 z hz) hle
  ·show (asL (at0 vs)).tail.length<=6+(d+1)/\_
   have h6:(asL (at0 vs)).length<=6+d:=l0.1;have h7:∀ z ∈ asL (at0 vs),z.natAbs<L32 ^ eD d:=l0.2;exact⟨by rw[List.length_tail];omega,fun z hz=>Nat.lt_of_lt_of_le (h7 z (List.mem_of_mem_tail hz)) hle⟩
  all_goals trivial
 unfold opV;rw[if_neg (by omega),if_neg (by omega),if_neg (by omega),if_neg (by omega),if_neg (by omega),if_neg (by omega),if_neg (by omega),if_neg (by omega),if_neg (by omega),if_neg (by omega),if_neg (by omega),if_neg (by omega),if_neg (by omega),if_neg (by omega),if_neg (by omega),if_neg (by omega),if_neg (by omega),if_neg (by omega),if_neg (by omega),if_neg (by omega),if_neg (by omega)];exact Bd.zero _
theorem fit5 {o z:Int} {ss:List Int} (h:fitF o z ss=true):o=5->1<=z:=by
 rintro rfl
 simp[fitF] at h
 exact h.2
theorem tm_bd {r:ByteArray->V} (hr:∀ nm,Bd 0 (r nm)):∀ (d:Nat),d<=6->∀ t:F,Tm d t->rt t=true->Bd d (ev r t)/\Sm r t
 | 0,_,t,h,_=>absurd h id
 | d+1,hd,.node o z nm ks,h,hrt=>by
  obtain⟨hfit,hrs⟩:=rt_node hrt;have hk:=h.2.2.2.2;have ih:=fun k hk'=>tm_bd hr d (by omega) k (hk k hk') (hrs k hk')
  have hz:z.natAbs<L32 ^ 4:=h.2.1
  have hb:Bd (d+1) (opV r o z nm (evs r ks)):=by
   refine opV_bd (fun v hv=>?_) hz (fit5 hfit) (fun nm=>Bd.ups (hr nm) d) (by omega);rw[evs_map] at hv;obtain⟨k,hk',rfl⟩:=List.mem_map.1 hv;exact (ih k hk').1
  have hle:eD (d+1)<=600:=by
   have:d=0\/d=1\/d=2\/d=3\/d=4\/d=5:=by omega
   rcases this with rfl | rfl | rfl | rfl | rfl | rfl<;>decide
  refine⟨by rw[ev];exact hb,?_⟩;rw[Sm];refine⟨hb.sm hle (by omega),?_⟩
  have:∀ l:List F,(∀ k ∈ l,Sm r k)->Sms r l:=by
   intro l
   induction l with
   | nil=>intro _;trivial
   | cons a l ihl=>intro h;exact⟨h a (by simp),ihl (fun k hk=>h k (by simp[hk]))⟩
  exact this ks (fun k hk'=>(ih k hk').2)
theorem fold_bd {P:V->Prop} {nm:ByteArray}:∀ (l:List (ByteArray × V)) (a:V),P a->(∀ p ∈ l,P p.2)->P (l.foldl (fun a p=>if p.1=nm then p.2 else a) a)
 | [],a,ha,_=>ha
 | q::l,a,ha,h=>by
  rw[List.foldl_cons];refine fold_bd l _ ?_ (fun p hp=>h p (by simp[hp]))
  split
  ·exact h q (by simp)
  exact ha
theorem rho_bd {env:List (ByteArray × V)} (h:∀ p ∈ env,TV p.2) (nm:ByteArray):Bd 0 (rho env nm):=by
 refine fold_bd env _ (Bd.zero 0) (fun p hp=>?_);have:=h p hp
 cases hx:p.2 with
 | I z=>rw[hx] at this;exact this
 | B b=>trivial
 | L l=>rw[hx] at this;exact⟨by have:=this.1;omega,this.2⟩
def GdF (r:ByteArray->V) (t:F):Prop:=rt t=true/\srt t.op=1/\Sm r t
theorem gd_const {r:ByteArray->V} {o:Int} (ho:o=12\/o=13):GdF r (.node o 0 ⟨#[]⟩ []):=by
 rcases ho with rfl | rfl<;>exact⟨rfl,rfl,by rw[Sm];exact⟨trivial,trivial⟩⟩
theorem gd_not {r:ByteArray->V} {t:F} (h:GdF r t):GdF r (.node 17 0 ⟨#[]⟩ [t])/\asB (ev r (.node 17 0 ⟨#[]⟩ [t])) = !asB (ev r t):=by
 obtain⟨h1,h2,h3⟩:=h;refine⟨⟨?_,rfl,?_⟩,by rw[ev,evs,evs];rfl⟩
 ·rw[rt,rts,rts,h1]
  simp[srts,h2,fitF,kidsOk]
 rw[Sm];exact⟨trivial,h3,trivial⟩
theorem no_gd {r:ByteArray->V} {t:F} (h:GdF r t):GdF r (noF t)/\asB (ev r (noF t)) = !asB (ev r t):=by
 obtain⟨o,z,nm,ks⟩:=t;have h0:=h;obtain⟨h1,h2,h3⟩:=h
 by_cases e12:o=12
 ·subst e12;exact⟨gd_const (.inr rfl),by rw[show noF (.node 12 z nm ks)=.node 13 0 ⟨#[]⟩ [] from rfl,ev,ev];rfl⟩
 by_cases e13:o=13
 ·subst e13;exact⟨gd_const (.inl rfl),by rw[show noF (.node 13 z nm ks)=.node 12 0 ⟨#[]⟩ [] from rfl,ev,ev];rfl⟩
 by_cases e17:o=17
 ·subst e17;have hs1:srts ks=[1]:=by simpa [fitF,kidsOk] using (rt_node h1).1
  obtain⟨p,rfl,hp⟩:=srts_one hs1;refine⟨⟨(rt_node h1).2 p (by simp),hp,h3.kid p (by simp)⟩,?_⟩;rw[show noF (.node 17 z nm [p])=p from rfl,show ev r (.node 17 z nm [p])=.B (!asB (ev r p)) from by rw[ev,evs,evs];rfl]
  show _ = !!_
  rw[Bool.not_not]
 have hn:noF (.node o z nm ks)=.node 17 0 ⟨#[]⟩ [.node o z nm ks]:=by
  show (if o=12 then _ else if o=13 then _ else _)=_
  rw[if_neg e12,if_neg e13]
  cases ks with
  | nil=>rfl
  | cons a l=>cases l with
   | nil=>exact if_neg e17
   | cons b l=>rfl
 rw[hn];exact gd_not h0
theorem ev_12 (r:ByteArray->V) (t:F) (h:t.op=12):asB (ev r t)=true:=by
 obtain⟨o,z,nm,ks⟩:=t;obtain rfl:o=12:=h;rw[ev];rfl
theorem ev_13 (r:ByteArray->V) (t:F) (h:t.op=13):asB (ev r t)=false:=by
 obtain⟨o,z,nm,ks⟩:=t;obtain rfl:o=13:=h;rw[ev];rfl
theorem gd_many {r:ByteArray->V} {o:Int} (ho:o=18\/o=19) {ts:List F} (h:∀ t ∈ ts,GdF r t):GdF r (.node o 0 ⟨#[]⟩ ts):=by
 refine⟨?_,by rcases ho with rfl | rfl<;>rfl,?_⟩
 ·rw[rt,rts_all,fit_all ho (fun t ht=>(h t ht).2.1),Bool.true_and,List.all_eq_true];exact fun t ht=>(h t ht).1
 rw[Sm];refine⟨by rcases ho with rfl | rfl<;>exact trivial,?_⟩
 induction ts with
 | nil=>trivial
 | cons a l ih=>exact⟨(h a (by simp)).2.2,ih (fun t ht=>h t (by simp[ht]))⟩
theorem last_gd {r:ByteArray->V} {o n:Int} (ho:o=18\/o=19) (hn:n=12\/n=13):∀ {ts:List F},(∀ t ∈ ts,GdF r t)->GdF r (lastF o n ts)
 | [],_=>gd_const hn
 | [t],h=>h t (by simp)
 | a::b::l,h=>gd_many ho h
theorem all_filt {p:F->Bool} {q:F->Bool} (ts:List F) (h:∀ t ∈ ts,q t=false->p t=true):(ts.filter q).all p=ts.all p:=by
 induction ts with
 | nil=>rfl
 | cons a l ih =>
  have ih:=ih (fun t ht=>h t (by simp[ht]))
  cases hq:q a with
  | true=>rw[List.filter_cons_of_pos hq,List.all_cons,List.all_cons,ih]
  | false=>rw[List.filter_cons_of_neg (by simp[hq]),List.all_cons,ih,h a (by simp) hq,Bool.true_and]
theorem any_filt {p:F->Bool} {q:F->Bool} (ts:List F) (h:∀ t ∈ ts,q t=false->p t=false):(ts.filter q).any p=ts.any p:=by
 induction ts with
 | nil=>rfl
 | cons a l ih =>
  have ih:=ih (fun t ht=>h t (by simp[ht]))
  cases hq:q a with
  | true=>rw[List.filter_cons_of_pos hq,List.any_cons,List.any_cons,ih]
  | false=>rw[List.filter_cons_of_neg (by simp[hq]),List.any_cons,ih,h a (by simp) hq,Bool.false_or]
theorem last_all (r:ByteArray->V):∀ ts:List F,asB (ev r (lastF 18 12 ts))=ts.all (fun t=>asB (ev r t))
 | []=>by rw[show lastF 18 12 []=.node 12 0 ⟨#[]⟩ [] from rfl,ev];rfl
 | [t]=>by rw[show lastF 18 12 [t]=t from rfl];simp
 | a::b::l=>by rw[show lastF 18 12 (a::b::l)=.node 18 0 ⟨#[]⟩ (a::b::l) from rfl,ev,evs_map];show (List.map (ev r) _).all asB=_;rw[List.all_map];rfl
theorem last_any (r:ByteArray->V):∀ ts:List F,asB (ev r (lastF 19 13 ts))=ts.any (fun t=>asB (ev r t))
 | []=>by rw[show lastF 19 13 []=.node 13 0 ⟨#[]⟩ [] from rfl,ev];rfl
 | [t]=>by rw[show lastF 19 13 [t]=t from rfl];simp
 | a::b::l=>by rw[show lastF 19 13 (a::b::l)=.node 19 0 ⟨#[]⟩ (a::b::l) from rfl,ev,evs_map];show (List.map (ev r) _).any asB=_;rw[List.any_map];rfl
theorem both_gd {r:ByteArray->V} {ts:List F} (h:∀ t ∈ ts,GdF r t):GdF r (joinF 18 12 13 ts)/\asB (ev r (joinF 18 12 13 ts))=ts.all (fun t=>asB (ev r t)):=by
 unfold joinF
 by_cases hx:ts.any (fun t=>decide (t.op=13))=true
 ·rw[if_pos hx];obtain⟨t,ht,he⟩:=List.any_eq_true.1 hx;refine⟨gd_const (.inr rfl),?_⟩;have hf:ts.all (fun t=>asB (ev r t))=false:=List.all_eq_false.2 ⟨t,ht,by rw[ev_13 r t (of_decide_eq_true he)];decide⟩;rw[hf,ev];rfl
 rw[if_neg hx];refine⟨last_gd (.inl rfl) (.inl rfl) (fun t ht=>h t ((List.mem_filter.1 ht).1)),?_⟩;rw[last_all];exact all_filt ts (fun t _ hq=>ev_12 r t (by simpa using hq))
theorem either_gd {r:ByteArray->V} {ts:List F} (h:∀ t ∈ ts,GdF r t):GdF r (joinF 19 13 12 ts)/\asB (ev r (joinF 19 13 12 ts))=ts.any (fun t=>asB (ev r t)):=by
 unfold joinF
 by_cases hx:ts.any (fun t=>decide (t.op=12))=true
 ·rw[if_pos hx];obtain⟨t,ht,he⟩:=List.any_eq_true.1 hx;refine⟨gd_const (.inl rfl),?_⟩;have hf:ts.any (fun t=>asB (ev r t))=true:=List.any_eq_true.2 ⟨t,ht,ev_12 r t (of_decide_eq_true he)⟩;rw[hf,ev];rfl
 rw[if_neg hx];refine⟨last_gd (.inr rfl) (.inr rfl) (fun t ht=>h t ((List.mem_filter.1 ht).1)),?_⟩;rw[last_any];exact any_filt ts (fun t _ hq=>ev_13 r t (by simpa using hq))
def vF (o:Int) (nm:ByteArray):F:=.node o 0 nm []
theorem sm_leaf {r:ByteArray->V} {o z:Int} {nm:ByteArray} (h:SmV (opV r o z nm [])):Sm r (.node o z nm []):=by
 rw[Sm,evs];exact⟨h,trivial⟩
theorem less_gd {r:ByteArray->V} {m n:ByteArray} {v w:Int} (hv:r m=.I v) (hw:r n=.I w) (h1:v.natAbs<L32 ^ 4) (h2:w.natAbs<L32 ^ 4) :
  (rt (.node 15 0 ⟨#[]⟩ [.node 2 0 ⟨#[]⟩ [vF 1 m,.node 0 1 ⟨#[]⟩ []],vF 1 n])=true/\Sm r (.node 15 0 ⟨#[]⟩ [.node 2 0 ⟨#[]⟩ [vF 1 m,.node 0 1 ⟨#[]⟩ []],vF 1 n]))/\asB (ev r (.node 15 0 ⟨#[]⟩ [.node 2 0 ⟨#[]⟩ [vF 1 m,.node 0 1 ⟨#[]⟩ []],vF 1 n]))=decide (sgnZ (v - w)<0):=by
 have ev1:ev r (vF 1 m)=.I v:=by show V.I (asI (r m))=_;rw[hv];rfl
 have ev2:ev r (vF 1 n)=.I w:=by show V.I (asI (r n))=_;rw[hw];rfl
 have ev3:ev r (.node 2 0 ⟨#[]⟩ [vF 1 m,.node 0 1 ⟨#[]⟩ []])=.I (v+1):=by rw[ev,evs,evs,evs,ev1,ev];rfl
 have k4:L32 ^ 4=340282366920938463463374607431768211456:=by decide
 have k5:L32 ^ 5=1461501637330902918203684832716283019655932542976:=by decide
 have hb:(v+1).natAbs<L32 ^ 5:=by rw[k4] at h1;rw[k5];omega
 refine⟨⟨rfl,?_⟩,?_⟩
 ·rw[Sm,evs,evs,evs,ev3,ev2];refine⟨trivial,?_,?_,trivial⟩
  ·rw[Sm,evs,evs,evs,ev1,ev];refine⟨lt_pow_more (k:=5) (k':=600) hb (by decide),?_,?_,trivial⟩
   ·exact sm_leaf (show SmV (.I (asI (r m))) from by rw[hv];exact pow46 h1)
   exact sm_leaf (lt_pow_more (k:=1) (k':=600) (show (1:Int).natAbs<L32 ^ 1 by decide) (by decide))
  exact sm_leaf (show SmV (.I (asI (r n))) from by rw[hw];exact pow46 h2)
 rw[ev,evs,evs,evs,ev3,ev2]
 show decide (v+1<=w)=decide (sgnZ (v - w)<0)
 apply decide_eq_decide.2
 unfold sgnZ;(repeat' split)<;>constructor<;>intro h<;>first | omega | (exfalso;omega)
theorem eqI_gd {r:ByteArray->V} {m n:ByteArray} {v w:Int} (hv:r m=.I v) (hw:r n=.I w) (h1:v.natAbs<L32 ^ 4) (h2:w.natAbs<L32 ^ 4) :
  (rt (.node 16 0 ⟨#[]⟩ [vF 1 m,vF 1 n])=true/\Sm r (.node 16 0 ⟨#[]⟩ [vF 1 m,vF 1 n]))/\asB (ev r (.node 16 0 ⟨#[]⟩ [vF 1 m,vF 1 n]))=decide (sgnZ (v - w)=0):=by
 have ev1:ev r (vF 1 m)=.I v:=by show V.I (asI (r m))=_;rw[hv];rfl
 have ev2:ev r (vF 1 n)=.I w:=by show V.I (asI (r n))=_;rw[hw];rfl
 refine⟨⟨rfl,?_⟩,?_⟩
 ·rw[Sm];refine⟨trivial,?_,?_,trivial⟩
  ·exact sm_leaf (show SmV (.I (asI (r m))) from by rw[hv];exact pow46 h1)
  exact sm_leaf (show SmV (.I (asI (r n))) from by rw[hw];exact pow46 h2)
 rw[ev,evs,evs,evs,ev1,ev2]
 show decide (V.I v=V.I w)=decide (sgnZ (v - w)=0)
 apply decide_eq_decide.2
 constructor
 ·intro h;injection h with h;subst h;unfold sgnZ;simp
 intro h
 have:v=w:=by
  unfold sgnZ at h
  revert h;(repeat' split)<;>intro h<;>first | omega | (exfalso;omega)
 rw[this]
theorem sub_gd {r:ByteArray->V} {m n:ByteArray} {v w:Int} (hv:r m=.I v) (hw:r n=.I w) (h1:v.natAbs<L32 ^ 4) (h2:w.natAbs<L32 ^ 4) :
  (rt (.node 2 0 ⟨#[]⟩ [vF 1 m,.node 3 (-1) ⟨#[]⟩ [vF 1 n]])=true/\Sm r (.node 2 0 ⟨#[]⟩ [vF 1 m,.node 3 (-1) ⟨#[]⟩ [vF 1 n]]))/\ev r (.node 2 0 ⟨#[]⟩ [vF 1 m,.node 3 (-1) ⟨#[]⟩ [vF 1 n]])=.I (v - w):=by
 have ev1:ev r (vF 1 m)=.I v:=by show V.I (asI (r m))=_;rw[hv];rfl
 have ev2:ev r (vF 1 n)=.I w:=by show V.I (asI (r n))=_;rw[hw];rfl
 have ev3:ev r (.node 3 (-1) ⟨#[]⟩ [vF 1 n])=.I (-1*w):=by rw[ev,evs,evs,ev2];rfl
 have ev4:ev r (.node 2 0 ⟨#[]⟩ [vF 1 m,.node 3 (-1) ⟨#[]⟩ [vF 1 n]])=.I (v - w):=by rw[ev,evs,evs,evs,ev1,ev3];show V.I (v + -1*w)=_;congr 1;omega
 have k4:L32 ^ 4=340282366920938463463374607431768211456:=by decide
 have k5:L32 ^ 5=1461501637330902918203684832716283019655932542976:=by decide
 have hb:(v + -1*w).natAbs<L32 ^ 5:=by rw[k4] at h1 h2;rw[k5];omega
 have hb2:(-1*w).natAbs<L32 ^ 5:=by rw[k4] at h2;rw[k5];omega
 refine⟨⟨rfl,?_⟩,ev4⟩;rw[Sm,evs,evs,evs,ev1,ev3];refine⟨lt_pow_more (k:=5) (k':=600) hb (by decide),?_,?_,trivial⟩
 ·exact sm_leaf (show SmV (.I (asI (r m))) from by rw[hv];exact pow46 h1)
 rw[Sm,evs,evs,ev2];refine⟨lt_pow_more (k:=5) (k':=600) hb2 (by decide),?_,trivial⟩;exact sm_leaf (show SmV (.I (asI (r n))) from by rw[hw];exact pow46 h2)
theorem iff_gd {r:ByteArray->V} {m n:ByteArray} {a b:Bool} (hv:r m=.B a) (hw:r n=.B b) :
  (rt (.node 20 0 ⟨#[]⟩ [vF 14 m,vF 14 n])=true/\Sm r (.node 20 0 ⟨#[]⟩ [vF 14 m,vF 14 n]))/\asB (ev r (.node 20 0 ⟨#[]⟩ [vF 14 m,vF 14 n]))=(a==b):=by
 have ev1:ev r (vF 14 m)=.B a:=by show V.B (asB (r m))=_;rw[hv];rfl
 have ev2:ev r (vF 14 n)=.B b:=by show V.B (asB (r n))=_;rw[hw];rfl
 refine⟨⟨rfl,?_⟩,by rw[ev,evs,evs,evs,ev1,ev2];rfl⟩;rw[Sm];refine⟨trivial,?_,?_,trivial⟩
 ·exact sm_leaf trivial
 exact sm_leaf trivial
theorem env_two {env:List (ByteArray × V)} (h:EnvAt 7 env):∃ v w a b,(rho env ⟨#[105,48]⟩=.I v/\rho env ⟨#[105,49]⟩=.I w/\rho env ⟨#[98,48]⟩=.B a/\rho env ⟨#[98,49]⟩=.B b)/\v.natAbs<L32 ^ 4/\w.natAbs<L32 ^ 4:=by
 obtain⟨z0,z1,z2,l0,l1,b0,b1,rfl,h3⟩:=env7 h;exact⟨z0,z1,b0,b1,⟨by simp[rho],by simp[rho],by simp[rho],by simp[rho]⟩,h3 (⟨#[105,48]⟩,.I z0) (by simp),h3 (⟨#[105,49]⟩,.I z1) (by simp)⟩
attribute [local go_sem] fieldV0 fieldV1 fieldV2 fieldV3
theorem fieldF0 (k:Int) (b:Bool) (o:Option Addr) (l c:Nat) (nm:ByteArray) (p:Option Addr) (m q:Nat) (w:World) :
  (Instr.field 29 (.agg #[.int .i64 k,.bool b,.slice o l c,.string nm,.slice p m q]) 0).run Try.prog w=.ok (.int .i64 k) w:=by
 unfold Instr.field;simp[go_sem,asAgg]
theorem tame3 (o:Int) (b:Bool) (ao:Option Addr) (l c:Nat) (nm:ByteArray) (ko:Option Addr) (kl kc:Nat) (w:World) (h:RawF w 3 ⟨o,b,ao,l,c,nm,ko,kl,kc⟩) :
  Calls Try.prog 7 #[.agg #[.int .i64 o,.bool b,.slice ao l c,.string nm,.slice ko kl kc],.int .i64 1,.int .i64 3] w (TamePost 3 1 w):=tameF 2 (by decide) 1 o b ao l c nm ko kl kc w (Or.inr (Or.inl rfl)) h
theorem fR_appendL {w:World} {B:Nat} {v:Value} {us:List FU} (h:fR.Row w B v us) {ops:Array Oper} {rest:List Oper} {o:Oper} {a:Act} {Q:Exit->Act->World->Prop} (hgd:o.guard=none) (s x:Operand)
  (ho:o.op=.call { callee:=.builtin .append,args:=#[s,x],argTypes:=#[27,27] }) (hs:a.eval s=v) (g:Nat) (u:FU) (hx:a.eval x=.slice (some ⟨g,0,none⟩) 1 1) (hB:w.heap[g]?=some (.cells (fC u).toArray 29 (0,0))) (hlen:us.length<=1000) (hb:B<=w.heap.size)
  (hK:∀ g' cap w',fR.Row w' B (.slice (some ⟨g',0,none⟩) (us.length+1) cap) (us++[u])->Fr fR.e w w'->Below B w w'->w.grownBy w' v.ownBlock->FreshF w v (.slice (some ⟨g',0,none⟩) (us.length+1) cap)->us.length+1<=cap->cap<=maxLen->wpList Try.prog ops Q rest (a.put o.dst (.slice (some ⟨g',0,none⟩) (us.length+1) cap)) w'):wpList Try.prog ops Q (o::rest) a w:=
 wpList_plain hgd fun K hk=>fR_append h s x ho hs g u hx hB hlen hb (fun g' cap w' a1 a2 a3 a4 a5 a6 a7=>hk _ _ (hK g' cap w' a1 a2 a3 a4 a5 a6 a7))
theorem FC.of5 {w:World} {S:Nat->Prop} {d:Nat} {u:FU} {t:F} {v0 v1 v2 v3 v4:Value} (hu:fC u=[v0,v1,v2,v3,v4]) (h:FT w S d u t):FC w S d (.agg #[v0,v1,v2,v3,v4]) t:=
 ⟨u,(congrArg (fun l:List Value=>Value.agg l.toArray) hu).symm,h⟩
structure JSt (r:ByteArray->V) (B:Nat) (v:Value) (us:List FU) (ts:List F) (wr:World):Prop where
 row:fR.Row wr B v us
 len:us.length=ts.length
 tr:∀ q (h1:q<us.length) (h2:q<ts.length),FT wr (fun b=>v.ownBlock≠some b) 3 us[q] ts[q]
 good:∀ t ∈ ts,GdF r t
theorem JSt.below {r:ByteArray->V} {B:Nat} {v:Value} {us:List FU} {ts:List F} {wr w':World} (h:JSt r B v us ts wr) (hb:Below wr.heap.size wr w'):JSt r B v us ts w':=
 ⟨h.row.below hb,h.len,fun q h1 h2=>(h.tr q h1 h2).below hb,h.good⟩
theorem JSt.next {r:ByteArray->V} {B:Nat} {v:Value} {us:List FU} {ts:List F} {w0 wr w6:World} (h:JSt r B v us ts wr) {y:FU} {t:F} (h0:w0.heap.size<=wr.heap.size) (hv:∀ b,v.ownBlock=some b->b<w0.heap.size) (hy:FT wr (fun b=>w0.heap.size<=b) 3 y t) (hg:GdF r t) {g cap:Nat} (hrow:fR.Row w6 B (.slice (some ⟨g,0,none⟩) (us.length+1) cap) (us++[y])) (hfr:Fr 29 wr w6) (hgr:wr.grownBy w6 v.ownBlock) (hfresh:FreshF wr v (.slice (some ⟨g,0,none⟩) (us.length+1) cap)) :
  JSt r B (.slice (some ⟨g,0,none⟩) (us.length+1) cap) (us++[y]) (ts++[t]) w6:=by
 have key:∀ b,v.ownBlock≠some b/\b<wr.heap.size->(Value.slice (some ⟨g,0,none⟩) (us.length+1) cap).ownBlock≠some b:=by
  intro b hb e;have hgb:g=b:=by simpa [Value.ownBlock] using e
  rcases hfresh b (by rw[<-hgb];rfl) with h1 | h1
  ·exact hb.1 h1
  omega
 refine⟨hrow,by rw[lsa,lsa,h.len];rfl,ft_snoc h.len (fun q h1 h2=>?_) ?_,fun u hu=>?_⟩
 ·exact (((h.tr q h1 h2).lt.grown hgr (KN.of_fr hfr) (fun b hb e=>hb.1 e)).mono key)
 ·have h1:=hy.lt;refine (h1.grown hgr (KN.of_fr hfr) (fun b hb e=>?_)).mono (fun b hb=>key b ⟨fun e=>?_,hb.2⟩)
  ·have:=hv b e;omega
  have:=hv b e;omega
 rcases List.mem_append.1 hu with hu | hu
 ·exact h.good u hu
 rw[List.mem_singleton] at hu;subst hu;exact hg
theorem JSt.fl {r:ByteArray->V} {B g n cap:Nat} {us:List FU} {ts:List F} {wr:World} (h:JSt r B (.slice (some ⟨g,0,none⟩) n cap) us ts wr) (hn:n=us.length):FL wr tS 3 (.slice (some ⟨g,0,none⟩) n cap) ts:=
 FL.turned h.row hn h.len trivial (fun i h1 h2=>(h.tr i h1 h2).mono fun _ _=>trivial)
theorem JSt.flAny {r:ByteArray->V} {B:Nat} {v:Value} {us:List FU} {ts:List F} {wr:World} (h:JSt r B v us ts wr):FL wr tS 3 v ts:=by
 rcases h.row.own.2 with ⟨rfl,h0⟩ | ⟨g,cap,cur,hv,_⟩
 ·have:ts=[]:=List.eq_nil_of_length_eq_zero (by rw[<-h.len,h0]);subst this;exact FL.nil _ _ _
 subst hv;exact h.fl rfl
theorem JSt.nil (r:ByteArray->V) (B:Nat) (w:World):JSt r B (.slice none 0 0) [] [] w:=⟨El.Row.nil _ _,rfl,fun q h=>absurd h (Nat.not_lt_zero q),fun t h=>by cases h⟩
theorem EL.fr {e:TypeId} {w w':World} {v:Value} {env:List (ByteArray × V)} (h:EL w v env) (h1:59≠e) (h2:bE.ok e) (f:Fr e w w'):EL w' v env:=by
 obtain⟨us,hu,rfl⟩:=h;exact⟨us,hu.fr h2 h1 f,rfl⟩
theorem joins_walk (ko:Option Addr) (kl kc:Nat) (vo:Option Addr) (vl vc:Nat) (w:World) (hx:RForms w ko kl kc) (hv:RVals w vo vl vc) :
  Calls Try.prog 5 #[.slice ko kl kc,.slice vo vl vc] w fun e w'=>e=.returned (.bool true)/\Below w.heap.size w w':=by
 obtain⟨hk1,hk2⟩:=hx.1;have hk2':kc<=9223372036854775807:=hk2;have HX:=Lib.hid hx;have HV:=Lib.hid hv;clear hx hv hk2;have HW:=Lib.hid (Below.refl w.heap.size w);have HX0:=HX
 by_cases h6:6<kl
 ·have h6i:(6:Int)<((kl:Nat):Int):=by omega
  go_enter Try.func5,Try.ntmps5
  go_wp2_with fail
  refine (fit_p w).mono ?_;rintro e x1 ⟨rfl,hb⟩;replace HW:=Lib.hid (HW.out.trans (hb.mono HW.out.size));replace HV:=Lib.hid (HV.out.below hb);go_wp2_with fail
  go_ret
  exact⟨rfl,HW.out⟩
 have h6i:¬ (6:Int)<((kl:Nat):Int):=by omega
 go_enter Try.func5,Try.ntmps5
 go_wp2_with fail
 refine (fit_p w).mono ?_;rintro e x1 ⟨rfl,hb⟩;replace HW:=Lib.hid (HW.out.trans (hb.mono HW.out.size));replace HV:=Lib.hid (HV.out.below hb);go_wp2_with fail
 refine (env_p vo vl vc x1 HV.out).mono ?_;rintro e x2 ⟨ve,env,rfl,hel,hen,hb⟩;replace HW:=Lib.hid (HW.out.trans (hb.mono HW.out.size));replace HV:=Lib.hid (HV.out.below hb);have HEL:=Lib.hid hel;obtain⟨eo,en,ec,rfl⟩:=hel.shape;have HEN:=Lib.hid hen;have HBD:=Lib.hid (rho_bd hen.2.2);clear hel hen HV;go_wp2_with fail
 obtain⟨B,hBs⟩:∃ B,B=x2.heap.size:=⟨_,rfl⟩
 have HBX:Hid (w.heap.size<=B):=Lib.hid (by rw[hBs];exact HW.out.size);have HB0:Hid (B<=x2.heap.size):=Lib.hid (by rw[hBs];exact Nat.le_refl _);clear hBs h6i
 go_loopw [6,7,8,29] (fun f al on i wr=>∃ (j:Nat) (us:List FU) (ts:List F) (ro:Option Addr) (rc:Nat) (A O:Bool),f=.slice ro us.length rc/\al=.bool A/\on=.bool O/\i=.int .i64 (j:Nat)/\j<=kl/\us.length=j/\us.length<=rc/\rc<=9223372036854775807/\Hid (JSt (rho env) B (.slice ro us.length rc) us ts wr)/\Hid (A=ts.all (fun t=>asB (ev (rho env) t)))/\Hid (O=ts.any (fun t=>asB (ev (rho env) t)))/\Hid (Below w.heap.size w wr)/\Hid (B<=wr.heap.size)/\Hid (EL wr (.slice eo en ec) env)) (fun _ _ _ i _=>kl - (intOf i).toNat)
 case atStart=>exact⟨0,[],[],none,0,true,false,rfl,rfl,rfl,rfl,Nat.zero_le _,rfl,Nat.zero_le _,by omega,Lib.hid (JSt.nil _ _ _),Lib.hid rfl,Lib.hid rfl,HW,HB0,HEL⟩
 case round =>
  obtain⟨wl,hwl⟩:∃ q,q=wr:=⟨_,rfl⟩
  subst hwl;clear HW HEL HB0;obtain⟨j,us,ts,ro,rc,A,O,rfl,rfl,rfl,rfl,hj,huj,hur,hurm,HJ,HA,HO,HW,HBW,HEL⟩:=hrel;obtain⟨n,hn⟩:∃ n,n=us.length:=⟨_,rfl⟩
  rw[<-hn] at huj hur HJ ⊢;have HNU:=Lib.hid hn;clear hn;subst huj
  by_cases hlt:n<kl
  ·obtain⟨y,⟨a,rfl,hya⟩,hraw⟩:=(HX0.out.below HW.out).2 n hlt;obtain⟨xo,xb,xao,xl,xc,xnm,xko,xkl,xkc⟩:=y;have g0:wl.cell? (a.add (n*5))=some (.int .i64 xo):=by have:=hya 0 _ rfl;rwa [add_addV,Nat.add_zero] at this
   have g1:wl.cell? ⟨(a.add (n*5)).block,(a.add (n*5)).off+1,none⟩=some (.bool xb):=hya 1 _ rfl;have g2:wl.cell? ⟨(a.add (n*5)).block,(a.add (n*5)).off+2,none⟩=some (.slice xao xl xc):=hya 2 _ rfl;have g3:wl.cell? ⟨(a.add (n*5)).block,(a.add (n*5)).off+3,none⟩=some (.string xnm):=hya 3 _ rfl;have g4:wl.cell? ⟨(a.add (n*5)).block,(a.add (n*5)).off+4,none⟩=some (.slice xko xkl xkc):=hya 4 _ rfl;have HRAW:=Lib.hid (hraw 3);clear hya hraw;have HOW0:=Lib.hid (fun b (hb:(Value.slice ro n rc).ownBlock=some b)=>(HJ.out.row.ge hb).2);obtain⟨x3,kf,ef,ekf,hbf,hkf,HBf⟩:=newV wl #[.int .i64 xo,.bool xb,.slice xao xl xc,.string xnm,.slice xko xkl xkc] 29;replace HW:=Lib.hid (HW.out.trans (hbf.out.mono HW.out.size));replace HJ:=Lib.hid (HJ.out.below hbf.out);replace HEL:=Lib.hid (HEL.out.below hbf.out)
   replace HRAW:=Lib.hid (HRAW.out.below hbf.out);have c0:=cell_at (v:=.int .i64 xo) HBf.out 0 rfl;have fc0:=froz_at HBf.out 0;have c1:=cell_at (v:=.bool xb) HBf.out 1 rfl;have fc1:=froz_at HBf.out 1;have c2:=cell_at (v:=.slice xao xl xc) HBf.out 2 rfl;have fc2:=froz_at HBf.out 2;have c3:=cell_at (v:=.string xnm) HBf.out 3 rfl;have fc3:=froz_at HBf.out 3;have c4:=cell_at (v:=.slice xko xkl xkc) HBf.out 4 rfl;have fc4:=froz_at HBf.out 4;go_wp2_with fail
   have HBT:Hid (B<=x3.heap.size):=Lib.hid (Nat.le_trans HBW.out hbf.out.size);have HOW:Hid (∀ b,(Value.slice ro n rc).ownBlock=some b->b<x3.heap.size):=Lib.hid (fun b hb=>Nat.lt_of_lt_of_le (HOW0.out b hb) hbf.out.size);refine (tame3 _ _ _ _ _ _ _ _ _ x3 HRAW.out).mono ?_;rintro e x4 ⟨v,t,rfl,hfc,hrt,hsrt,htm,hb⟩;clear g0 g1 g2 g3 g4 c0 fc0 c1 fc1 c2 fc2 c3 fc3 c4 fc4;replace HBf:=kBV hb HBf;replace HW:=Lib.hid (HW.out.trans (hb.mono HW.out.size));replace HJ:=Lib.hid (HJ.out.below hb);replace HEL:=Lib.hid (HEL.out.below hb);replace HRAW:=Lib.hid (HRAW.out.below hb);obtain⟨HBD1,hsm⟩:=tm_bd (r:=rho env) HBD.out 3 (by decide) t htm hrt;have HG:Hid (GdF (rho env) t):=Lib.hid ⟨hrt,hsrt,hsm⟩;obtain⟨b,ao,l,c,po,pl,pc,rfl,-,-,-⟩:=hfc.open;obtain⟨ty,hty⟩:∃ x,x=t.op:=⟨_,rfl⟩
   obtain⟨tn,htn⟩:∃ x,x=t.name:=⟨_,rfl⟩
   rw[<-hty,<-htn] at hfc;rw[<-hty,<-htn];obtain⟨u,hu,hT⟩:=hfc.unit5;have HU:=Lib.hid hu;have HT:=Lib.hid hT;have HS0:=Lib.hid hb.size;clear hfc hrt hsrt htm hsm HBD1 hty htn hu hT HRAW;obtain⟨x5,kx,ex,ekx,hbx,hkx,HBx⟩:=newV x4 #[.int .i64 ty,.bool b,.slice ao l c,.string tn,.slice po pl pc] 29;replace HW:=Lib.hid (HW.out.trans (hbx.out.mono HW.out.size));replace HJ:=Lib.hid (HJ.out.below hbx.out);replace HEL:=Lib.hid (HEL.out.below hbx.out);replace HT:=Lib.hid (HT.out.below hbx.out);have HBX1:Hid (x3.heap.size<=x5.heap.size):=Lib.hid (Nat.le_trans HS0.out hbx.out.size);have d0:=cell_at (v:=.int .i64 ty) HBx.out 0 rfl;have fd0:=froz_at HBx.out 0;have d1:=cell_at (v:=.bool b) HBx.out 1 rfl;have fd1:=froz_at HBx.out 1;have d2:=cell_at (v:=.slice ao l c) HBx.out 2 rfl;have fd2:=froz_at HBx.out 2
   have d3:=cell_at (v:=.string tn) HBx.out 3 rfl;have fd3:=froz_at HBx.out 3;have d4:=cell_at (v:=.slice po pl pc) HBx.out 4 rfl;have fd4:=froz_at HBx.out 4;obtain⟨x6,ky,ey,eky,hby,hky,HBy⟩:=newV x5 #[.int .i64 ty,.bool b,.slice ao l c,.string tn,.slice po pl pc] 29;replace HBx:=kBV hby.out HBx;replace HW:=Lib.hid (HW.out.trans (hby.out.mono HW.out.size));replace HJ:=Lib.hid (HJ.out.below hby.out);replace HEL:=Lib.hid (HEL.out.below hby.out);replace HT:=Lib.hid (HT.out.below hby.out);have HLX:=Lib.hid (lt_of_block HBx.out)
   go_upto_region 13 with (at_builtin;go_loud (refine fR_appendL HJ.out.row rfl (.tmp 35) (.tmp 37) rfl rfl ky u rfl (by rw[HU.out];exact HBy.out) (by have:=HNU.out;omega) (Nat.le_trans HBT.out (Nat.le_trans HBX1.out hby.out.size)) ?_;intro g' cap w9 r1 r2 r3 r4 r5 r6 r7;have HJ9:=Lib.hid (JSt.next HJ.out (w0:=x3) (Nat.le_trans HBX1.out hby.out.size) HOW.out HT.out HG.out r1 r2 r4 r5);have HW9:=Lib.hid (HW.out.trans (r3.mono HBX.out));have HBx9:=Lib.hid ((r4.block kx HLX.out (fun e=>by have h1:=HOW.out _ e.symm;have h2:=hkx.out;have h3:=HS0.out;omega)).trans HBx.out);have HEL9:=Lib.hid (HEL.out.fr (by decide) (show 26≠29 by decide) r2);have HFX9:Hid (FC w9 tS 3 (.agg #[.int .i64 ty,.bool b,.slice ao l c,.string tn,.slice po pl pc]) t):=Lib.hid (FC.of5 HU.out ((HT.out.grown r4 (KN.of_fr r2) (fun b hb e=>by have h1:=HOW.out b e;omega)).mono (fun _ _=>trivial)));have HC9:Hid (us.length+1<=cap/\cap<=9223372036854775807):=Lib.hid ⟨r6,r7⟩;have HB9:Hid (B<=w9.heap.size):=Lib.hid (Nat.le_trans (Nat.le_trans HBT.out (Nat.le_trans HBX1.out hby.out.size)) r3.size);clear r1 r2 r3 r4 r5 r6 r7))
   clear HW HJ HEL HBx HT;have HW:=HW9;have HJ:=HJ9;have HEL:=HEL9;have HFX:=HFX9;have HBx:=HBx9;clear HW9 HJ9 HEL9 HFX9 HBx9 HBy;obtain⟨E,hE⟩:∃ E,E=asB (ev (rho env) t):=⟨_,rfl⟩
   have HE:=Lib.hid hE;clear hE;have HSMT:=Lib.hid HG.out.2.2;have HNG:=Lib.hid (no_gd HG.out)
   cases A<;>cases O
   focus
    have d0:=cell_at (v:=.int .i64 ty) HBx.out 0 rfl;have fd0:=froz_at HBx.out 0;have d1:=cell_at (v:=.bool b) HBx.out 1 rfl;have fd1:=froz_at HBx.out 1;have d2:=cell_at (v:=.slice ao l c) HBx.out 2 rfl;have fd2:=froz_at HBx.out 2;have d3:=cell_at (v:=.string tn) HBx.out 3 rfl;have fd3:=froz_at HBx.out 3;have d4:=cell_at (v:=.slice po pl pc) HBx.out 4 rfl;have fd4:=froz_at HBx.out 4;go_wp2_with fail
    refine (holds_p 3 _ _ env t _ w9 HFX.out HEL.out HG.out.1 HSMT.out).mono ?_;rintro e x7 ⟨rfl,hb⟩;clear d0 fd0 d1 fd1 d2 fd2 d3 fd3 d4 fd4;replace HBx:=kBV hb HBx;replace HW:=Lib.hid (HW.out.trans (hb.mono HW.out.size));replace HJ:=Lib.hid (HJ.out.below hb);replace HEL:=Lib.hid (HEL.out.below hb);replace HFX:=Lib.hid (HFX.out.below hb);replace HB9:=Lib.hid (Nat.le_trans HB9.out hb.size);rw[<-HE.out];go_upto_region 14 with fail
    obtain⟨wz,hwz⟩:∃ q,q=x7:=⟨_,rfl⟩
    rw[<-hwz] at HW HJ HEL HFX HBx HB9 ⊢;clear hwz
   rotate_left
   focus
    have d0:=cell_at (v:=.int .i64 ty) HBx.out 0 rfl;have fd0:=froz_at HBx.out 0;have d1:=cell_at (v:=.bool b) HBx.out 1 rfl;have fd1:=froz_at HBx.out 1;have d2:=cell_at (v:=.slice ao l c) HBx.out 2 rfl;have fd2:=froz_at HBx.out 2;have d3:=cell_at (v:=.string tn) HBx.out 3 rfl;have fd3:=froz_at HBx.out 3;have d4:=cell_at (v:=.slice po pl pc) HBx.out 4 rfl;have fd4:=froz_at HBx.out 4;go_upto_region 14 with fail
    clear d0 fd0 d1 fd1 d2 fd2 d3 fd3 d4 fd4;obtain⟨wz,hwz⟩:∃ q,q=w9:=⟨_,rfl⟩
    rw[<-hwz] at HW HJ HEL HFX HBx HB9 ⊢;clear hwz
   rotate_left
   focus
    have d0:=cell_at (v:=.int .i64 ty) HBx.out 0 rfl;have fd0:=froz_at HBx.out 0;have d1:=cell_at (v:=.bool b) HBx.out 1 rfl;have fd1:=froz_at HBx.out 1;have d2:=cell_at (v:=.slice ao l c) HBx.out 2 rfl;have fd2:=froz_at HBx.out 2;have d3:=cell_at (v:=.string tn) HBx.out 3 rfl;have fd3:=froz_at HBx.out 3;have d4:=cell_at (v:=.slice po pl pc) HBx.out 4 rfl;have fd4:=froz_at HBx.out 4;go_wp2_with fail
    refine (holds_p 3 _ _ env t _ w9 HFX.out HEL.out HG.out.1 HSMT.out).mono ?_;rintro e x7 ⟨rfl,hb⟩;clear d0 fd0 d1 fd1 d2 fd2 d3 fd3 d4 fd4;replace HBx:=kBV hb HBx;replace HW:=Lib.hid (HW.out.trans (hb.mono HW.out.size));replace HJ:=Lib.hid (HJ.out.below hb);replace HEL:=Lib.hid (HEL.out.below hb);replace HFX:=Lib.hid (HFX.out.below hb);replace HB9:=Lib.hid (Nat.le_trans HB9.out hb.size);rw[<-HE.out];have d0:=cell_at (v:=.int .i64 ty) HBx.out 0 rfl;have fd0:=froz_at HBx.out 0;have d1:=cell_at (v:=.bool b) HBx.out 1 rfl;have fd1:=froz_at HBx.out 1;have d2:=cell_at (v:=.slice ao l c) HBx.out 2 rfl;have fd2:=froz_at HBx.out 2;have d3:=cell_at (v:=.string tn) HBx.out 3 rfl;have fd3:=froz_at HBx.out 3;have d4:=cell_at (v:=.slice po pl pc) HBx.out 4 rfl;have fd4:=froz_at HBx.out 4;go_wp2_with fail
    refine (holds_p 3 _ _ env t _ x7 HFX.out HEL.out HG.out.1 HSMT.out).mono ?_;rintro e x8 ⟨rfl,hb⟩;clear d0 fd0 d1 fd1 d2 fd2 d3 fd3 d4 fd4;replace HBx:=kBV hb HBx;replace HW:=Lib.hid (HW.out.trans (hb.mono HW.out.size));replace HJ:=Lib.hid (HJ.out.below hb);replace HEL:=Lib.hid (HEL.out.below hb);replace HFX:=Lib.hid (HFX.out.below hb);replace HB9:=Lib.hid (Nat.le_trans HB9.out hb.size);rw[<-HE.out];go_upto_region 14 with fail
    obtain⟨wz,hwz⟩:∃ q,q=x8:=⟨_,rfl⟩
    rw[<-hwz] at HW HJ HEL HFX HBx HB9 ⊢;clear hwz
   rotate_left
   focus
    have d0:=cell_at (v:=.int .i64 ty) HBx.out 0 rfl;have fd0:=froz_at HBx.out 0;have d1:=cell_at (v:=.bool b) HBx.out 1 rfl;have fd1:=froz_at HBx.out 1;have d2:=cell_at (v:=.slice ao l c) HBx.out 2 rfl;have fd2:=froz_at HBx.out 2;have d3:=cell_at (v:=.string tn) HBx.out 3 rfl;have fd3:=froz_at HBx.out 3;have d4:=cell_at (v:=.slice po pl pc) HBx.out 4 rfl;have fd4:=froz_at HBx.out 4;go_wp2_with fail
    refine (holds_p 3 _ _ env t _ w9 HFX.out HEL.out HG.out.1 HSMT.out).mono ?_;rintro e x7 ⟨rfl,hb⟩;clear d0 fd0 d1 fd1 d2 fd2 d3 fd3 d4 fd4;replace HBx:=kBV hb HBx;replace HW:=Lib.hid (HW.out.trans (hb.mono HW.out.size));replace HJ:=Lib.hid (HJ.out.below hb);replace HEL:=Lib.hid (HEL.out.below hb);replace HFX:=Lib.hid (HFX.out.below hb);replace HB9:=Lib.hid (Nat.le_trans HB9.out hb.size);rw[<-HE.out];have d0:=cell_at (v:=.int .i64 ty) HBx.out 0 rfl;have fd0:=froz_at HBx.out 0;have d1:=cell_at (v:=.bool b) HBx.out 1 rfl;have fd1:=froz_at HBx.out 1;have d2:=cell_at (v:=.slice ao l c) HBx.out 2 rfl;have fd2:=froz_at HBx.out 2;have d3:=cell_at (v:=.string tn) HBx.out 3 rfl;have fd3:=froz_at HBx.out 3;have d4:=cell_at (v:=.slice po pl pc) HBx.out 4 rfl;have fd4:=froz_at HBx.out 4;go_upto_region 14 with fail
    clear d0 fd0 d1 fd1 d2 fd2 d3 fd3 d4 fd4;obtain⟨wz,hwz⟩:∃ q,q=x7:=⟨_,rfl⟩
    rw[<-hwz] at HW HJ HEL HFX HBx HB9 ⊢;clear hwz
   rotate_left
   all_goals (
    have hne:((!E)==E)=false:=by cases E<;>rfl
    have hlt_x:=lt_of_block HBx.out;have hog:Hid (∀ q,q<0->(fun q=>0) q<wz.heap.size):=Lib.hid (fun q h=>absurd h (Nat.not_lt_zero _));refine R7.region (by kernel_rfl) [[],[0],[],[0,1,2],[],[],[0,1,2,3,4,5],[0,1,2,3,4,5,6],[0,1,2,3,4,5,6,7],[0,1,2,3,4,5,6,7,8],[0,1,2,3,4,5,6,7,8,9],[0,1,2,3,4,5,6,7,8,9,10],[0,1,2,3,4,5,6,7,8,9,10,11],[0,1,2,3,4,5,6,7,8,9,10,11,12]] [] [] (fun q=>0) 0 14 (by kernel_rfl) (by kernel_rfl) (by rfl) hog.out (fun q q' h h' hn=>absurd hn (by omega)) ?_;refine R7.Chain.det ?_ (by rfl) (fun T xs wr hA=>?_) ?_
    rotate_left 1
    ·have e11:=hA.pre 11 (by kernel_rfl);simp only[gsa,gsc,gsz] at e11;have hBq:wr.heap[kx]?=_:=(hA.bl _ hlt_x (fun q h=>absurd h (Nat.not_lt_zero _))).trans HBx.out;have q0:=cell_at (v:=.int .i64 ty) hBq 0 rfl;have q1:=cell_at (v:=.bool b) hBq 1 rfl;have q2:=cell_at (v:=.slice ao l c) hBq 2 rfl;have q3:=cell_at (v:=.string tn) hBq 3 rfl;have q4:=cell_at (v:=.slice po pl pc) hBq 4 rfl;clear hBq;clear hA;refine⟨(by rfl),?_⟩;go_simp<;>(try with_reducible rfl)
    refine R7.Chain.call (fun xs v w=>∃ y,v=y/\FC w tS 4 y (noF t)) (fun _ _ _ _ h hb=>by obtain⟨y,h1,h2⟩:=h;exact⟨y,h1,h2.below hb⟩) (fun _ _ _ _ _ _ h _=>by obtain⟨q,hq,_⟩:=h;exact absurd hq (Nat.not_lt_zero _)) (by rfl) (fun T xs wr hA=>?_) ?_
    ·have hsw:=(hA.be 0 (Nat.zero_le _) (fun _ _=>Nat.zero_le _)).size;have e51:=hA.tm 0 51 (by rfl) (by rfl);have f51:xs 0=_:=hA.fa 0 (by rfl)
     (try simp (disch:=first | rfl | decide) only [R7.mask_in] at f51)
     rw[f51] at e51;clear f51;have hbw:=undrew (hA.be wz.heap.size (Nat.le_refl _) (fun q h=>absurd h (Nat.not_lt_zero q)));have hfw:=HFX.out.below hbw;clear hA;refine⟨(by rfl),fun K hK=>?_⟩;go_simp
     refine (no_p _ t 3 _ hfw HG.out.1).mono ?_;rintro e w' ⟨y,rfl,hy,hb'⟩;exact hK.out _ _ ⟨y,rfl,hy⟩ hb'
    refine R7.Chain.det ?_ (by rfl) (fun T xs wr hA=>?_) ?_
    rotate_left 1
    ·have e5:=hA.pre 5 (by kernel_rfl);simp only[gsa,gsc,gsz] at e5;clear hA;refine⟨(by rfl),?_⟩;go_simp<;>(try with_reducible rfl)
    refine R7.Chain.call (fun xs v w=>v=.bool (!E)) (fun _ _ _ _ h _=>h) (fun _ _ _ _ _ h _ _=>h) (by rfl) (fun T xs wr hA=>?_) ?_
    ·have hsw:=(hA.be 0 (Nat.zero_le _) (fun _ _=>Nat.zero_le _)).size;have e52:=hA.tm 1 52 (by rfl) (by rfl);have e53:=hA.tm 2 53 (by rfl) (by rfl);have f53:xs 2=_:=hA.fa 2 (by rfl)
     (try simp (disch:=first | rfl | decide) only [R7.mask_in] at f53)
     rw[f53] at e53;clear f53;have hbw:=undrew (hA.be wz.heap.size (Nat.le_refl _) (fun q h=>absurd h (Nat.not_lt_zero q)));have hew:=HEL.out.below hbw;have hF1:∃ y,(xs 1)=y/\FC wr tS 4 y (noF t):=hA.fa 1 (by rfl);obtain⟨y1,e1,hy1⟩:=hF1;rw[e1] at e52;clear hA;refine⟨(by rfl),fun K hK=>?_⟩;go_simp
     refine (holds_p 4 _ _ env (noF t) _ _ hy1 hew HNG.out.1.1 HNG.out.1.2.2).mono ?_;rintro e w' ⟨rfl,hb'⟩;rw[HNG.out.2,<-HE.out];exact hK.out _ _ rfl hb'
    refine R7.Chain.det ?_ (by rfl) (fun T xs wr hA=>?_) ?_
    rotate_left 1
    ·have e11:=hA.pre 11 (by kernel_rfl);simp only[gsa,gsc,gsz] at e11;have hBq:wr.heap[kx]?=_:=(hA.bl _ hlt_x (fun q h=>absurd h (Nat.not_lt_zero _))).trans HBx.out;have q0:=cell_at (v:=.int .i64 ty) hBq 0 rfl;have q1:=cell_at (v:=.bool b) hBq 1 rfl;have q2:=cell_at (v:=.slice ao l c) hBq 2 rfl;have q3:=cell_at (v:=.string tn) hBq 3 rfl;have q4:=cell_at (v:=.slice po pl pc) hBq 4 rfl;clear hBq;clear hA;refine⟨(by rfl),?_⟩;go_simp<;>(try with_reducible rfl)
    refine R7.Chain.det ?_ (by rfl) (fun T xs wr hA=>?_) ?_
    rotate_left 1
    ·have e5:=hA.pre 5 (by kernel_rfl);simp only[gsa,gsc,gsz] at e5;clear hA;refine⟨(by rfl),?_⟩;go_simp<;>(try with_reducible rfl)
    refine R7.Chain.call (fun xs v w=>v=.bool E) (fun _ _ _ _ h _=>h) (fun _ _ _ _ _ h _ _=>h) (by rfl) (fun T xs wr hA=>?_) ?_
    ·have hsw:=(hA.be 0 (Nat.zero_le _) (fun _ _=>Nat.zero_le _)).size;have e55:=hA.tm 4 55 (by rfl) (by rfl);have f55:xs 4=_:=hA.fa 4 (by rfl)
     (try simp (disch:=first | rfl | decide) only [R7.mask_in] at f55)
     rw[f55] at e55;clear f55;have e56:=hA.tm 5 56 (by rfl) (by rfl);have f56:xs 5=_:=hA.fa 5 (by rfl)
     (try simp (disch:=first | rfl | decide) only [R7.mask_in] at f56)
     rw[f56] at e56;clear f56;have hbw:=undrew (hA.be wz.heap.size (Nat.le_refl _) (fun q h=>absurd h (Nat.not_lt_zero q)));have hfw:=HFX.out.below hbw;have hew:=HEL.out.below hbw;clear hA;refine⟨(by rfl),fun K hK=>?_⟩;go_simp
     refine (holds_p 3 _ _ env t _ _ hfw hew HG.out.1 HSMT.out).mono ?_;rintro e w' ⟨rfl,hb'⟩;rw[<-HE.out];exact hK.out _ _ rfl hb'
    refine R7.Chain.det ?_ (by rfl) (fun T xs wr hA=>?_) ?_
    rotate_left 1
    ·have e54:=hA.tm 3 54 (by rfl) (by rfl);have f54:xs 3=(.bool (!E)):=hA.fa 3 (by rfl);rw[f54] at e54;clear f54;have e57:=hA.tm 6 57 (by rfl) (by rfl);have f57:xs 6=(.bool E):=hA.fa 6 (by rfl);rw[f57] at e57;clear f57;clear hA;refine⟨(by rfl),?_⟩;go_simp<;>(try with_reducible rfl)
    refine R7.Chain.det ?_ (by rfl) (fun T xs wr hA=>?_) ?_
    rotate_left 1
    ·have e58:=hA.tm 7 58 (by rfl) (by rfl);have f58:xs 7=_:=hA.fa 7 (by rfl)
     (try simp (disch:=first | rfl | decide) only [R7.mask_in] at f58)
     rw[f58] at e58;clear f58;clear hA;refine⟨(by rfl),?_⟩;go_simp<;>(try with_reducible rfl)
    refine R7.Chain.det ?_ (by rfl) (fun T xs wr hA=>?_) ?_
    rotate_left 1
    ·have e59:=hA.tm 8 59 (by rfl) (by rfl);have f59:xs 8=_:=hA.fa 8 (by rfl)
     (try simp (disch:=first | rfl | decide) only [R7.mask_in] at f59)
     rw[f59] at e59;clear f59;have e11:=hA.pre 11 (by kernel_rfl);simp only[gsa,gsc,gsz] at e11;have hBq:wr.heap[kx]?=_:=(hA.bl _ hlt_x (fun q h=>absurd h (Nat.not_lt_zero _))).trans HBx.out;have q0:=cell_at (v:=.int .i64 ty) hBq 0 rfl;have q1:=cell_at (v:=.bool b) hBq 1 rfl;have q2:=cell_at (v:=.slice ao l c) hBq 2 rfl;have q3:=cell_at (v:=.string tn) hBq 3 rfl;have q4:=cell_at (v:=.slice po pl pc) hBq 4 rfl;clear hBq;clear hA;refine⟨((Rely.wanted_at rfl (by rfl) e59).trans (by rfl)),?_⟩;go_simp<;>(try with_reducible rfl)
    refine R7.Chain.call (fun xs v w=>∃ y,v=y/\FC w tS 4 y (noF t)) (fun _ _ _ _ h hb=>by obtain⟨y,h1,h2⟩:=h;exact⟨y,h1,h2.below hb⟩) (fun _ _ _ _ _ _ h _=>by obtain⟨q,hq,_⟩:=h;exact absurd hq (Nat.not_lt_zero _)) (by rfl) (fun T xs wr hA=>?_) ?_
    ·have e59:=hA.tm 8 59 (by rfl) (by rfl);have f59:xs 8=_:=hA.fa 8 (by rfl)
     (try simp (disch:=first | rfl | decide) only [R7.mask_in] at f59)
     rw[f59] at e59;clear f59;have hsw:=(hA.be 0 (Nat.zero_le _) (fun _ _=>Nat.zero_le _)).size;have e60:=hA.tm 9 60 (by rfl) (by rfl);have f60:xs 9=_:=hA.fa 9 (by rfl)
     (try simp (disch:=first | rfl | decide) only [R7.mask_in] at f60)
     rw[f60] at e60;clear f60;have hbw:=undrew (hA.be wz.heap.size (Nat.le_refl _) (fun q h=>absurd h (Nat.not_lt_zero q)));have hfw:=HFX.out.below hbw;clear hA;refine⟨((Rely.wanted_at rfl (by rfl) e59).trans (by rfl)),fun K hK=>?_⟩;go_simp
     refine (no_p _ t 3 _ hfw HG.out.1).mono ?_;rintro e w' ⟨y,rfl,hy,hb'⟩;exact hK.out _ _ ⟨y,rfl,hy⟩ hb'
    refine R7.Chain.call (fun xs v w=>v=.bool true) (fun _ _ _ _ h _=>h) (fun _ _ _ _ _ h _ _=>h) (by rfl) (fun T xs wr hA=>?_) ?_
    ·have e59:=hA.tm 8 59 (by rfl) (by rfl);have f59:xs 8=_:=hA.fa 8 (by rfl)
     (try simp (disch:=first | rfl | decide) only [R7.mask_in] at f59)
     rw[f59] at e59;clear f59;have hsw:=(hA.be 0 (Nat.zero_le _) (fun _ _=>Nat.zero_le _)).size;have e61:=hA.tm 10 61 (by rfl) (by rfl);have hbw:=undrew (hA.be wz.heap.size (Nat.le_refl _) (fun q h=>absurd h (Nat.not_lt_zero q)));have hF10:∃ y,(xs 10)=y/\FC wr tS 4 y (noF t):=hA.fa 10 (by rfl);obtain⟨y1,e1,hy1⟩:=hF10;rw[e1] at e61;clear hA;refine⟨((Rely.wanted_at rfl (by rfl) e59).trans (by rfl)),fun K hK=>?_⟩;go_simp
     refine (right_p 4 _ (noF t) _ _ hy1).mono ?_;rintro e w' ⟨rfl,hb'⟩;rw[HNG.out.1.1];exact hK.out _ _ rfl hb'
    refine R7.Chain.det ?_ (by rfl) (fun T xs wr hA=>?_) ?_
    rotate_left 1
    ·have e59:=hA.tm 8 59 (by rfl) (by rfl);have f59:xs 8=_:=hA.fa 8 (by rfl)
     (try simp (disch:=first | rfl | decide) only [R7.mask_in] at f59)
     rw[f59] at e59;clear f59;have e62:=hA.tm 11 62 (by rfl) (by rfl);have f62:xs 11=(.bool true):=hA.fa 11 (by rfl);rw[f62] at e62;clear f62;clear hA;refine⟨((Rely.wanted_at rfl (by rfl) e59).trans (by rfl)),?_⟩;go_simp<;>(try with_reducible rfl)
    refine R7.Chain.det ?_ (by rfl) (fun T xs wr hA=>?_) ?_
    rotate_left 1
    ·have e59:=hA.tm 8 59 (by rfl) (by rfl);have f59:xs 8=_:=hA.fa 8 (by rfl)
     (try simp (disch:=first | rfl | decide) only [R7.mask_in] at f59)
     rw[f59] at e59;clear f59;have e63:=hA.tm 12 63 (by rfl) (by rfl);have f63:xs 12=_:=hA.fa 12 (by rfl)
     (try simp (disch:=first | rfl | decide) only [R7.mask_in] at f63)
     rw[f63] at e63;clear f63;clear hA;refine⟨(by rfl),?_⟩;go_simp<;>(try with_reducible rfl)
    refine R7.Chain.done (fun xs x7 hL=>?_);obtain⟨⟨hbe,hbl⟩,hf,-,-⟩:=hL;have f0:xs 0=_:=hf 0 (by decide)
    (try simp (disch:=first | rfl | decide) only [R7.mask_in] at f0)
    have F1:∃ y,(xs 1)=y/\FC x7 tS 4 y (noF t):=hf 1 (by decide);have f2:xs 2=_:=hf 2 (by decide)
    (try simp (disch:=first | rfl | decide) only [R7.mask_in] at f2)
    have f3:xs 3=(.bool (!E)):=hf 3 (by decide);have f4:xs 4=_:=hf 4 (by decide)
    (try simp (disch:=first | rfl | decide) only [R7.mask_in] at f4)
    have f5:xs 5=_:=hf 5 (by decide)
    (try simp (disch:=first | rfl | decide) only [R7.mask_in] at f5)
    have f6:xs 6=(.bool E):=hf 6 (by decide);have f7:xs 7=_:=hf 7 (by decide)
    (try simp (disch:=first | rfl | decide) only [R7.mask_in] at f7)
    have f8:xs 8=_:=hf 8 (by decide)
    (try simp (disch:=first | rfl | decide) only [R7.mask_in] at f8)
    have f9:xs 9=_:=hf 9 (by decide)
    (try simp (disch:=first | rfl | decide) only [R7.mask_in] at f9)
    have F10:∃ y,(xs 10)=y/\FC x7 tS 4 y (noF t):=hf 10 (by decide);have f11:xs 11=(.bool true):=hf 11 (by decide);have f12:xs 12=_:=hf 12 (by decide)
    (try simp (disch:=first | rfl | decide) only [R7.mask_in] at f12)
    have f13:xs 13=_:=hf 13 (by decide)
    (try simp (disch:=first | rfl | decide) only [R7.mask_in] at f13)
    have hb0:Below 0 wz x7:=undrew (hbe 0 (Nat.zero_le _) (fun _ _=>Nat.zero_le _));have hgr:∀ j,j<wz.heap.size->(∀ q,q<0->(fun q=>0) q≠j)->x7.heap[j]?=wz.heap[j]?:=hbl;clear hbe hbl hf;have hb:Below wz.heap.size wz x7:=⟨hb0.os,hb0.tape,hb0.output,hb0.size,fun q hq=>hgr q hq (fun q h=>absurd h (Nat.not_lt_zero _))⟩
    refine R7.rest_done ?_;simp only[R7.fill,t5_,t6_,t7_,f0,f2,f3,f4,f5,f6,f7,f8,f9,f11,f12,f13];clear hb0 hgr hog hlt_x f0 f2 f3 f4 f5 f6 f7 f8 f9 f11 f12 f13;replace HBx:=kBV hb HBx;replace HW:=Lib.hid (HW.out.trans (hb.mono HW.out.size));replace HJ:=Lib.hid (HJ.out.below hb);replace HEL:=Lib.hid (HEL.out.below hb);replace HFX:=Lib.hid (HFX.out.below hb);replace HB9:=Lib.hid (Nat.le_trans HB9.out hb.size);replace hb:=Lib.hid hb;go_wp2_with fail
    go_roundw
    case rel=>exact⟨n+1,us++[u],ts++[t],_,_,_,_,by rw[lsa,<-HNU.out];rfl,rfl,rfl,by go_num,hlt,by rw[lsa,<-HNU.out];rfl,by rw[lsa];have h1:=HC9.out.1;simpa using h1,HC9.out.2,by rw[lsa];exact HJ,Lib.hid (by rw[List.all_append,<-HA.out,List.all_cons,List.all_nil,<-HE.out];cases E<;>rfl),Lib.hid (by rw[List.any_append,<-HO.out,List.any_cons,List.any_nil,<-HE.out];cases E<;>rfl),HW,HB9,HEL⟩
    case measure=>simp[intOf];omega)
  have HLEN:Hid (ts.length<=100):=Lib.hid (by rw[<-HJ.out.len,<-HNU.out];omega);have HFL:=Lib.hid HJ.out.flAny;have HGA:=Lib.hid HJ.out.good;clear HJ hur hurm;go_wp2_with fail
  refine (both_p _ _ _ ts _ 3 wl HFL.out HLEN.out (by decide)).mono ?_;rintro e x3 ⟨v,rfl,hv,hb⟩;replace HW:=Lib.hid (HW.out.trans (hb.mono HW.out.size));replace HEL:=Lib.hid (HEL.out.below hb);replace HFL:=Lib.hid (HFL.out.below hb);have hv:=hv.t;obtain⟨b1,o1,l1,c1,p1,m1,n1,rfl,-,-,-⟩:=hv.open;have hgd:=both_gd HGA.out;rw[<-HA.out] at hgd;obtain⟨P,hPP⟩:∃ P,P=joinF 18 12 13 ts:=⟨_,rfl⟩
  rw[<-hPP] at hv hgd ⊢;obtain⟨k1,hk1⟩:∃ x,x=P.op:=⟨_,rfl⟩
  obtain⟨y1,hk2⟩:∃ x,x=P.name:=⟨_,rfl⟩
  rw[<-hk1,<-hk2] at hv ⊢;have HPF:=Lib.hid hv;have HGP:=Lib.hid hgd;clear hv hgd hPP hk1 hk2;go_wp2_with fail
  refine (either_p _ _ _ ts _ 3 x3 HFL.out HLEN.out (by decide)).mono ?_;rintro e x4 ⟨v,rfl,hv,hb⟩;replace HW:=Lib.hid (HW.out.trans (hb.mono HW.out.size));replace HEL:=Lib.hid (HEL.out.below hb);replace HFL:=Lib.hid (HFL.out.below hb);replace HPF:=Lib.hid (HPF.out.below hb);have hv:=hv.t;obtain⟨b2,o2,l2,c2,p2,m2,n2,rfl,-,-,-⟩:=hv.open;have hgd:=either_gd HGA.out;rw[<-HO.out] at hgd;obtain⟨Q,hPP⟩:∃ P,P=joinF 19 13 12 ts:=⟨_,rfl⟩
  rw[<-hPP] at hv hgd ⊢;obtain⟨k2,hk1⟩:∃ x,x=Q.op:=⟨_,rfl⟩
  obtain⟨y2,hk2⟩:∃ x,x=Q.name:=⟨_,rfl⟩
  rw[<-hk1,<-hk2] at hv ⊢;have HQF:=Lib.hid hv;have HGQ:=Lib.hid hgd;clear hv hgd hPP hk1 hk2;have hAA:(A != A)=false:=bne_self_eq_false A;have hOO:(O != O)=false:=bne_self_eq_false O;clear HFL;obtain⟨xa1,ka,ea,eka,hba,hka,HBa⟩:=newV x4 #[.int .i64 0,.bool false,.slice none 0 0,.string ⟨#[]⟩,.slice none 0 0] 29;have hlta:=lt_of_block HBa.out;obtain⟨xb1,kb,eb,ekb,hbb,hkb,HBb⟩:=newV xa1 #[.int .i64 0,.bool false,.slice none 0 0,.string ⟨#[]⟩,.slice none 0 0] 29;replace HBa:=kBV hbb.out HBa;have hlt12:ka<kb:=Nat.lt_of_lt_of_le hlta hkb.out;have nq1:ka≠kb:=by omega
  have nq2:kb≠ka:=by omega
  have HL12:=Lib.hid hlt12;clear hlta hlt12;obtain⟨⟨u0,u1,u2,u3,u4⟩,fu0,fu1,fu2,fu3,fu4⟩:=cells5V HBa.out;obtain⟨⟨t0,t1,t2,t3,t4⟩,ft0,ft1,ft2,ft3,ft4⟩:=cells5V HBb.out;go_upto_region 18 with fail
  clear u0 u1 u2 u3 u4 fu0 fu1 fu2 fu3 fu4 t0 t1 t2 t3 t4 ft0 ft1 ft2 ft3 ft4;have ha1:=set5_same HBa.out (.int .i64 k1) (.bool b1) (.slice o1 l1 c1) (.string y1) (.slice p1 m1 n1);obtain⟨Wa1,hW1⟩:∃ q,q=((((xb1.setCell ⟨ka,0,none⟩ (.int .i64 k1)).setCell ⟨ka,1,none⟩ (.bool b1)).setCell ⟨ka,2,none⟩ (.slice o1 l1 c1)).setCell ⟨ka,3,none⟩ (.string y1)).setCell ⟨ka,4,none⟩ (.slice p1 m1 n1):=⟨_,rfl⟩
  have hg1:xb1.grownBy Wa1 (some ka):=by rw[hW1];exact grown5V _ _ _ _ _
  rw[<-hW1] at ha1 ⊢;have hb1:=(hg1.block kb (lt_of_block HBb.out) (fun e=>by injection e with e;exact nq2 e)).trans HBb.out;have hb2:=set5_same hb1 (.int .i64 k2) (.bool b2) (.slice o2 l2 c2) (.string y2) (.slice p2 m2 n2);obtain⟨Wb1,hW2⟩:∃ q,q=((((Wa1.setCell ⟨kb,0,none⟩ (.int .i64 k2)).setCell ⟨kb,1,none⟩ (.bool b2)).setCell ⟨kb,2,none⟩ (.slice o2 l2 c2)).setCell ⟨kb,3,none⟩ (.string y2)).setCell ⟨kb,4,none⟩ (.slice p2 m2 n2):=⟨_,rfl⟩
  have hg2:Wa1.grownBy Wb1 (some kb):=by rw[hW2];exact grown5V _ _ _ _ _
  rw[<-hW2] at hb2 ⊢;have ha2:=(hg2.block ka (lt_of_block ha1) (fun e=>by injection e with e;exact nq1 e)).trans ha1;have hb:=ext_below (ext_below (hba.out.trans (hbb.out.mono hba.out.size)) hg1 hka.out) hg2 (Nat.le_trans hka.out (Nat.le_of_lt HL12.out));replace HBa:Hid (Wb1.heap[ka]?=some (.cells #[.int .i64 k1,.bool b1,.slice o1 l1 c1,.string y1,.slice p1 m1 n1] 29 (0,0))):=Lib.hid ha2;replace HBb:Hid (Wb1.heap[kb]?=some (.cells #[.int .i64 k2,.bool b2,.slice o2 l2 c2,.string y2,.slice p2 m2 n2] 29 (0,0))):=Lib.hid hb2;clear ha1 hW1 hg1 hb1 hb2 hW2 hg2 ha2 nq1 nq2 HL12;replace HW:=Lib.hid (HW.out.trans (hb.mono HW.out.size));replace HEL:=Lib.hid (HEL.out.below hb);replace HPF:=Lib.hid (HPF.out.below hb);replace HQF:=Lib.hid (HQF.out.below hb);clear hb;have xa0:=cell_at (v:=.int .i64 k1) HBa.out 0 rfl;have fxa0:=froz_at HBa.out 0
  have xa1:=cell_at (v:=.bool b1) HBa.out 1 rfl;have fxa1:=froz_at HBa.out 1;have xa2:=cell_at (v:=.slice o1 l1 c1) HBa.out 2 rfl;have fxa2:=froz_at HBa.out 2;have xa3:=cell_at (v:=.string y1) HBa.out 3 rfl;have fxa3:=froz_at HBa.out 3;have xa4:=cell_at (v:=.slice p1 m1 n1) HBa.out 4 rfl;have fxa4:=froz_at HBa.out 4;have xb0:=cell_at (v:=.int .i64 k2) HBb.out 0 rfl;have fxb0:=froz_at HBb.out 0;have xb1:=cell_at (v:=.bool b2) HBb.out 1 rfl;have fxb1:=froz_at HBb.out 1;have xb2:=cell_at (v:=.slice o2 l2 c2) HBb.out 2 rfl;have fxb2:=froz_at HBb.out 2;have xb3:=cell_at (v:=.string y2) HBb.out 3 rfl;have fxb3:=froz_at HBb.out 3;have xb4:=cell_at (v:=.slice p2 m2 n2) HBb.out 4 rfl;have fxb4:=froz_at HBb.out 4;go_wp2_with fail
  refine (holds_p 4 _ _ env P _ Wb1 HPF.out HEL.out HGP.out.1.1 HGP.out.1.2.2).mono ?_;rintro e x5 ⟨rfl,hb⟩;clear xa0 fxa0 xa1 fxa1 xa2 fxa2 xa3 fxa3 xa4 fxa4 xb0 fxb0 xb1 fxb1 xb2 fxb2 xb3 fxb3 xb4 fxb4;replace HBa:=kBV hb HBa;replace HBb:=kBV hb HBb;replace HW:=Lib.hid (HW.out.trans (hb.mono HW.out.size));replace HEL:=Lib.hid (HEL.out.below hb);replace HPF:=Lib.hid (HPF.out.below hb);replace HQF:=Lib.hid (HQF.out.below hb);rw[HGP.out.2];have xa0:=cell_at (v:=.int .i64 k1) HBa.out 0 rfl;have fxa0:=froz_at HBa.out 0;have xa1:=cell_at (v:=.bool b1) HBa.out 1 rfl;have fxa1:=froz_at HBa.out 1;have xa2:=cell_at (v:=.slice o1 l1 c1) HBa.out 2 rfl;have fxa2:=froz_at HBa.out 2;have xa3:=cell_at (v:=.string y1) HBa.out 3 rfl;have fxa3:=froz_at HBa.out 3;have xa4:=cell_at (v:=.slice p1 m1 n1) HBa.out 4 rfl;have fxa4:=froz_at HBa.out 4
  have xb0:=cell_at (v:=.int .i64 k2) HBb.out 0 rfl;have fxb0:=froz_at HBb.out 0;have xb1:=cell_at (v:=.bool b2) HBb.out 1 rfl;have fxb1:=froz_at HBb.out 1;have xb2:=cell_at (v:=.slice o2 l2 c2) HBb.out 2 rfl;have fxb2:=froz_at HBb.out 2;have xb3:=cell_at (v:=.string y2) HBb.out 3 rfl;have fxb3:=froz_at HBb.out 3;have xb4:=cell_at (v:=.slice p2 m2 n2) HBb.out 4 rfl;have fxb4:=froz_at HBb.out 4;go_wp2_with fail
  refine (holds_p 4 _ _ env Q _ x5 HQF.out HEL.out HGQ.out.1.1 HGQ.out.1.2.2).mono ?_;rintro e x6 ⟨rfl,hb⟩;clear xa0 fxa0 xa1 fxa1 xa2 fxa2 xa3 fxa3 xa4 fxa4 xb0 fxb0 xb1 fxb1 xb2 fxb2 xb3 fxb3 xb4 fxb4;replace HBa:=kBV hb HBa;replace HBb:=kBV hb HBb;replace HW:=Lib.hid (HW.out.trans (hb.mono HW.out.size));replace HEL:=Lib.hid (HEL.out.below hb);replace HPF:=Lib.hid (HPF.out.below hb);replace HQF:=Lib.hid (HQF.out.below hb);rw[HGQ.out.2];have xa0:=cell_at (v:=.int .i64 k1) HBa.out 0 rfl;have fxa0:=froz_at HBa.out 0;have xa1:=cell_at (v:=.bool b1) HBa.out 1 rfl;have fxa1:=froz_at HBa.out 1;have xa2:=cell_at (v:=.slice o1 l1 c1) HBa.out 2 rfl;have fxa2:=froz_at HBa.out 2;have xa3:=cell_at (v:=.string y1) HBa.out 3 rfl;have fxa3:=froz_at HBa.out 3;have xa4:=cell_at (v:=.slice p1 m1 n1) HBa.out 4 rfl;have fxa4:=froz_at HBa.out 4
  have xb0:=cell_at (v:=.int .i64 k2) HBb.out 0 rfl;have fxb0:=froz_at HBb.out 0;have xb1:=cell_at (v:=.bool b2) HBb.out 1 rfl;have fxb1:=froz_at HBb.out 1;have xb2:=cell_at (v:=.slice o2 l2 c2) HBb.out 2 rfl;have fxb2:=froz_at HBb.out 2;have xb3:=cell_at (v:=.string y2) HBb.out 3 rfl;have fxb3:=froz_at HBb.out 3;have xb4:=cell_at (v:=.slice p2 m2 n2) HBb.out 4 rfl;have fxb4:=froz_at HBb.out 4;go_wp2_with fail
  refine (right_p 4 _ P _ x6 HPF.out).mono ?_;rintro e x7 ⟨rfl,hb⟩;clear xa0 fxa0 xa1 fxa1 xa2 fxa2 xa3 fxa3 xa4 fxa4 xb0 fxb0 xb1 fxb1 xb2 fxb2 xb3 fxb3 xb4 fxb4;replace HBa:=kBV hb HBa;replace HBb:=kBV hb HBb;replace HW:=Lib.hid (HW.out.trans (hb.mono HW.out.size));replace HEL:=Lib.hid (HEL.out.below hb);replace HPF:=Lib.hid (HPF.out.below hb);replace HQF:=Lib.hid (HQF.out.below hb);rw[HGP.out.1.1];have xa0:=cell_at (v:=.int .i64 k1) HBa.out 0 rfl;have fxa0:=froz_at HBa.out 0;have xa1:=cell_at (v:=.bool b1) HBa.out 1 rfl;have fxa1:=froz_at HBa.out 1;have xa2:=cell_at (v:=.slice o1 l1 c1) HBa.out 2 rfl;have fxa2:=froz_at HBa.out 2;have xa3:=cell_at (v:=.string y1) HBa.out 3 rfl;have fxa3:=froz_at HBa.out 3;have xa4:=cell_at (v:=.slice p1 m1 n1) HBa.out 4 rfl;have fxa4:=froz_at HBa.out 4;have xb0:=cell_at (v:=.int .i64 k2) HBb.out 0 rfl
  have fxb0:=froz_at HBb.out 0;have xb1:=cell_at (v:=.bool b2) HBb.out 1 rfl;have fxb1:=froz_at HBb.out 1;have xb2:=cell_at (v:=.slice o2 l2 c2) HBb.out 2 rfl;have fxb2:=froz_at HBb.out 2;have xb3:=cell_at (v:=.string y2) HBb.out 3 rfl;have fxb3:=froz_at HBb.out 3;have xb4:=cell_at (v:=.slice p2 m2 n2) HBb.out 4 rfl;have fxb4:=froz_at HBb.out 4;go_wp2_with fail
  refine (right_p 4 _ Q _ x7 HQF.out).mono ?_;rintro e x8 ⟨rfl,hb⟩;clear xa0 fxa0 xa1 fxa1 xa2 fxa2 xa3 fxa3 xa4 fxa4 xb0 fxb0 xb1 fxb1 xb2 fxb2 xb3 fxb3 xb4 fxb4;replace HBa:=kBV hb HBa;replace HBb:=kBV hb HBb;replace HW:=Lib.hid (HW.out.trans (hb.mono HW.out.size));replace HEL:=Lib.hid (HEL.out.below hb);replace HPF:=Lib.hid (HPF.out.below hb);replace HQF:=Lib.hid (HQF.out.below hb);rw[HGQ.out.1.1];clear HPF HQF HBa HBb;go_wp2_with fail
  refine (var_p ⟨#[105,48]⟩ 0 x8).mono ?_;rintro e x9 ⟨rfl,hb⟩;replace HW:=Lib.hid (HW.out.trans (hb.mono HW.out.size));replace HEL:=Lib.hid (HEL.out.below hb);rw[show opVar 0=1 from rfl];go_wp2_with fail
  refine (var_p ⟨#[105,49]⟩ 0 x9).mono ?_;rintro e x10 ⟨rfl,hb⟩;replace HW:=Lib.hid (HW.out.trans (hb.mono HW.out.size));replace HEL:=Lib.hid (HEL.out.below hb);rw[show opVar 0=1 from rfl];obtain⟨xa2,kp,ep,ekp,hbp,hkp,HBp⟩:=newV x10 #[.int .i64 0,.bool false,.slice none 0 0,.string ⟨#[]⟩,.slice none 0 0] 29;have hltp:=lt_of_block HBp.out;obtain⟨xb2,kq,eq,ekq,hbq,hkq,HBq⟩:=newV xa2 #[.int .i64 0,.bool false,.slice none 0 0,.string ⟨#[]⟩,.slice none 0 0] 29;replace HBp:=kBV hbq.out HBp;have hlt12:kp<kq:=Nat.lt_of_lt_of_le hltp hkq.out;have nq1:kp≠kq:=by omega
  have nq2:kq≠kp:=by omega
  have HL12:=Lib.hid hlt12;clear hltp hlt12;obtain⟨⟨u0,u1,u2,u3,u4⟩,fu0,fu1,fu2,fu3,fu4⟩:=cells5V HBp.out;obtain⟨⟨t0,t1,t2,t3,t4⟩,ft0,ft1,ft2,ft3,ft4⟩:=cells5V HBq.out;go_upto_region 21 with fail
  clear u0 u1 u2 u3 u4 fu0 fu1 fu2 fu3 fu4 t0 t1 t2 t3 t4 ft0 ft1 ft2 ft3 ft4;have ha1:=set5_same HBp.out (.int .i64 1) (.bool false) (.slice none 0 0) (.string ⟨#[105,48]⟩) (.slice none 0 0);obtain⟨Wa2,hW1⟩:∃ q,q=((((xb2.setCell ⟨kp,0,none⟩ (.int .i64 1)).setCell ⟨kp,1,none⟩ (.bool false)).setCell ⟨kp,2,none⟩ (.slice none 0 0)).setCell ⟨kp,3,none⟩ (.string ⟨#[105,48]⟩)).setCell ⟨kp,4,none⟩ (.slice none 0 0):=⟨_,rfl⟩
  have hg1:xb2.grownBy Wa2 (some kp):=by rw[hW1];exact grown5V _ _ _ _ _
  rw[<-hW1] at ha1 ⊢;have hb1:=(hg1.block kq (lt_of_block HBq.out) (fun e=>by injection e with e;exact nq2 e)).trans HBq.out;have hb2:=set5_same hb1 (.int .i64 1) (.bool false) (.slice none 0 0) (.string ⟨#[105,49]⟩) (.slice none 0 0);obtain⟨Wb2,hW2⟩:∃ q,q=((((Wa2.setCell ⟨kq,0,none⟩ (.int .i64 1)).setCell ⟨kq,1,none⟩ (.bool false)).setCell ⟨kq,2,none⟩ (.slice none 0 0)).setCell ⟨kq,3,none⟩ (.string ⟨#[105,49]⟩)).setCell ⟨kq,4,none⟩ (.slice none 0 0):=⟨_,rfl⟩
  have hg2:Wa2.grownBy Wb2 (some kq):=by rw[hW2];exact grown5V _ _ _ _ _
  rw[<-hW2] at hb2 ⊢;have ha2:=(hg2.block kp (lt_of_block ha1) (fun e=>by injection e with e;exact nq1 e)).trans ha1;have hb:=ext_below (ext_below (hbp.out.trans (hbq.out.mono hbp.out.size)) hg1 hkp.out) hg2 (Nat.le_trans hkp.out (Nat.le_of_lt HL12.out));replace HBp:Hid (Wb2.heap[kp]?=some (.cells #[.int .i64 1,.bool false,.slice none 0 0,.string ⟨#[105,48]⟩,.slice none 0 0] 29 (0,0))):=Lib.hid ha2;replace HBq:Hid (Wb2.heap[kq]?=some (.cells #[.int .i64 1,.bool false,.slice none 0 0,.string ⟨#[105,49]⟩,.slice none 0 0] 29 (0,0))):=Lib.hid hb2;clear ha1 hW1 hg1 hb1 hb2 hW2 hg2 ha2 nq1 nq2 HL12;replace HW:=Lib.hid (HW.out.trans (hb.mono HW.out.size));replace HEL:=Lib.hid (HEL.out.below hb);clear hb;obtain⟨vn,zn,B1,B2,⟨hv,hz,hB1,hB2⟩,hvb,hzb⟩:=env_two HEN.out;have HLS:=Lib.hid (less_gd hv hz hvb hzb)
  have HEQ:=Lib.hid (eqI_gd hv hz hvb hzb);have HSB:=Lib.hid (sub_gd hv hz hvb hzb);have HIF:=Lib.hid (iff_gd hB1 hB2);have HRV:=Lib.hid hv;have HRZ:=Lib.hid hz;have HR1:=Lib.hid hB1;have HR2:=Lib.hid hB2;clear hv hz hB1 hB2 hvb hzb;have HFP:Hid (FC Wb2 tS 1 (.agg #[.int .i64 1,.bool false,.slice none 0 0,.string ⟨#[105,48]⟩,.slice none 0 0]) (vF 1 ⟨#[105,48]⟩)):=Lib.hid (FC.mk (d:=0) (by unfold IR;decide) (nr0 _) (FL.nil _ _ _));have HFQ:Hid (FC Wb2 tS 1 (.agg #[.int .i64 1,.bool false,.slice none 0 0,.string ⟨#[105,49]⟩,.slice none 0 0]) (vF 1 ⟨#[105,49]⟩)):=Lib.hid (FC.mk (d:=0) (by unfold IR;decide) (nr0 _) (FL.nil _ _ _));go_wp2_with fail
  refine (find_p _ env ⟨#[105,48]⟩ Wb2 HEL.out).mono ?_;rintro e x11 ⟨y,rfl,hy,hb⟩;replace HBp:=kBV hb HBp;replace HBq:=kBV hb HBq;replace HW:=Lib.hid (HW.out.trans (hb.mono HW.out.size));replace HEL:=Lib.hid (HEL.out.below hb);replace HFP:=Lib.hid (HFP.out.below hb);replace HFQ:=Lib.hid (HFQ.out.below hb);rw[HRV.out] at hy;obtain⟨o3,l3,c3,rfl,hci⟩:=hy.int;obtain⟨b3,hbb⟩:∃ b,b=decide (vn<0):=⟨_,rfl⟩
  rw[<-hbb] at hci ⊢;have HCV:=Lib.hid hci;clear hci hbb hy;go_wp2_with fail
  refine (find_p _ env ⟨#[105,49]⟩ x11 HEL.out).mono ?_;rintro e x12 ⟨y,rfl,hy,hb⟩;replace HBp:=kBV hb HBp;replace HBq:=kBV hb HBq;replace HW:=Lib.hid (HW.out.trans (hb.mono HW.out.size));replace HEL:=Lib.hid (HEL.out.below hb);replace HFP:=Lib.hid (HFP.out.below hb);replace HFQ:=Lib.hid (HFQ.out.below hb);replace HCV:=Lib.hid (HCV.out.below hb);rw[HRZ.out] at hy;obtain⟨o4,l4,c4,rfl,hci⟩:=hy.int;obtain⟨b4,hbb⟩:∃ b,b=decide (zn<0):=⟨_,rfl⟩
  rw[<-hbb] at hci ⊢;have HCZ:=Lib.hid hci;clear hci hbb hy;have HKp:=HBp;have HKq:=HBq;clear HBp;clear HBq;obtain⟨xa3,ku,eu,eku,hbu,hku,HBu⟩:=newV x12 #[.bool false,.slice none 0 0] 26;have hltu:=lt_of_block HBu.out;obtain⟨xb3,kt,et,ekt,hbt,hkt,HBt⟩:=newV xa3 #[.bool false,.slice none 0 0] 26;replace HBu:=kBV hbt.out HBu;have hlt12:ku<kt:=Nat.lt_of_lt_of_le hltu hkt.out;have nq1:ku≠kt:=by omega
  have nq2:kt≠ku:=by omega
  have HL12:=Lib.hid hlt12;clear hltu hlt12;obtain⟨u0,u1,fu0,fu1⟩:=cells2V HBu.out;obtain⟨t0,t1,ft0,ft1⟩:=cells2V HBt.out;go_upto_region 22 with fail
  clear u0 u1 fu0 fu1 t0 t1 ft0 ft1;have ha1:=heap_setCell_same _ ku 1 _ _ (.slice o3 l3 c3) (heap_setCell_same xb3 ku 0 _ _ (.bool b3) HBu.out);obtain⟨Wa3,hW1⟩:∃ q,q=(xb3.setCell ⟨ku,0,none⟩ (.bool b3)).setCell ⟨ku,1,none⟩ (.slice o3 l3 c3):=⟨_,rfl⟩
  have hg1:xb3.grownBy Wa3 (some ku):=by rw[hW1];exact grown2V _ _
  rw[<-hW1] at ha1 ⊢;have hb1:=(hg1.block kt (lt_of_block HBt.out) (fun e=>by injection e with e;exact nq2 e)).trans HBt.out;have hb2:=heap_setCell_same _ kt 1 _ _ (.slice o4 l4 c4) (heap_setCell_same Wa3 kt 0 _ _ (.bool b4) hb1);obtain⟨Wb3,hW2⟩:∃ q,q=(Wa3.setCell ⟨kt,0,none⟩ (.bool b4)).setCell ⟨kt,1,none⟩ (.slice o4 l4 c4):=⟨_,rfl⟩
  have hg2:Wa3.grownBy Wb3 (some kt):=by rw[hW2];exact grown2V _ _
  rw[<-hW2] at hb2 ⊢;have ha2:=(hg2.block ku (lt_of_block ha1) (fun e=>by injection e with e;exact nq1 e)).trans ha1;have hb:=ext_below (ext_below (hbu.out.trans (hbt.out.mono hbu.out.size)) hg1 hku.out) hg2 (Nat.le_trans hku.out (Nat.le_of_lt HL12.out));replace HBu:Hid (Wb3.heap[ku]?=some (.cells #[.bool b3,.slice o3 l3 c3] 26 (0,0))):=Lib.hid ha2;replace HBt:Hid (Wb3.heap[kt]?=some (.cells #[.bool b4,.slice o4 l4 c4] 26 (0,0))):=Lib.hid hb2;clear ha1 hW1 hg1 hb1 hb2 hW2 hg2 ha2 nq1 nq2 HL12;replace HW:=Lib.hid (HW.out.trans (hb.mono HW.out.size));replace HEL:=Lib.hid (HEL.out.below hb);replace HFP:=Lib.hid (HFP.out.below hb);replace HFQ:=Lib.hid (HFQ.out.below hb);replace HCV:=Lib.hid (HCV.out.below hb);replace HCZ:=Lib.hid (HCZ.out.below hb);replace HKp:=Lib.hid ((hb.block _ (lt_of_block HKp.out)).trans HKp.out)
  replace HKq:=Lib.hid ((hb.block _ (lt_of_block HKq.out)).trans HKq.out);clear hb;have HBp:=HKp;clear HKp;have HBq:=HKq;clear HKq;obtain⟨Z,hZ⟩:∃ Z,Z=sgnZ (vn - zn):=⟨_,rfl⟩
  have HZ:=Lib.hid hZ;clear hZ;have HDF:Hid ((vn - zn).natAbs<L32 ^ 600):=Lib.hid (by have h3:=HSB.out.1.2;rw[Sm] at h3;have h4:=h3.1;have h5:=HSB.out.2;rw[ev] at h5;rw[h5] at h4;exact h4);have hz1:(decide (Z<0) != decide (Z<0))=false:=bne_self_eq_false _;have hz2:(decide (Z=0) != decide (Z=0))=false:=bne_self_eq_false _;have hlt_p:=lt_of_block HBp.out;have hlt_q:=lt_of_block HBq.out;have hlt_u:=lt_of_block HBu.out;have hlt_t:=lt_of_block HBt.out;have hog:Hid (∀ q,q<0->(fun q=>0) q<Wb3.heap.size):=Lib.hid (fun q h=>absurd h (Nat.not_lt_zero _))
  refine R7.region (by kernel_rfl) [[],[],[0,1],[],[0,1,2,3],[],[],[0,1,2,3,4,5,6],[0,1,2,3,4,5,6,7],[0,1,2,3,4,5,6,7,8],[0,1,2,3,4,5,6,7,8,9],[0,1,2,3,4,5,6,7,8,9,10],[0,1,2,3,4,5,6,7,8,9,10],[0,1,2,3,4,5,6,7,8,9,10,11,12],[0,1,2,3,4,5,6,7,8,9,10],[0,1,2,3,4,5,6,7,8,9,10,11,12,13,14],[0,1,2,3,4,5,6,7,8,9,10],[0,1,2,3,4,5,6,7,8,9,10],[0,1,2,3,4,5,6,7,8,9,10,11,12,13,14,15,16,17],[0,1,2,3,4,5,6,7,8,9,10,11,12,13,14,15,16,17,18],[0,1,2,3,4,5,6,7,8,9,10,11,12,13,14,15,16,17,18,19],[0,1,2,3,4,5,6,7,8,9,10,11,12,13,14,15,16,17,18,19,20],[0,1,2,3,4,5,6,7,8,9,10,11,12,13,14,15,16,17,18,19,20,21],[0,1,2,3,4,5,6,7,8,9,10,11,12,13,14,15,16,17,18,19,20,21,22],[0,1,2,3,4,5,6,7,8,9,10,11,12,13,14,15,16,17,18,19,20,21,22],[0,1,2,3,4,5,6,7,8,9,10,11,12,13,14,15,16,17,18,19,20,21,22,23,24],[0,1,2,3,4,5,6,7,8,9,10,11,12,13,14,15,16,17,18,19,20,21,22],[0,1,2,3,4,5,6,7,8,9,10,11,12,13,14,15,16,17,18,19,20,21,22,23,24,25,26],[0,1,2,3,4,5,6,7,8,9,10,11,12,13,14,15,16,17,18,19,20,21,22,23,24,25,26,27],[0,1,2,3,4,5,6,7,8,9,10,11,12,13,14,15,16,17,18,19,20,21,22],[0,1,2,3,4,5,6,7,8,9,10,11,12,13,14,15,16,17,18,19,20,21,22],[0,1,2,3,4,5,6,7,8,9,10,11,12,13,14,15,16,17,18,19,20,21,22,23,24,25,26,27,29,30],[0,1,2,3,4,5,6,7,8,9,10,11,12,13,14,15,16,17,18,19,20,21,22,23,24,25,26,27,28,29,30,31],[0,1,2,3,4,5,6,7,8,9,10,11,12,13,14,15,16,17,18,19,20,21,22,23,24,25,26,27,28,29,30,31,32],[0,1,2,3,4,5,6,7,8,9,10,11,12,13,14,15,16,17,18,19,20,21,22,23,24,25,26,27,28,29,30,31,32,33]] [] [] (fun q=>0) 0 35 (by kernel_rfl) (by kernel_rfl) (by rfl) hog.out (fun q q' h h' hn=>absurd hn (by omega)) ?_
  refine R7.Chain.det ?_ (by rfl) (fun T xs wr hA=>?_) ?_
  rotate_left 1
  ·have e14:=hA.pre 14 (by kernel_rfl);simp only[gsa,gsc,gsz] at e14;have hBq:wr.heap[kp]?=_:=(hA.bl _ hlt_p (fun q h=>absurd h (Nat.not_lt_zero _))).trans HBp.out;have q0:=cell_at (v:=.int .i64 1) hBq 0 rfl;have q1:=cell_at (v:=.bool false) hBq 1 rfl;have q2:=cell_at (v:=.slice none 0 0) hBq 2 rfl;have q3:=cell_at (v:=.string ⟨#[105,48]⟩) hBq 3 rfl;have q4:=cell_at (v:=.slice none 0 0) hBq 4 rfl;clear hBq;clear hA;refine⟨(by rfl),?_⟩;go_simp<;>(try with_reducible rfl)
  refine R7.Chain.det ?_ (by rfl) (fun T xs wr hA=>?_) ?_
  rotate_left 1
  ·have e15:=hA.pre 15 (by kernel_rfl);simp only[gsa,gsc,gsz] at e15;have hBq:wr.heap[kq]?=_:=(hA.bl _ hlt_q (fun q h=>absurd h (Nat.not_lt_zero _))).trans HBq.out;have q0:=cell_at (v:=.int .i64 1) hBq 0 rfl;have q1:=cell_at (v:=.bool false) hBq 1 rfl;have q2:=cell_at (v:=.slice none 0 0) hBq 2 rfl;have q3:=cell_at (v:=.string ⟨#[105,49]⟩) hBq 3 rfl;have q4:=cell_at (v:=.slice none 0 0) hBq 4 rfl;clear hBq;clear hA;refine⟨(by rfl),?_⟩;go_simp<;>(try with_reducible rfl)
  refine R7.Chain.call (fun xs v w=>∃ y,v=y/\FC w tS 3 y (.node 15 0 ⟨#[]⟩ [.node 2 0 ⟨#[]⟩ [vF 1 ⟨#[105,48]⟩,.node 0 1 ⟨#[]⟩ []],vF 1 ⟨#[105,49]⟩])) (fun _ _ _ _ h hb=>by obtain⟨y,h1,h2⟩:=h;exact⟨y,h1,h2.below hb⟩) (fun _ _ _ _ _ _ h _=>by obtain⟨q,hq,_⟩:=h;exact absurd hq (Nat.not_lt_zero _)) (by rfl) (fun T xs wr hA=>?_) ?_
  ·have hsw:=(hA.be 0 (Nat.zero_le _) (fun _ _=>Nat.zero_le _)).size;have e100:=hA.tm 0 100 (by rfl) (by rfl);have f100:xs 0=_:=hA.fa 0 (by rfl)
   (try simp (disch:=first | rfl | decide) only [R7.mask_in] at f100)
   rw[f100] at e100;clear f100;have e101:=hA.tm 1 101 (by rfl) (by rfl);have f101:xs 1=_:=hA.fa 1 (by rfl)
   (try simp (disch:=first | rfl | decide) only [R7.mask_in] at f101)
   rw[f101] at e101;clear f101;have hbw:=undrew (hA.be Wb3.heap.size (Nat.le_refl _) (fun q h=>absurd h (Nat.not_lt_zero q)));have hpw:=HFP.out.below hbw;have hqw:=HFQ.out.below hbw;clear hA;refine⟨(by rfl),fun K hK=>?_⟩;go_simp
   refine (less_p _ _ (vF 1 ⟨#[105,48]⟩) (vF 1 ⟨#[105,49]⟩) 1 _ (by decide) hpw (hqw.up (by decide))).mono ?_;rintro e w' ⟨y,rfl,hy,hb'⟩;exact hK.out _ _ ⟨y,rfl,hy⟩ hb'
  refine R7.Chain.det ?_ (by rfl) (fun T xs wr hA=>?_) ?_
  rotate_left 1
  ·have e5:=hA.pre 5 (by kernel_rfl);simp only[gsa,gsc,gsz] at e5;clear hA;refine⟨(by rfl),?_⟩;go_simp<;>(try with_reducible rfl)
  refine R7.Chain.call (fun xs v w=>v=.bool (decide (Z<0))) (fun _ _ _ _ h _=>h) (fun _ _ _ _ _ h _ _=>h) (by rfl) (fun T xs wr hA=>?_) ?_
  ·have hsw:=(hA.be 0 (Nat.zero_le _) (fun _ _=>Nat.zero_le _)).size;have e102:=hA.tm 2 102 (by rfl) (by rfl);have e103:=hA.tm 3 103 (by rfl) (by rfl);have f103:xs 3=_:=hA.fa 3 (by rfl)
   (try simp (disch:=first | rfl | decide) only [R7.mask_in] at f103)
   rw[f103] at e103;clear f103;have hbw:=undrew (hA.be Wb3.heap.size (Nat.le_refl _) (fun q h=>absurd h (Nat.not_lt_zero q)));have hew:=HEL.out.below hbw;have hF2:∃ y,(xs 2)=y/\FC wr tS 3 y (.node 15 0 ⟨#[]⟩ [.node 2 0 ⟨#[]⟩ [vF 1 ⟨#[105,48]⟩,.node 0 1 ⟨#[]⟩ []],vF 1 ⟨#[105,49]⟩]):=hA.fa 2 (by rfl);obtain⟨y1,e1,hy1⟩:=hF2;rw[e1] at e102;clear hA;refine⟨(by rfl),fun K hK=>?_⟩;go_simp
   refine (holds_p 3 _ _ env (.node 15 0 ⟨#[]⟩ [.node 2 0 ⟨#[]⟩ [vF 1 ⟨#[105,48]⟩,.node 0 1 ⟨#[]⟩ []],vF 1 ⟨#[105,49]⟩]) _ _ hy1 hew HLS.out.1.1 HLS.out.1.2).mono ?_;rintro e w' ⟨rfl,hb'⟩;rw[HLS.out.2,<-HZ.out];exact hK.out _ _ rfl hb'
  refine R7.Chain.det ?_ (by rfl) (fun T xs wr hA=>?_) ?_
  rotate_left 1
  ·have e16:=hA.pre 16 (by kernel_rfl);simp only[gsa,gsc,gsz] at e16;have hBq:wr.heap[ku]?=_:=(hA.bl _ hlt_u (fun q h=>absurd h (Nat.not_lt_zero _))).trans HBu.out;have q0:=cell_at (v:=.bool b3) hBq 0 rfl;have q1:=cell_at (v:=.slice o3 l3 c3) hBq 1 rfl;clear hBq;clear hA;refine⟨(by rfl),?_⟩;go_simp<;>(try with_reducible rfl)
  refine R7.Chain.det ?_ (by rfl) (fun T xs wr hA=>?_) ?_
  rotate_left 1
  ·have e17:=hA.pre 17 (by kernel_rfl);simp only[gsa,gsc,gsz] at e17;have hBq:wr.heap[kt]?=_:=(hA.bl _ hlt_t (fun q h=>absurd h (Nat.not_lt_zero _))).trans HBt.out;have q0:=cell_at (v:=.bool b4) hBq 0 rfl;have q1:=cell_at (v:=.slice o4 l4 c4) hBq 1 rfl;clear hBq;clear hA;refine⟨(by rfl),?_⟩;go_simp<;>(try with_reducible rfl)
  refine R7.Chain.call (fun xs v w=>v=.int .i64 Z) (fun _ _ _ _ h _=>h) (fun _ _ _ _ _ h _ _=>h) (by rfl) (fun T xs wr hA=>?_) ?_
  ·have hsw:=(hA.be 0 (Nat.zero_le _) (fun _ _=>Nat.zero_le _)).size;have e105:=hA.tm 5 105 (by rfl) (by rfl);have f105:xs 5=_:=hA.fa 5 (by rfl)
   (try simp (disch:=first | rfl | decide) only [R7.mask_in] at f105)
   rw[f105] at e105;clear f105;have e106:=hA.tm 6 106 (by rfl) (by rfl);have f106:xs 6=_:=hA.fa 6 (by rfl)
   (try simp (disch:=first | rfl | decide) only [R7.mask_in] at f106)
   rw[f106] at e106;clear f106;have hbw:=undrew (hA.be Wb3.heap.size (Nat.le_refl _) (fun q h=>absurd h (Nat.not_lt_zero q)));have hvw:=HCV.out.below hbw;have hzw:=HCZ.out.below hbw;clear hA;refine⟨(by rfl),fun K hK=>?_⟩;go_simp
   refine (wcmp_any _ _ vn zn 600 600 _ hvw.gi hzw.gi (by decide) (by decide)).mono ?_;rintro e w' ⟨rfl,hb'⟩;rw[<-HZ.out];exact hK.out _ _ rfl hb'
  refine R7.Chain.det ?_ (by rfl) (fun T xs wr hA=>?_) ?_
  rotate_left 1
  ·have e107:=hA.tm 7 107 (by rfl) (by rfl);have f107:xs 7=(.int .i64 Z):=hA.fa 7 (by rfl);rw[f107] at e107;clear f107;clear hA;refine⟨(by rfl),?_⟩;go_simp<;>(try with_reducible rfl)
  refine R7.Chain.det ?_ (by rfl) (fun T xs wr hA=>?_) ?_
  rotate_left 1
  ·have e104:=hA.tm 4 104 (by rfl) (by rfl);have f104:xs 4=(.bool (decide (Z<0))):=hA.fa 4 (by rfl);rw[f104] at e104;clear f104;have e108:=hA.tm 8 108 (by rfl) (by rfl);have f108:xs 8=_:=hA.fa 8 (by rfl)
   (try simp (disch:=first | rfl | decide) only [R7.mask_in] at f108)
   rw[f108] at e108;clear f108;clear hA;refine⟨(by rfl),?_⟩;go_simp<;>(try with_reducible rfl)
  refine R7.Chain.det ?_ (by rfl) (fun T xs wr hA=>?_) ?_
  rotate_left 1
  ·have e109:=hA.tm 9 109 (by rfl) (by rfl);have f109:xs 9=_:=hA.fa 9 (by rfl)
   (try simp (disch:=first | rfl | decide) only [R7.mask_in] at f109)
   rw[f109] at e109;clear f109;clear hA;refine⟨(by rfl),?_⟩;go_simp<;>(try with_reducible rfl)
  refine R7.Chain.det ?_ (by rfl) (fun T xs wr hA=>?_) ?_
  rotate_left 1
  ·have e110:=hA.tm 10 110 (by rfl) (by rfl);have f110:xs 10=_:=hA.fa 10 (by rfl)
   (try simp (disch:=first | rfl | decide) only [R7.mask_in] at f110)
   rw[f110] at e110;clear f110;have e14:=hA.pre 14 (by kernel_rfl);simp only[gsa,gsc,gsz] at e14;have hBq:wr.heap[kp]?=_:=(hA.bl _ hlt_p (fun q h=>absurd h (Nat.not_lt_zero _))).trans HBp.out;have q0:=cell_at (v:=.int .i64 1) hBq 0 rfl;have q1:=cell_at (v:=.bool false) hBq 1 rfl;have q2:=cell_at (v:=.slice none 0 0) hBq 2 rfl;have q3:=cell_at (v:=.string ⟨#[105,48]⟩) hBq 3 rfl;have q4:=cell_at (v:=.slice none 0 0) hBq 4 rfl;clear hBq;clear hA;refine⟨((Rely.wanted_at rfl (by rfl) e110).trans (by rfl)),?_⟩;go_simp<;>(try with_reducible rfl)
  refine R7.Chain.det ?_ (by rfl) (fun T xs wr hA=>?_) ?_
  rotate_left 1
  ·have e110:=hA.tm 10 110 (by rfl) (by rfl);have f110:xs 10=_:=hA.fa 10 (by rfl)
   (try simp (disch:=first | rfl | decide) only [R7.mask_in] at f110)
   rw[f110] at e110;clear f110;have e15:=hA.pre 15 (by kernel_rfl);simp only[gsa,gsc,gsz] at e15;have hBq:wr.heap[kq]?=_:=(hA.bl _ hlt_q (fun q h=>absurd h (Nat.not_lt_zero _))).trans HBq.out;have q0:=cell_at (v:=.int .i64 1) hBq 0 rfl;have q1:=cell_at (v:=.bool false) hBq 1 rfl;have q2:=cell_at (v:=.slice none 0 0) hBq 2 rfl;have q3:=cell_at (v:=.string ⟨#[105,49]⟩) hBq 3 rfl;have q4:=cell_at (v:=.slice none 0 0) hBq 4 rfl;clear hBq;clear hA;refine⟨((Rely.wanted_at rfl (by rfl) e110).trans (by rfl)),?_⟩;go_simp<;>(try with_reducible rfl)
  refine R7.Chain.call (fun xs v w=>∃ y,v=y/\FC w tS 3 y (.node 16 0 ⟨#[]⟩ [vF 1 ⟨#[105,48]⟩,vF 1 ⟨#[105,49]⟩])) (fun _ _ _ _ h hb=>by obtain⟨y,h1,h2⟩:=h;exact⟨y,h1,h2.below hb⟩) (fun _ _ _ _ _ _ h _=>by obtain⟨q,hq,_⟩:=h;exact absurd hq (Nat.not_lt_zero _)) (by rfl) (fun T xs wr hA=>?_) ?_
  ·have e110:=hA.tm 10 110 (by rfl) (by rfl);have f110:xs 10=_:=hA.fa 10 (by rfl)
   (try simp (disch:=first | rfl | decide) only [R7.mask_in] at f110)
   rw[f110] at e110;clear f110;have hsw:=(hA.be 0 (Nat.zero_le _) (fun _ _=>Nat.zero_le _)).size;have e111:=hA.tm 11 111 (by rfl) (by rfl);have f111:xs 11=_:=hA.fa 11 (by rfl)
   (try simp (disch:=first | rfl | decide) only [R7.mask_in] at f111)
   rw[f111] at e111;clear f111;have e112:=hA.tm 12 112 (by rfl) (by rfl);have f112:xs 12=_:=hA.fa 12 (by rfl)
   (try simp (disch:=first | rfl | decide) only [R7.mask_in] at f112)
   rw[f112] at e112;clear f112;have hbw:=undrew (hA.be Wb3.heap.size (Nat.le_refl _) (fun q h=>absurd h (Nat.not_lt_zero q)));have hpw:=HFP.out.below hbw;have hqw:=HFQ.out.below hbw;clear hA;refine⟨((Rely.wanted_at rfl (by rfl) e110).trans (by rfl)),fun K hK=>?_⟩;go_simp
   refine (eq_p _ _ (vF 1 ⟨#[105,48]⟩) (vF 1 ⟨#[105,49]⟩) 1 _ hpw hqw).mono ?_;rintro e w' ⟨g,rfl,hy,hb'⟩;exact hK.out _ _ ⟨_,rfl,hy.up (by decide)⟩ hb'
  refine R7.Chain.det ?_ (by rfl) (fun T xs wr hA=>?_) ?_
  rotate_left 1
  ·have e110:=hA.tm 10 110 (by rfl) (by rfl);have f110:xs 10=_:=hA.fa 10 (by rfl)
   (try simp (disch:=first | rfl | decide) only [R7.mask_in] at f110)
   rw[f110] at e110;clear f110;have e5:=hA.pre 5 (by kernel_rfl);simp only[gsa,gsc,gsz] at e5;clear hA;refine⟨((Rely.wanted_at rfl (by rfl) e110).trans (by rfl)),?_⟩;go_simp<;>(try with_reducible rfl)
  refine R7.Chain.call (fun xs v w=>v=.bool (decide (Z=0))) (fun _ _ _ _ h _=>h) (fun _ _ _ _ _ h _ _=>h) (by rfl) (fun T xs wr hA=>?_) ?_
  ·have e110:=hA.tm 10 110 (by rfl) (by rfl);have f110:xs 10=_:=hA.fa 10 (by rfl)
   (try simp (disch:=first | rfl | decide) only [R7.mask_in] at f110)
   rw[f110] at e110;clear f110;have hsw:=(hA.be 0 (Nat.zero_le _) (fun _ _=>Nat.zero_le _)).size;have e113:=hA.tm 13 113 (by rfl) (by rfl);have e114:=hA.tm 14 114 (by rfl) (by rfl);have f114:xs 14=_:=hA.fa 14 (by rfl)
   (try simp (disch:=first | rfl | decide) only [R7.mask_in] at f114)
   rw[f114] at e114;clear f114;have hbw:=undrew (hA.be Wb3.heap.size (Nat.le_refl _) (fun q h=>absurd h (Nat.not_lt_zero q)));have hew:=HEL.out.below hbw;have hF13:∃ y,(xs 13)=y/\FC wr tS 3 y (.node 16 0 ⟨#[]⟩ [vF 1 ⟨#[105,48]⟩,vF 1 ⟨#[105,49]⟩]):=hA.fa 13 (by rfl);obtain⟨y1,e1,hy1⟩:=hF13;rw[e1] at e113;clear hA;refine⟨((Rely.wanted_at rfl (by rfl) e110).trans (by rfl)),fun K hK=>?_⟩;go_simp
   refine (holds_p 3 _ _ env (.node 16 0 ⟨#[]⟩ [vF 1 ⟨#[105,48]⟩,vF 1 ⟨#[105,49]⟩]) _ _ hy1 hew HEQ.out.1.1 HEQ.out.1.2).mono ?_;rintro e w' ⟨rfl,hb'⟩;rw[HEQ.out.2,<-HZ.out];exact hK.out _ _ rfl hb'
  refine R7.Chain.det ?_ (by rfl) (fun T xs wr hA=>?_) ?_
  rotate_left 1
  ·have e110:=hA.tm 10 110 (by rfl) (by rfl);have f110:xs 10=_:=hA.fa 10 (by rfl)
   (try simp (disch:=first | rfl | decide) only [R7.mask_in] at f110)
   rw[f110] at e110;clear f110;have e16:=hA.pre 16 (by kernel_rfl);simp only[gsa,gsc,gsz] at e16;have hBq:wr.heap[ku]?=_:=(hA.bl _ hlt_u (fun q h=>absurd h (Nat.not_lt_zero _))).trans HBu.out;have q0:=cell_at (v:=.bool b3) hBq 0 rfl;have q1:=cell_at (v:=.slice o3 l3 c3) hBq 1 rfl;clear hBq;clear hA;refine⟨((Rely.wanted_at rfl (by rfl) e110).trans (by rfl)),?_⟩;go_simp<;>(try with_reducible rfl)
  refine R7.Chain.det ?_ (by rfl) (fun T xs wr hA=>?_) ?_
  rotate_left 1
  ·have e110:=hA.tm 10 110 (by rfl) (by rfl);have f110:xs 10=_:=hA.fa 10 (by rfl)
   (try simp (disch:=first | rfl | decide) only [R7.mask_in] at f110)
   rw[f110] at e110;clear f110;have e17:=hA.pre 17 (by kernel_rfl);simp only[gsa,gsc,gsz] at e17;have hBq:wr.heap[kt]?=_:=(hA.bl _ hlt_t (fun q h=>absurd h (Nat.not_lt_zero _))).trans HBt.out;have q0:=cell_at (v:=.bool b4) hBq 0 rfl;have q1:=cell_at (v:=.slice o4 l4 c4) hBq 1 rfl;clear hBq;clear hA;refine⟨((Rely.wanted_at rfl (by rfl) e110).trans (by rfl)),?_⟩;go_simp<;>(try with_reducible rfl)
  refine R7.Chain.call (fun xs v w=>v=.int .i64 Z) (fun _ _ _ _ h _=>h) (fun _ _ _ _ _ h _ _=>h) (by rfl) (fun T xs wr hA=>?_) ?_
  ·have e110:=hA.tm 10 110 (by rfl) (by rfl);have f110:xs 10=_:=hA.fa 10 (by rfl)
   (try simp (disch:=first | rfl | decide) only [R7.mask_in] at f110)
   rw[f110] at e110;clear f110;have hsw:=(hA.be 0 (Nat.zero_le _) (fun _ _=>Nat.zero_le _)).size;have e116:=hA.tm 16 116 (by rfl) (by rfl);have f116:xs 16=_:=hA.fa 16 (by rfl)
   (try simp (disch:=first | rfl | decide) only [R7.mask_in] at f116)
   rw[f116] at e116;clear f116;have e117:=hA.tm 17 117 (by rfl) (by rfl);have f117:xs 17=_:=hA.fa 17 (by rfl)
   (try simp (disch:=first | rfl | decide) only [R7.mask_in] at f117)
   rw[f117] at e117;clear f117;have hbw:=undrew (hA.be Wb3.heap.size (Nat.le_refl _) (fun q h=>absurd h (Nat.not_lt_zero q)));have hvw:=HCV.out.below hbw;have hzw:=HCZ.out.below hbw;clear hA;refine⟨((Rely.wanted_at rfl (by rfl) e110).trans (by rfl)),fun K hK=>?_⟩;go_simp
   refine (wcmp_any _ _ vn zn 600 600 _ hvw.gi hzw.gi (by decide) (by decide)).mono ?_;rintro e w' ⟨rfl,hb'⟩;rw[<-HZ.out];exact hK.out _ _ rfl hb'
  refine R7.Chain.call (fun xs v w=>v=.bool (decide (Z=0))) (fun _ _ _ _ h _=>h) (fun _ _ _ _ _ h _ _=>h) (by rfl) (fun T xs wr hA=>?_) ?_
  ·have e110:=hA.tm 10 110 (by rfl) (by rfl);have f110:xs 10=_:=hA.fa 10 (by rfl)
   (try simp (disch:=first | rfl | decide) only [R7.mask_in] at f110)
   rw[f110] at e110;clear f110;have hsw:=(hA.be 0 (Nat.zero_le _) (fun _ _=>Nat.zero_le _)).size;have e118:=hA.tm 18 118 (by rfl) (by rfl);have f118:xs 18=(.int .i64 Z):=hA.fa 18 (by rfl);rw[f118] at e118;clear f118;have hbw:=undrew (hA.be Wb3.heap.size (Nat.le_refl _) (fun q h=>absurd h (Nat.not_lt_zero q)));clear hA;refine⟨((Rely.wanted_at rfl (by rfl) e110).trans (by rfl)),fun K hK=>?_⟩;go_simp
   exact hK.out _ _ rfl (Below.refl _ _)
  refine R7.Chain.det ?_ (by rfl) (fun T xs wr hA=>?_) ?_
  rotate_left 1
  ·have e110:=hA.tm 10 110 (by rfl) (by rfl);have f110:xs 10=_:=hA.fa 10 (by rfl)
   (try simp (disch:=first | rfl | decide) only [R7.mask_in] at f110)
   rw[f110] at e110;clear f110;have e115:=hA.tm 15 115 (by rfl) (by rfl);have f115:xs 15=(.bool (decide (Z=0))):=hA.fa 15 (by rfl);rw[f115] at e115;clear f115;have e119:=hA.tm 19 119 (by rfl) (by rfl);have f119:xs 19=(.bool (decide (Z=0))):=hA.fa 19 (by rfl);rw[f119] at e119;clear f119;clear hA;refine⟨((Rely.wanted_at rfl (by rfl) e110).trans (by rfl)),?_⟩;go_simp<;>(try with_reducible rfl)
  refine R7.Chain.det ?_ (by rfl) (fun T xs wr hA=>?_) ?_
  rotate_left 1
  ·have e110:=hA.tm 10 110 (by rfl) (by rfl);have f110:xs 10=_:=hA.fa 10 (by rfl)
   (try simp (disch:=first | rfl | decide) only [R7.mask_in] at f110)
   rw[f110] at e110;clear f110;have e120:=hA.tm 20 120 (by rfl) (by rfl);have f120:xs 20=_:=hA.fa 20 (by rfl)
   (try simp (disch:=first | rfl | decide) only [R7.mask_in] at f120)
   rw[f120] at e120;clear f120;clear hA;refine⟨(by rfl),?_⟩;go_simp<;>(try with_reducible rfl)
  refine R7.Chain.det ?_ (by rfl) (fun T xs wr hA=>?_) ?_
  rotate_left 1
  ·have e121:=hA.tm 21 121 (by rfl) (by rfl);have f121:xs 21=_:=hA.fa 21 (by rfl)
   (try simp (disch:=first | rfl | decide) only [R7.mask_in] at f121)
   rw[f121] at e121;clear f121;clear hA;refine⟨(by rfl),?_⟩;go_simp<;>(try with_reducible rfl)
  refine R7.Chain.det ?_ (by rfl) (fun T xs wr hA=>?_) ?_
  rotate_left 1
  ·have e122:=hA.tm 22 122 (by rfl) (by rfl);have f122:xs 22=_:=hA.fa 22 (by rfl)
   (try simp (disch:=first | rfl | decide) only [R7.mask_in] at f122)
   rw[f122] at e122;clear f122;have e14:=hA.pre 14 (by kernel_rfl);simp only[gsa,gsc,gsz] at e14;have hBq:wr.heap[kp]?=_:=(hA.bl _ hlt_p (fun q h=>absurd h (Nat.not_lt_zero _))).trans HBp.out;have q0:=cell_at (v:=.int .i64 1) hBq 0 rfl;have q1:=cell_at (v:=.bool false) hBq 1 rfl;have q2:=cell_at (v:=.slice none 0 0) hBq 2 rfl;have q3:=cell_at (v:=.string ⟨#[105,48]⟩) hBq 3 rfl;have q4:=cell_at (v:=.slice none 0 0) hBq 4 rfl;clear hBq;clear hA;refine⟨((Rely.wanted_at rfl (by rfl) e122).trans (by rfl)),?_⟩;go_simp<;>(try with_reducible rfl)
  refine R7.Chain.det ?_ (by rfl) (fun T xs wr hA=>?_) ?_
  rotate_left 1
  ·have e122:=hA.tm 22 122 (by rfl) (by rfl);have f122:xs 22=_:=hA.fa 22 (by rfl)
   (try simp (disch:=first | rfl | decide) only [R7.mask_in] at f122)
   rw[f122] at e122;clear f122;have e15:=hA.pre 15 (by kernel_rfl);simp only[gsa,gsc,gsz] at e15;have hBq:wr.heap[kq]?=_:=(hA.bl _ hlt_q (fun q h=>absurd h (Nat.not_lt_zero _))).trans HBq.out;have q0:=cell_at (v:=.int .i64 1) hBq 0 rfl;have q1:=cell_at (v:=.bool false) hBq 1 rfl;have q2:=cell_at (v:=.slice none 0 0) hBq 2 rfl;have q3:=cell_at (v:=.string ⟨#[105,49]⟩) hBq 3 rfl;have q4:=cell_at (v:=.slice none 0 0) hBq 4 rfl;clear hBq;clear hA;refine⟨((Rely.wanted_at rfl (by rfl) e122).trans (by rfl)),?_⟩;go_simp<;>(try with_reducible rfl)
  refine R7.Chain.call (fun xs v w=>∃ y,v=y/\FC w tS 3 y (.node 2 0 ⟨#[]⟩ [vF 1 ⟨#[105,48]⟩,.node 3 (-1) ⟨#[]⟩ [vF 1 ⟨#[105,49]⟩]])) (fun _ _ _ _ h hb=>by obtain⟨y,h1,h2⟩:=h;exact⟨y,h1,h2.below hb⟩) (fun _ _ _ _ _ _ h _=>by obtain⟨q,hq,_⟩:=h;exact absurd hq (Nat.not_lt_zero _)) (by rfl) (fun T xs wr hA=>?_) ?_
  ·have e122:=hA.tm 22 122 (by rfl) (by rfl);have f122:xs 22=_:=hA.fa 22 (by rfl)
   (try simp (disch:=first | rfl | decide) only [R7.mask_in] at f122)
   rw[f122] at e122;clear f122;have hsw:=(hA.be 0 (Nat.zero_le _) (fun _ _=>Nat.zero_le _)).size;have e123:=hA.tm 23 123 (by rfl) (by rfl);have f123:xs 23=_:=hA.fa 23 (by rfl)
   (try simp (disch:=first | rfl | decide) only [R7.mask_in] at f123)
   rw[f123] at e123;clear f123;have e124:=hA.tm 24 124 (by rfl) (by rfl);have f124:xs 24=_:=hA.fa 24 (by rfl)
   (try simp (disch:=first | rfl | decide) only [R7.mask_in] at f124)
   rw[f124] at e124;clear f124;have hbw:=undrew (hA.be Wb3.heap.size (Nat.le_refl _) (fun q h=>absurd h (Nat.not_lt_zero q)));have hpw:=HFP.out.below hbw;have hqw:=HFQ.out.below hbw;clear hA;refine⟨((Rely.wanted_at rfl (by rfl) e122).trans (by rfl)),fun K hK=>?_⟩;go_simp
   refine (sub_p _ _ (vF 1 ⟨#[105,48]⟩) (vF 1 ⟨#[105,49]⟩) 1 _ (hpw.up (by decide)) hqw).mono ?_;rintro e w' ⟨y,rfl,hy,hb'⟩;exact hK.out _ _ ⟨y,rfl,hy⟩ hb'
  refine R7.Chain.det ?_ (by rfl) (fun T xs wr hA=>?_) ?_
  rotate_left 1
  ·have e122:=hA.tm 22 122 (by rfl) (by rfl);have f122:xs 22=_:=hA.fa 22 (by rfl)
   (try simp (disch:=first | rfl | decide) only [R7.mask_in] at f122)
   rw[f122] at e122;clear f122;have e5:=hA.pre 5 (by kernel_rfl);simp only[gsa,gsc,gsz] at e5;clear hA;refine⟨((Rely.wanted_at rfl (by rfl) e122).trans (by rfl)),?_⟩;go_simp<;>(try with_reducible rfl)
  refine R7.Chain.call (fun xs v w=>∃ b o l c,v=.agg #[.int .i64 0,.bool b,.slice o l c,.bool false,.slice none 0 0]/\CI w (.agg #[.bool b,.slice o l c]) (vn - zn) 600) (fun _ _ _ _ h hb=>by obtain⟨b,o,l,c,h1,h2⟩:=h;exact⟨b,o,l,c,h1,h2.below hb⟩) (fun _ _ _ _ _ _ h _=>by obtain⟨q,hq,_⟩:=h;exact absurd hq (Nat.not_lt_zero _)) (by rfl) (fun T xs wr hA=>?_) ?_
  ·have e122:=hA.tm 22 122 (by rfl) (by rfl);have f122:xs 22=_:=hA.fa 22 (by rfl)
   (try simp (disch:=first | rfl | decide) only [R7.mask_in] at f122)
   rw[f122] at e122;clear f122;have hsw:=(hA.be 0 (Nat.zero_le _) (fun _ _=>Nat.zero_le _)).size;have e125:=hA.tm 25 125 (by rfl) (by rfl);have e126:=hA.tm 26 126 (by rfl) (by rfl);have f126:xs 26=_:=hA.fa 26 (by rfl)
   (try simp (disch:=first | rfl | decide) only [R7.mask_in] at f126)
   rw[f126] at e126;clear f126;have hbw:=undrew (hA.be Wb3.heap.size (Nat.le_refl _) (fun q h=>absurd h (Nat.not_lt_zero q)));have hew:=HEL.out.below hbw;have hF25:∃ y,(xs 25)=y/\FC wr tS 3 y (.node 2 0 ⟨#[]⟩ [vF 1 ⟨#[105,48]⟩,.node 3 (-1) ⟨#[]⟩ [vF 1 ⟨#[105,49]⟩]]):=hA.fa 25 (by rfl);obtain⟨y1,e1,hy1⟩:=hF25;rw[e1] at e125;clear hA;refine⟨((Rely.wanted_at rfl (by rfl) e122).trans (by rfl)),fun K hK=>?_⟩;go_simp
   refine (eval_p 3 _ _ env (.node 2 0 ⟨#[]⟩ [vF 1 ⟨#[105,48]⟩,.node 3 (-1) ⟨#[]⟩ [vF 1 ⟨#[105,49]⟩]]) _ _ hy1 hew HSB.out.1.1 HSB.out.1.2).mono ?_;rintro e w' ⟨y,rfl,hy,hb'⟩;rw[HSB.out.2] at hy;obtain⟨o,l,c,rfl,hci⟩:=hy.int;exact hK.out _ _ ⟨_,o,l,c,rfl,hci⟩ hb'
  refine R7.Chain.call (fun xs v w=>∃ b o l c,v=.agg #[.bool b,.slice o l c]/\CI w (.agg #[.bool b,.slice o l c]) (vn - zn) 600) (fun _ _ _ _ h hb=>by obtain⟨b,o,l,c,h1,h2⟩:=h;exact⟨b,o,l,c,h1,h2.below hb⟩) (fun _ _ _ _ _ _ h _=>by obtain⟨q,hq,_⟩:=h;exact absurd hq (Nat.not_lt_zero _)) (by rfl) (fun T xs wr hA=>?_) ?_
  ·have e122:=hA.tm 22 122 (by rfl) (by rfl);have f122:xs 22=_:=hA.fa 22 (by rfl)
   (try simp (disch:=first | rfl | decide) only [R7.mask_in] at f122)
   rw[f122] at e122;clear f122;have hsw:=(hA.be 0 (Nat.zero_le _) (fun _ _=>Nat.zero_le _)).size;have e127:=hA.tm 27 127 (by rfl) (by rfl);have hF27:∃ b o l c,(xs 27)=.agg #[.int .i64 0,.bool b,.slice o l c,.bool false,.slice none 0 0]/\CI wr (.agg #[.bool b,.slice o l c]) (vn - zn) 600:=hA.fa 27 (by rfl);obtain⟨b5,o5,l5,c5,e27,hc5⟩:=hF27;rw[e27] at e127;clear hA;refine⟨((Rely.wanted_at rfl (by rfl) e122).trans (by rfl)),fun K hK=>?_⟩;go_simp
   exact hK.out _ _ ⟨_,_,_,_,rfl,hc5⟩ (Below.refl _ _)
  refine R7.Chain.det ?_ (by rfl) (fun T xs wr hA=>?_) ?_
  rotate_left 1
  ·have e122:=hA.tm 22 122 (by rfl) (by rfl);have f122:xs 22=_:=hA.fa 22 (by rfl)
   (try simp (disch:=first | rfl | decide) only [R7.mask_in] at f122)
   rw[f122] at e122;clear f122;have e16:=hA.pre 16 (by kernel_rfl);simp only[gsa,gsc,gsz] at e16;have hBq:wr.heap[ku]?=_:=(hA.bl _ hlt_u (fun q h=>absurd h (Nat.not_lt_zero _))).trans HBu.out;have q0:=cell_at (v:=.bool b3) hBq 0 rfl;have q1:=cell_at (v:=.slice o3 l3 c3) hBq 1 rfl;clear hBq;clear hA;refine⟨((Rely.wanted_at rfl (by rfl) e122).trans (by rfl)),?_⟩;go_simp<;>(try with_reducible rfl)
  refine R7.Chain.det ?_ (by rfl) (fun T xs wr hA=>?_) ?_
  rotate_left 1
  ·have e122:=hA.tm 22 122 (by rfl) (by rfl);have f122:xs 22=_:=hA.fa 22 (by rfl)
   (try simp (disch:=first | rfl | decide) only [R7.mask_in] at f122)
   rw[f122] at e122;clear f122;have e17:=hA.pre 17 (by kernel_rfl);simp only[gsa,gsc,gsz] at e17;have hBq:wr.heap[kt]?=_:=(hA.bl _ hlt_t (fun q h=>absurd h (Nat.not_lt_zero _))).trans HBt.out;have q0:=cell_at (v:=.bool b4) hBq 0 rfl;have q1:=cell_at (v:=.slice o4 l4 c4) hBq 1 rfl;clear hBq;clear hA;refine⟨((Rely.wanted_at rfl (by rfl) e122).trans (by rfl)),?_⟩;go_simp<;>(try with_reducible rfl)
  refine R7.Chain.call (fun xs v w=>∃ b o l c,v=.agg #[.bool b,.slice o l c]/\CI w (.agg #[.bool b,.slice o l c]) (vn - zn) 600) (fun _ _ _ _ h hb=>by obtain⟨b,o,l,c,h1,h2⟩:=h;exact⟨b,o,l,c,h1,h2.below hb⟩) (fun _ _ _ _ _ _ h _=>by obtain⟨q,hq,_⟩:=h;exact absurd hq (Nat.not_lt_zero _)) (by rfl) (fun T xs wr hA=>?_) ?_
  ·have e122:=hA.tm 22 122 (by rfl) (by rfl);have f122:xs 22=_:=hA.fa 22 (by rfl)
   (try simp (disch:=first | rfl | decide) only [R7.mask_in] at f122)
   rw[f122] at e122;clear f122;have hsw:=(hA.be 0 (Nat.zero_le _) (fun _ _=>Nat.zero_le _)).size;have e129:=hA.tm 29 129 (by rfl) (by rfl);have f129:xs 29=_:=hA.fa 29 (by rfl)
   (try simp (disch:=first | rfl | decide) only [R7.mask_in] at f129)
   rw[f129] at e129;clear f129;have e130:=hA.tm 30 130 (by rfl) (by rfl);have f130:xs 30=_:=hA.fa 30 (by rfl)
   (try simp (disch:=first | rfl | decide) only [R7.mask_in] at f130)
   rw[f130] at e130;clear f130;have hbw:=undrew (hA.be Wb3.heap.size (Nat.le_refl _) (fun q h=>absurd h (Nat.not_lt_zero q)));have hvw:=HCV.out.below hbw;have hzw:=HCZ.out.below hbw;clear hA;refine⟨((Rely.wanted_at rfl (by rfl) e122).trans (by rfl)),fun K hK=>?_⟩;go_simp
   refine (wsub_any _ _ vn zn 600 600 _ hvw.gi hzw.gi (by decide) (by decide)).mono ?_;rintro e w' ⟨y,rfl,hy,hb'⟩;obtain⟨b,o,l,c,rfl⟩:=hy.shape;exact hK.out _ _ ⟨b,o,l,c,rfl,CI.tight hy HDF.out⟩ hb'
  refine R7.Chain.call (fun xs v w=>v=.int .i64 0) (fun _ _ _ _ h _=>h) (fun _ _ _ _ _ h _ _=>h) (by rfl) (fun T xs wr hA=>?_) ?_
  ·have e122:=hA.tm 22 122 (by rfl) (by rfl);have f122:xs 22=_:=hA.fa 22 (by rfl)
   (try simp (disch:=first | rfl | decide) only [R7.mask_in] at f122)
   rw[f122] at e122;clear f122;have hsw:=(hA.be 0 (Nat.zero_le _) (fun _ _=>Nat.zero_le _)).size;have e128:=hA.tm 28 128 (by rfl) (by rfl);have e131:=hA.tm 31 131 (by rfl) (by rfl);have hbw:=undrew (hA.be Wb3.heap.size (Nat.le_refl _) (fun q h=>absurd h (Nat.not_lt_zero q)));have hF28:∃ b o l c,(xs 28)=.agg #[.bool b,.slice o l c]/\CI wr (.agg #[.bool b,.slice o l c]) (vn - zn) 600:=hA.fa 28 (by rfl);obtain⟨b6,o6,l6,c6,e28,hc6⟩:=hF28;have hF31:∃ b o l c,(xs 31)=.agg #[.bool b,.slice o l c]/\CI wr (.agg #[.bool b,.slice o l c]) (vn - zn) 600:=hA.fa 31 (by rfl);obtain⟨b7,o7,l7,c7,e31,hc7⟩:=hF31;rw[e28] at e128;rw[e31] at e131;clear hA;refine⟨((Rely.wanted_at rfl (by rfl) e122).trans (by rfl)),fun K hK=>?_⟩;go_simp
   refine (wcmp_any _ _ (vn - zn) (vn - zn) 600 600 _ hc6.gi hc7.gi (by decide) (by decide)).mono ?_;rintro e w' ⟨rfl,hb'⟩;rw[show sgnZ (vn - zn - (vn - zn))=0 by rw[Int.sub_self];rfl];exact hK.out _ _ rfl hb'
  refine R7.Chain.det ?_ (by rfl) (fun T xs wr hA=>?_) ?_
  rotate_left 1
  ·have e122:=hA.tm 22 122 (by rfl) (by rfl);have f122:xs 22=_:=hA.fa 22 (by rfl)
   (try simp (disch:=first | rfl | decide) only [R7.mask_in] at f122)
   rw[f122] at e122;clear f122;have e132:=hA.tm 32 132 (by rfl) (by rfl);have f132:xs 32=(.int .i64 0):=hA.fa 32 (by rfl);rw[f132] at e132;clear f132;clear hA;refine⟨((Rely.wanted_at rfl (by rfl) e122).trans (by rfl)),?_⟩;go_simp<;>(try with_reducible rfl)
  refine R7.Chain.det ?_ (by rfl) (fun T xs wr hA=>?_) ?_
  rotate_left 1
  ·have e122:=hA.tm 22 122 (by rfl) (by rfl);have f122:xs 22=_:=hA.fa 22 (by rfl)
   (try simp (disch:=first | rfl | decide) only [R7.mask_in] at f122)
   rw[f122] at e122;clear f122;have e133:=hA.tm 33 133 (by rfl) (by rfl);have f133:xs 33=_:=hA.fa 33 (by rfl)
   (try simp (disch:=first | rfl | decide) only [R7.mask_in] at f133)
   rw[f133] at e133;clear f133;clear hA;refine⟨(by rfl),?_⟩;go_simp<;>(try with_reducible rfl)
  refine R7.Chain.done (fun xs x13 hL=>?_);obtain⟨⟨hbe,hbl⟩,hf,-,-⟩:=hL;have f0:xs 0=_:=hf 0 (by decide)
  (try simp (disch:=first | rfl | decide) only [R7.mask_in] at f0)
  have f1:xs 1=_:=hf 1 (by decide)
  (try simp (disch:=first | rfl | decide) only [R7.mask_in] at f1)
  have F2:∃ y,(xs 2)=y/\FC x13 tS 3 y (.node 15 0 ⟨#[]⟩ [.node 2 0 ⟨#[]⟩ [vF 1 ⟨#[105,48]⟩,.node 0 1 ⟨#[]⟩ []],vF 1 ⟨#[105,49]⟩]):=hf 2 (by decide);have f3:xs 3=_:=hf 3 (by decide)
  (try simp (disch:=first | rfl | decide) only [R7.mask_in] at f3)
  have f4:xs 4=(.bool (decide (Z<0))):=hf 4 (by decide);have f5:xs 5=_:=hf 5 (by decide)
  (try simp (disch:=first | rfl | decide) only [R7.mask_in] at f5)
  have f6:xs 6=_:=hf 6 (by decide)
  (try simp (disch:=first | rfl | decide) only [R7.mask_in] at f6)
  have f7:xs 7=(.int .i64 Z):=hf 7 (by decide);have f8:xs 8=_:=hf 8 (by decide)
  (try simp (disch:=first | rfl | decide) only [R7.mask_in] at f8)
  have f9:xs 9=_:=hf 9 (by decide)
  (try simp (disch:=first | rfl | decide) only [R7.mask_in] at f9)
  have f10:xs 10=_:=hf 10 (by decide)
  (try simp (disch:=first | rfl | decide) only [R7.mask_in] at f10)
  have f11:xs 11=_:=hf 11 (by decide)
  (try simp (disch:=first | rfl | decide) only [R7.mask_in] at f11)
  have f12:xs 12=_:=hf 12 (by decide)
  (try simp (disch:=first | rfl | decide) only [R7.mask_in] at f12)
  have F13:∃ y,(xs 13)=y/\FC x13 tS 3 y (.node 16 0 ⟨#[]⟩ [vF 1 ⟨#[105,48]⟩,vF 1 ⟨#[105,49]⟩]):=hf 13 (by decide);have f14:xs 14=_:=hf 14 (by decide)
  (try simp (disch:=first | rfl | decide) only [R7.mask_in] at f14)
  have f15:xs 15=(.bool (decide (Z=0))):=hf 15 (by decide);have f16:xs 16=_:=hf 16 (by decide)
  (try simp (disch:=first | rfl | decide) only [R7.mask_in] at f16)
  have f17:xs 17=_:=hf 17 (by decide)
  (try simp (disch:=first | rfl | decide) only [R7.mask_in] at f17)
  have f18:xs 18=(.int .i64 Z):=hf 18 (by decide);have f19:xs 19=(.bool (decide (Z=0))):=hf 19 (by decide);have f20:xs 20=_:=hf 20 (by decide)
  (try simp (disch:=first | rfl | decide) only [R7.mask_in] at f20)
  have f21:xs 21=_:=hf 21 (by decide)
  (try simp (disch:=first | rfl | decide) only [R7.mask_in] at f21)
  have f22:xs 22=_:=hf 22 (by decide)
  (try simp (disch:=first | rfl | decide) only [R7.mask_in] at f22)
  have f23:xs 23=_:=hf 23 (by decide)
  (try simp (disch:=first | rfl | decide) only [R7.mask_in] at f23)
  have f24:xs 24=_:=hf 24 (by decide)
  (try simp (disch:=first | rfl | decide) only [R7.mask_in] at f24)
  have F25:∃ y,(xs 25)=y/\FC x13 tS 3 y (.node 2 0 ⟨#[]⟩ [vF 1 ⟨#[105,48]⟩,.node 3 (-1) ⟨#[]⟩ [vF 1 ⟨#[105,49]⟩]]):=hf 25 (by decide);have f26:xs 26=_:=hf 26 (by decide)
  (try simp (disch:=first | rfl | decide) only [R7.mask_in] at f26)
  have F27:∃ b o l c,(xs 27)=.agg #[.int .i64 0,.bool b,.slice o l c,.bool false,.slice none 0 0]/\CI x13 (.agg #[.bool b,.slice o l c]) (vn - zn) 600:=hf 27 (by decide);have F28:∃ b o l c,(xs 28)=.agg #[.bool b,.slice o l c]/\CI x13 (.agg #[.bool b,.slice o l c]) (vn - zn) 600:=hf 28 (by decide);have f29:xs 29=_:=hf 29 (by decide)
  (try simp (disch:=first | rfl | decide) only [R7.mask_in] at f29)
  have f30:xs 30=_:=hf 30 (by decide)
  (try simp (disch:=first | rfl | decide) only [R7.mask_in] at f30)
  have F31:∃ b o l c,(xs 31)=.agg #[.bool b,.slice o l c]/\CI x13 (.agg #[.bool b,.slice o l c]) (vn - zn) 600:=hf 31 (by decide);have f32:xs 32=(.int .i64 0):=hf 32 (by decide);have f33:xs 33=_:=hf 33 (by decide)
  (try simp (disch:=first | rfl | decide) only [R7.mask_in] at f33)
  have f34:xs 34=_:=hf 34 (by decide)
  (try simp (disch:=first | rfl | decide) only [R7.mask_in] at f34)
  have hb0:Below 0 Wb3 x13:=undrew (hbe 0 (Nat.zero_le _) (fun _ _=>Nat.zero_le _));have hgr:∀ j,j<Wb3.heap.size->(∀ q,q<0->(fun q=>0) q≠j)->x13.heap[j]?=Wb3.heap[j]?:=hbl;clear hbe hbl hf;have hb:Below Wb3.heap.size Wb3 x13:=⟨hb0.os,hb0.tape,hb0.output,hb0.size,fun q hq=>hgr q hq (fun q h=>absurd h (Nat.not_lt_zero _))⟩
  refine R7.rest_done ?_;simp only[R7.fill,t5_,t6_,t7_,f0,f1,f3,f4,f5,f6,f7,f8,f9,f10,f11,f12,f14,f15,f16,f17,f18,f19,f20,f21,f22,f23,f24,f26,f29,f30,f32,f33,f34];clear hb0 hgr hog hlt_p hlt_q hlt_u hlt_t f0 f1 f3 f4 f5 f6 f7 f8 f9 f10 f11 f12 f14 f15 f16 f17 f18 f19 f20 f21 f22 f23 f24 f26 f29 f30 f32 f33 f34;replace HBu:=kBV hb HBu;replace HBt:=kBV hb HBt;replace HBp:=kBV hb HBp;replace HBq:=kBV hb HBq;replace HW:=Lib.hid (HW.out.trans (hb.mono HW.out.size));replace HEL:=Lib.hid (HEL.out.below hb);replace HFP:=Lib.hid (HFP.out.below hb);replace HFQ:=Lib.hid (HFQ.out.below hb);replace HCV:=Lib.hid (HCV.out.below hb);replace HCZ:=Lib.hid (HCZ.out.below hb);replace hb:=Lib.hid hb;clear hz1 hz2 HFP HFQ HCV HCZ HBp HBq HBu HBt;go_wp2_with fail
  refine (var_p ⟨#[98,48]⟩ 1 x13).mono ?_;rintro e x14 ⟨rfl,hb⟩;replace HW:=Lib.hid (HW.out.trans (hb.mono HW.out.size));replace HEL:=Lib.hid (HEL.out.below hb);rw[show opVar 1=14 from rfl];go_wp2_with fail
  refine (var_p ⟨#[98,49]⟩ 1 x14).mono ?_;rintro e x15 ⟨rfl,hb⟩;replace HW:=Lib.hid (HW.out.trans (hb.mono HW.out.size));replace HEL:=Lib.hid (HEL.out.below hb);rw[show opVar 1=14 from rfl];obtain⟨xa4,kp,ep,ekp,hbp,hkp,HBp⟩:=newV x15 #[.int .i64 0,.bool false,.slice none 0 0,.string ⟨#[]⟩,.slice none 0 0] 29;have hltp:=lt_of_block HBp.out;obtain⟨xb4,kq,eq,ekq,hbq,hkq,HBq⟩:=newV xa4 #[.int .i64 0,.bool false,.slice none 0 0,.string ⟨#[]⟩,.slice none 0 0] 29;replace HBp:=kBV hbq.out HBp;have hlt12:kp<kq:=Nat.lt_of_lt_of_le hltp hkq.out;have nq1:kp≠kq:=by omega
  have nq2:kq≠kp:=by omega
  have HL12:=Lib.hid hlt12;clear hltp hlt12;obtain⟨⟨u0,u1,u2,u3,u4⟩,fu0,fu1,fu2,fu3,fu4⟩:=cells5V HBp.out;obtain⟨⟨t0,t1,t2,t3,t4⟩,ft0,ft1,ft2,ft3,ft4⟩:=cells5V HBq.out;go_upto_region 25 with fail
  clear u0 u1 u2 u3 u4 fu0 fu1 fu2 fu3 fu4 t0 t1 t2 t3 t4 ft0 ft1 ft2 ft3 ft4;have ha1:=set5_same HBp.out (.int .i64 14) (.bool false) (.slice none 0 0) (.string ⟨#[98,48]⟩) (.slice none 0 0);obtain⟨Wa4,hW1⟩:∃ q,q=((((xb4.setCell ⟨kp,0,none⟩ (.int .i64 14)).setCell ⟨kp,1,none⟩ (.bool false)).setCell ⟨kp,2,none⟩ (.slice none 0 0)).setCell ⟨kp,3,none⟩ (.string ⟨#[98,48]⟩)).setCell ⟨kp,4,none⟩ (.slice none 0 0):=⟨_,rfl⟩
  have hg1:xb4.grownBy Wa4 (some kp):=by rw[hW1];exact grown5V _ _ _ _ _
  rw[<-hW1] at ha1 ⊢;have hb1:=(hg1.block kq (lt_of_block HBq.out) (fun e=>by injection e with e;exact nq2 e)).trans HBq.out;have hb2:=set5_same hb1 (.int .i64 14) (.bool false) (.slice none 0 0) (.string ⟨#[98,49]⟩) (.slice none 0 0);obtain⟨Wb4,hW2⟩:∃ q,q=((((Wa4.setCell ⟨kq,0,none⟩ (.int .i64 14)).setCell ⟨kq,1,none⟩ (.bool false)).setCell ⟨kq,2,none⟩ (.slice none 0 0)).setCell ⟨kq,3,none⟩ (.string ⟨#[98,49]⟩)).setCell ⟨kq,4,none⟩ (.slice none 0 0):=⟨_,rfl⟩
  have hg2:Wa4.grownBy Wb4 (some kq):=by rw[hW2];exact grown5V _ _ _ _ _
  rw[<-hW2] at hb2 ⊢;have ha2:=(hg2.block kp (lt_of_block ha1) (fun e=>by injection e with e;exact nq1 e)).trans ha1;have hb:=ext_below (ext_below (hbp.out.trans (hbq.out.mono hbp.out.size)) hg1 hkp.out) hg2 (Nat.le_trans hkp.out (Nat.le_of_lt HL12.out));replace HBp:Hid (Wb4.heap[kp]?=some (.cells #[.int .i64 14,.bool false,.slice none 0 0,.string ⟨#[98,48]⟩,.slice none 0 0] 29 (0,0))):=Lib.hid ha2;replace HBq:Hid (Wb4.heap[kq]?=some (.cells #[.int .i64 14,.bool false,.slice none 0 0,.string ⟨#[98,49]⟩,.slice none 0 0] 29 (0,0))):=Lib.hid hb2;clear ha1 hW1 hg1 hb1 hb2 hW2 hg2 ha2 nq1 nq2 HL12;replace HW:=Lib.hid (HW.out.trans (hb.mono HW.out.size));replace HEL:=Lib.hid (HEL.out.below hb);clear hb
  have HFP:Hid (FC Wb4 tS 1 (.agg #[.int .i64 14,.bool false,.slice none 0 0,.string ⟨#[98,48]⟩,.slice none 0 0]) (vF 14 ⟨#[98,48]⟩)):=Lib.hid (FC.mk (d:=0) (by unfold IR;decide) (nr0 _) (FL.nil _ _ _));have HFQ:Hid (FC Wb4 tS 1 (.agg #[.int .i64 14,.bool false,.slice none 0 0,.string ⟨#[98,49]⟩,.slice none 0 0]) (vF 14 ⟨#[98,49]⟩)):=Lib.hid (FC.mk (d:=0) (by unfold IR;decide) (nr0 _) (FL.nil _ _ _));have xp0:=cell_at (v:=.int .i64 14) HBp.out 0 rfl;have fxp0:=froz_at HBp.out 0;have xp1:=cell_at (v:=.bool false) HBp.out 1 rfl;have fxp1:=froz_at HBp.out 1;have xp2:=cell_at (v:=.slice none 0 0) HBp.out 2 rfl;have fxp2:=froz_at HBp.out 2;have xp3:=cell_at (v:=.string ⟨#[98,48]⟩) HBp.out 3 rfl;have fxp3:=froz_at HBp.out 3;have xp4:=cell_at (v:=.slice none 0 0) HBp.out 4 rfl;have fxp4:=froz_at HBp.out 4
  have xq0:=cell_at (v:=.int .i64 14) HBq.out 0 rfl;have fxq0:=froz_at HBq.out 0;have xq1:=cell_at (v:=.bool false) HBq.out 1 rfl;have fxq1:=froz_at HBq.out 1;have xq2:=cell_at (v:=.slice none 0 0) HBq.out 2 rfl;have fxq2:=froz_at HBq.out 2;have xq3:=cell_at (v:=.string ⟨#[98,49]⟩) HBq.out 3 rfl;have fxq3:=froz_at HBq.out 3;have xq4:=cell_at (v:=.slice none 0 0) HBq.out 4 rfl;have fxq4:=froz_at HBq.out 4;have hff:=fieldF0;go_wp2_with fail
  refine (eq_p _ _ (vF 14 ⟨#[98,48]⟩) (vF 14 ⟨#[98,49]⟩) 1 Wb4 HFP.out HFQ.out).mono ?_;rintro e x16 ⟨g,rfl,hy,hb⟩;clear xp0 fxp0 xp1 fxp1 xp2 fxp2 xp3 fxp3 xp4 fxp4 xq0 fxq0 xq1 fxq1 xq2 fxq2 xq3 fxq3 xq4 fxq4;replace HBp:=kBV hb HBp;replace HBq:=kBV hb HBq;replace HW:=Lib.hid (HW.out.trans (hb.mono HW.out.size));replace HEL:=Lib.hid (HEL.out.below hb);replace HFP:=Lib.hid (HFP.out.below hb);replace HFQ:=Lib.hid (HFQ.out.below hb);rw[show eqOp (srt (vF 14 ⟨#[98,48]⟩).op)=20 from rfl];clear hy;have xp0:=cell_at (v:=.int .i64 14) HBp.out 0 rfl;have fxp0:=froz_at HBp.out 0;have xp1:=cell_at (v:=.bool false) HBp.out 1 rfl;have fxp1:=froz_at HBp.out 1;have xp2:=cell_at (v:=.slice none 0 0) HBp.out 2 rfl;have fxp2:=froz_at HBp.out 2;have xp3:=cell_at (v:=.string ⟨#[98,48]⟩) HBp.out 3 rfl;have fxp3:=froz_at HBp.out 3
  have xp4:=cell_at (v:=.slice none 0 0) HBp.out 4 rfl;have fxp4:=froz_at HBp.out 4;have xq0:=cell_at (v:=.int .i64 14) HBq.out 0 rfl;have fxq0:=froz_at HBq.out 0;have xq1:=cell_at (v:=.bool false) HBq.out 1 rfl;have fxq1:=froz_at HBq.out 1;have xq2:=cell_at (v:=.slice none 0 0) HBq.out 2 rfl;have fxq2:=froz_at HBq.out 2;have xq3:=cell_at (v:=.string ⟨#[98,49]⟩) HBq.out 3 rfl;have fxq3:=froz_at HBq.out 3;have xq4:=cell_at (v:=.slice none 0 0) HBq.out 4 rfl;have fxq4:=froz_at HBq.out 4;go_wp2_with fail
  refine (eq_p _ _ (vF 14 ⟨#[98,48]⟩) (vF 14 ⟨#[98,49]⟩) 1 x16 HFP.out HFQ.out).mono ?_;rintro e x17 ⟨g,rfl,hy,hb⟩;clear xp0 fxp0 xp1 fxp1 xp2 fxp2 xp3 fxp3 xp4 fxp4 xq0 fxq0 xq1 fxq1 xq2 fxq2 xq3 fxq3 xq4 fxq4;replace HBp:=kBV hb HBp;replace HBq:=kBV hb HBq;replace HW:=Lib.hid (HW.out.trans (hb.mono HW.out.size));replace HEL:=Lib.hid (HEL.out.below hb);replace HFP:=Lib.hid (HFP.out.below hb);replace HFQ:=Lib.hid (HFQ.out.below hb);have HTI:=Lib.hid hy;clear hy;go_wp2_with fail
  refine (holds_p 2 _ _ env (.node 20 0 ⟨#[]⟩ [vF 14 ⟨#[98,48]⟩,vF 14 ⟨#[98,49]⟩]) _ x17 HTI.out HEL.out HIF.out.1.1 HIF.out.1.2).mono ?_;rintro e x18 ⟨rfl,hb⟩;replace HBp:=kBV hb HBp;replace HBq:=kBV hb HBq;replace HW:=Lib.hid (HW.out.trans (hb.mono HW.out.size));replace HEL:=Lib.hid (HEL.out.below hb);replace HFP:=Lib.hid (HFP.out.below hb);replace HFQ:=Lib.hid (HFQ.out.below hb);replace HTI:=Lib.hid (HTI.out.below hb);rw[HIF.out.2];go_wp2_with fail
  refine (find_p _ env ⟨#[98,48]⟩ x18 HEL.out).mono ?_;rintro e x19 ⟨y,rfl,hy,hb⟩;replace HBp:=kBV hb HBp;replace HBq:=kBV hb HBq;replace HW:=Lib.hid (HW.out.trans (hb.mono HW.out.size));replace HEL:=Lib.hid (HEL.out.below hb);replace HFP:=Lib.hid (HFP.out.below hb);replace HFQ:=Lib.hid (HFQ.out.below hb);replace HTI:=Lib.hid (HTI.out.below hb);rw[HR1.out] at hy;have hy1:=hy.bool;subst hy1;clear hy;go_wp2_with fail
  refine (find_p _ env ⟨#[98,49]⟩ x19 HEL.out).mono ?_;rintro e x20 ⟨y,rfl,hy,hb⟩;replace HBp:=kBV hb HBp;replace HBq:=kBV hb HBq;replace HW:=Lib.hid (HW.out.trans (hb.mono HW.out.size));replace HEL:=Lib.hid (HEL.out.below hb);replace HFP:=Lib.hid (HFP.out.below hb);replace HFQ:=Lib.hid (HFQ.out.below hb);replace HTI:=Lib.hid (HTI.out.below hb);rw[HR2.out] at hy;have hy1:=hy.bool;subst hy1;clear hy;have hbb:((B1==B2)==(B1==B2))=true:=beq_self_eq_true _;go_wp2_with fail
  go_ret
  exact⟨rfl,HW.out⟩
end Go.Proofs.Ytdkfnbbebpbhaaa
