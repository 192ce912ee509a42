/-
 Joined texts: ScI,ScK,ScQ,Rel11,ScJ,ScL,ScO.
-/
import Derived.Test.YtkocdbgmckdcpaaGreatDoorJScopeSites6
import Derived.Test.YtkocdbgmckdcpaaGreatDoorJScopeSites7
set_option maxHeartbeats 32000000
namespace Go.Proofs.YtkocdbgmckdcpaaGreatDoor
open Go.RowKit Go.Maps
set_option maxRecDepth 100000
set_option linter.unusedVariables false
set_option linter.unusedSimpArgs false
def BaseOk (F:Fs) (Gv:Bs->Option Value) (rf:Bool) (w0:World) (u:U):Prop:=
 ∀ (x:X) (S:Nat->Prop) (w:World) (kg bf bs:Nat) (s:Ks) (ev:Value) (n:Nat),Um w0 S x u->Bnd u->Ck w0 w kg bf bs Gv s rf ev->Dom s.sc n->n+2*ud u<=1000000000000 ->
  Calls Tryz.prog 113 #[.pointer (some ⟨kg,0,none⟩),xv x] w fun e w'=>e=.returned (iv (kEx F rf u s).1)/\CkP w0 w kg bf bs Gv (kEx F rf u s).2 rf w'
theorem kf_kid (F:Fs) (rf:Bool):∀ (ks:List U) (j:Nat) (h:j<ks.length),kf (kExs F rf ks) j=kEx F rf ks[j]
 | u::us,0,_=>by rw[kExs];rfl
 | u::us,j+1,h=>by rw[kExs];exact kf_kid F rf us j (by simpa using h)
theorem ud_kid {ks:List U} {j:Nat} (h:j<ks.length):ud ks[j]<=uds ks:=uds_mem (List.getElem_mem h)
theorem addr_add0 (a:Addr):a.add 0=a:=by unfold Addr.add;simp
theorem big_ok:1000000000000<maxLen:=by decide
theorem assert_s {w0 w:World} {kg bf bs:Nat} {Gv:Bs->Option Value} {s:Ks} {rf:Bool} {ev:Value} (h:Ck w0 w kg bf bs Gv s rf ev) (x:X) (k:Nat) (nm ot:Bs) (z ln cl:Nat) (ks:List U) (S:Nat->Prop) (hu:Um w0 S x (.node k nm ot z ln cl ks)) (hb:Bnd (.node k nm ot z ln cl ks)) (F:Fs) (hK:∀ j (h:j<ks.length),BaseOk F Gv rf w0 ks[j]) (n:Nat) (hd:Dom s.sc n) (hn:n+2*(uds ks+1)<=1000000000000) (hk:k=28) :
  Calls Tryz.prog 134 #[.pointer (some ⟨kg,0,none⟩),xv x] w fun e w'=>e=.returned (iv (kAssert rf ln cl (kExs F rf ks) s).1)/\CkP w0 w kg bf bs Gv ((kAssert rf ln cl (kExs F rf ks) s).2) rf w':=by
 rw[Um] at hu;obtain⟨⟨e1,e2,e3,e4,e5,e6⟩,⟨h2,h3⟩,⟨h4,h5,h6⟩,h7⟩:=hu;obtain⟨xk,xnm,xot,xb,xao,xn,xq,xko,xkn,xkc,xln,xcl⟩:=x;simp only at e1 e2 e3 e4 e5 e6 h2 h3 h4 h5 h6 h7;have HK:=h_ (fun j (hj:j<ks.length)=>ums_get 0 j h7 hj);rw[Bnd] at hb;have HNM:Hid (nm.length<=3000):=h_ hb.2.1.1;have HOT:Hid (ot.length<=3000):=h_ hb.2.1.2.1;have hlen:ks.length=2:=by rcases hb.1.2 with h | h;omega;rw[h,hk];rfl
 have HKS:=h_ (fun j (hj:j<ks.length)=>bnds_mem hb.2.2.2 (List.getElem_mem hj));have HL:=h_ hlen;have HKB:=h_ hK;have HD:=h_ hd;have HNN:=h_ hn;obtain⟨y0,⟨a,ha,hy⟩,hU⟩:=HK.out 0 (by omega);subst ha;have HKK:=h_ hk;clear h7 hb h2 h3 h5 h6 hK hd hn hy hU hlen hk;subst e1 e2 e3 e4 e5 e6;subst h4;simp only[xv];have HC:=h_ h;have HBg:=h_ h.blk;have HF:Hid (Fc w w kg bs):=h_ (Fc.refl _ _ _);clear h;go_enter Tryz.func134,Tryz.ntmps134
 go_upto_region 1 with fail
 obtain⟨w1,ke,hw,hkk,hb,hs1,HBe⟩:=newb w #[.int .i64 (k:Nat),.string ⟨nm.toArray⟩,.string ⟨ot.toArray⟩,.bool false,.slice xao xn xq,.slice (some a) ks.length xkc,.int .i64 (ln:Nat),.int .i64 (cl:Nat)] 46;have hge:=lk_ hkk HBg;have hse:bs<ke:=by rw[hkk];exact HC.out.sm.lt
 have hee:w.heap.size<=ke:=by rw[hkk];exact HF.out.size
 rw[hw,<-hkk];replace HBg:=kB hb HBg;replace HC:=h_ (HC.out.below hb);replace HF:=fb_ HF hb;clear hw hb hkk hs1;have HKF0:=h_ (kf_kid F rf ks 0 (by rw[HL.out];decide));have HKF1:=h_ (kf_kid F rf ks 1 (by rw[HL.out];decide));obtain⟨y0,⟨a0,ha,hy⟩,hU⟩:=HK.out 0 (by rw[HL.out];decide);obtain rfl:a=a0:=by injection ha
 clear ha;have hbw0:=HC.out.bw;obtain⟨z0,z1,z2,z3,z4,z5,z6,z7⟩:=cells8 (w:=w1) (p:=a) (y:=y0) (fun q v hv=>by have:=hy q v hv;rw[show (a:Addr).add q=(a.add ((0+0)*8)).add q from (by rw[show (0+0)*8=0 from rfl,addr_add0]),hbw0.cell (cell_lt this)];exact this);have HU:=h_ hU;clear hy hU hbw0;obtain⟨c0,c1,c2,c3,c4,c5,c6,c7⟩:=cl8 HBe.out;have hI:(0:Int)<((ks.length:Nat):Int):=by rw[HL.out];decide
 go_wp2_with fail
 refine (HKB.out 0 (by rw[HL.out];decide) y0 S w1 kg bf bs s ev n HU.out (HKS.out 0 (by rw[HL.out];decide)) HC.out HD.out (by have:=ud_kid (ks:=ks) (j:=0) (by rw[HL.out];decide);have:=HNN.out;omega)).mono ?_;rintro e w2 ⟨rfl,⟨ev,hC⟩,hF⟩;clear c0 c1 c2 c3 c4 c5 c6 c7 z0 z1 z2 z3 z4 z5 z6 z7 hI;replace HBe:=kF hF HBe;replace HF:=h_ (HF.out.trans hF);replace HC:=h_ hC;replace HBg:=h_ hC.blk;clear hC hF;obtain⟨b0,hbb⟩:∃ x,x=(kEx F rf (ks[0]'(by rw[HL.out];decide)) s).1:=⟨_,rfl⟩
 obtain⟨s0,hss⟩:∃ x,x=(kEx F rf (ks[0]'(by rw[HL.out];decide)) s).2:=⟨_,rfl⟩
 rw[<-hbb];rw[<-hss] at HC;have HBB0:=h_ hbb;have HSS0:=h_ hss;clear hbb hss;clear HU;have HD0:Hid (Dom s0.sc n):=h_ (HD.out.sub (by rw[HSS0.out];exact kdm_b F rf _ s));go_upto_region 2 with fail
 have hlt_g:=lt_of_block HBg.out;have hlt_e:=lt_of_block HBe.out;refine R7.r0 [[],[],[],[2],[2,3],[2,3,4],[2,3,4,5],[0,1,2,3,4,5,6]] 7 ?_;refine R7.cd ?_ (fun T xs wr hA=>?_) ?_
 rotate_left
 ·have e0:=hA.pq 0;simp only[gsa,gsz] at e0;clear hA;go_simp<;>(try with_reducible rfl)
 refine R7.cd ?_ (fun T xs wr hA=>?_) ?_
 rotate_left
 ·have e3:=hA.pq 3;simp only[gsa,gsc,gsz] at e3;have hBq:wr.heap[ke]?=_:=(hA.bl _ hlt_e (fun q h=>absurd h (Nat.not_lt_zero _))).trans HBe.out;obtain⟨q0,q1,q2,q3,q4,q5,q6,q7⟩:=cl8 hBq;clear hBq;clear hA;go_simp<;>(try with_reducible rfl)
 refine R7.cd ?_ (fun T xs wr hA=>?_) ?_
 rotate_left
 ·have e0:=hA.pq 0;simp only[gsa,gsz] at e0;clear hA;go_simp<;>(try with_reducible rfl)
 refine R7.cd ?_ (fun T xs wr hA=>?_) ?_
 rotate_left
 ·have e14:=tr_ (hA.tq 2 14) (hA.fq 2)
  (try simp (disch:=decide) only [R7.mi] at e14)
  clear hA;go_simp<;>(try with_reducible rfl)
 refine R7.cd ?_ (fun T xs wr hA=>?_) ?_
 rotate_left
 ·have e15:=tr_ (hA.tq 3 15) (hA.fq 3)
  (try simp (disch:=decide) only [R7.mi] at e15)
  clear hA;go_simp<;>(try with_reducible rfl)
 refine R7.cd ?_ (fun T xs wr hA=>?_) ?_
 rotate_left
 ·have e16:=tr_ (hA.tq 4 16) (hA.fq 4)
  (try simp (disch:=decide) only [R7.mi] at e16)
  have hBq:wr.heap[kg]?=_:=(hA.bl _ hlt_g (fun q h=>absurd h (Nat.not_lt_zero _))).trans HBg.out;obtain⟨q0,q1,q2,q3⟩:=cl4 hBq;clear hBq;clear hA;go_simp<;>(try with_reducible rfl)
 refine R7.cd ?_ (fun T xs wr hA=>?_) ?_
 rotate_left
 ·have e17:=tr_ (hA.tq 5 17) (hA.fq 5)
  (try simp (disch:=decide) only [R7.mi] at e17)
  clear hA;go_simp<;>(try with_reducible rfl)
 refine R7.Chain.done (fun xs w3 hL=>?_);obtain⟨⟨hbe,hbl⟩,hf,-,-⟩:=hL;have f0:xs 0=_:=hf 0 (by decide);have f1:xs 1=_:=hf 1 (by decide);have f2:xs 2=_:=hf 2 (by decide);have f3:xs 3=_:=hf 3 (by decide);have f4:xs 4=_:=hf 4 (by decide);have f5:xs 5=_:=hf 5 (by decide);have f6:xs 6=_:=hf 6 (by decide)
 (try simp (disch:=decide) only [R7.mi] at f0 f1 f2 f3 f4 f5 f6)
 have hb:Below w2.heap.size w2 w3:=R7.b0_ hbe;clear hbe hbl hf;refine R7.rest_list (by decide) (by kernel_rfl) ?_;simp only[R7.fill,t1_,t2_,t3_,t4_,t5_,t6_,t7_,f0,f1,f2,f3,f4,f5,f6];clear hlt_g hlt_e f0 f1 f2 f3 f4 f5 f6;replace HBg:=kB hb HBg;replace HBe:=kB hb HBe;replace HC:=h_ (HC.out.below hb);replace HF:=fb_ HF hb;clear hb;go_wp2_with fail
 refine (need_p HC.out ⟨(k:Nat),⟨nm.toArray⟩,⟨ot.toArray⟩,false,xao,xn,xq,some a,ks.length,xkc,(ln:Nat),(cl:Nat)⟩ ln cl rfl rfl (!rf) 1).mono ?_;rintro e w4 ⟨rfl,⟨ev,hC⟩,hF⟩;replace HBe:=kF hF HBe;replace HF:=h_ (HF.out.trans hF);replace HC:=h_ hC;replace HBg:=h_ hC.blk;clear hC hF;go_upto_region 3 with fail
 obtain⟨c0,c1,c2,c3,c4,c5,c6,c7⟩:=cl8 HBe.out;unfold iv;go_wp2_with fail
 refine (need_p HC.out ⟨(k:Nat),⟨nm.toArray⟩,⟨ot.toArray⟩,false,xao,xn,xq,some a,ks.length,xkc,(ln:Nat),(cl:Nat)⟩ ln cl rfl rfl (((b0:Nat):Int)==1) 4).mono ?_;rintro e w5 ⟨rfl,⟨ev,hC⟩,hF⟩;clear c0 c1 c2 c3 c4 c5 c6 c7;replace HBe:=kF hF HBe;replace HF:=h_ (HF.out.trans hF);replace HC:=h_ hC;replace HBg:=h_ hC.blk;clear hC hF;rw[nbeq1] at HC;obtain⟨s2,hs2⟩:∃ x,x=(s0.need ln cl (!rf) 1).need ln cl (b0==1) 4:=⟨_,rfl⟩
 rw[<-hs2] at HC;have HS2:=h_ hs2;clear hs2;have HD2:Hid (Dom s2.sc n):=h_ (by rw[HS2.out,need_sc,need_sc];exact HD0.out);go_upto_region 4 with fail
 obtain⟨y1,⟨a1,ha,hy⟩,hU⟩:=HK.out 1 (by rw[HL.out];decide);obtain rfl:a=a1:=by injection ha
 clear ha;have hbw0:=HC.out.bw;obtain⟨z0,z1,z2,z3,z4,z5,z6,z7⟩:=cells8 (w:=w5) (p:=⟨a.block,a.off+8,none⟩) (y:=y1) (fun q v hv=>by have:=hy q v hv;rw[show (⟨a.block,a.off+8,none⟩:Addr).add q=(a.add ((0+1)*8)).add q from rfl,hbw0.cell (cell_lt this)];exact this);have HU:=h_ hU;clear hy hU hbw0;obtain⟨c0,c1,c2,c3,c4,c5,c6,c7⟩:=cl8 HBe.out;have hI:(1:Int)<((ks.length:Nat):Int):=by rw[HL.out];decide
 go_wp2_with fail
 refine (HKB.out 1 (by rw[HL.out];decide) y1 S w5 kg bf bs s2 ev n HU.out (HKS.out 1 (by rw[HL.out];decide)) HC.out HD2.out (by have:=ud_kid (ks:=ks) (j:=1) (by rw[HL.out];decide);have:=HNN.out;omega)).mono ?_;rintro e w6 ⟨rfl,⟨ev,hC⟩,hF⟩;clear c0 c1 c2 c3 c4 c5 c6 c7 z0 z1 z2 z3 z4 z5 z6 z7 hI;replace HBe:=kF hF HBe;replace HF:=h_ (HF.out.trans hF);replace HC:=h_ hC;replace HBg:=h_ hC.blk;clear hC hF;obtain⟨b1,hbb⟩:∃ x,x=(kEx F rf (ks[1]'(by rw[HL.out];decide)) s2).1:=⟨_,rfl⟩
 obtain⟨s1,hss⟩:∃ x,x=(kEx F rf (ks[1]'(by rw[HL.out];decide)) s2).2:=⟨_,rfl⟩
 rw[<-hbb];rw[<-hss] at HC;have HBB1:=h_ hbb;have HSS1:=h_ hss;clear hbb hss;clear HU;go_wp2_with fail
 go_ret
 have e:kAssert rf ln cl (kExs F rf ks) s=(b1,s1):=by
  unfold kAssert;simp only[HKF0.out,HKF1.out,<-HBB0.out,<-HSS0.out,<-HS2.out];rw[HBB1.out,HSS1.out]
 rw[e];exact⟨rfl,⟨ev,HC.out⟩,HF.out⟩
theorem addM_sc (m:Sc) (n:Bs) (v:Nat):addM (scV m) n (iv v)=scV (if (m n).isNone then m.put n v else m):=by
 unfold addM;rw[scV_some]
 cases h:m n with
 | none=>simp only[Option.isSome_none,Option.isNone_none,Bool.false_eq_true,if_false,if_true];rw[scV_put]
 | some x=>simp only[Option.isSome_some,Option.isNone_some,Bool.false_eq_true,if_false,if_true]
theorem scV_none (m:Sc) (n:Bs):(scV m n).isNone=(m n).isNone:=by unfold scV;cases m n<;>rfl
theorem Dom.add {m:Sc} {n:Nat} (h:Dom m n) (x:Bs) (v:Nat):Dom (if (m x).isNone then m.put x v else m) (n+1):=by
 split
 ·exact h.put x v
 exact h.mono (Nat.le_succ n)
theorem nm_ok {l:Bs} (h:l.length<=3000):l.length<=maxLen:=Nat.le_trans h (by decide)
theorem let_s {w0 w:World} {kg bf bs:Nat} {Gv:Bs->Option Value} {s:Ks} {rf:Bool} {ev:Value} (h:Ck w0 w kg bf bs Gv s rf ev) (x:X) (k:Nat) (nm ot:Bs) (z ln cl:Nat) (ks:List U) (S:Nat->Prop) (hu:Um w0 S x (.node k nm ot z ln cl ks)) (hb:Bnd (.node k nm ot z ln cl ks)) (F:Fs) (hK:∀ j (h:j<ks.length),BaseOk F Gv rf w0 ks[j]) (n:Nat) (hd:Dom s.sc n) (hn:n+2*(uds ks+1)<=1000000000000) (hk:k=26) :
  Calls Tryz.prog 132 #[.pointer (some ⟨kg,0,none⟩),xv x] w fun e w'=>e=.returned (iv (kLet rf nm ln cl (kExs F rf ks) s).1)/\CkP w0 w kg bf bs Gv ((kLet rf nm ln cl (kExs F rf ks) s).2) rf w':=by
 rw[Um] at hu;obtain⟨⟨e1,e2,e3,e4,e5,e6⟩,⟨h2,h3⟩,⟨h4,h5,h6⟩,h7⟩:=hu;obtain⟨xk,xnm,xot,xb,xao,xn,xq,xko,xkn,xkc,xln,xcl⟩:=x;simp only at e1 e2 e3 e4 e5 e6 h2 h3 h4 h5 h6 h7;have HK:=h_ (fun j (hj:j<ks.length)=>ums_get 0 j h7 hj);rw[Bnd] at hb;have HNM:Hid (nm.length<=3000):=h_ hb.2.1.1;have HOT:Hid (ot.length<=3000):=h_ hb.2.1.2.1;have hlen:ks.length=2:=by rcases hb.1.2 with h | h;omega;rw[h,hk];rfl
 have HKS:=h_ (fun j (hj:j<ks.length)=>bnds_mem hb.2.2.2 (List.getElem_mem hj));have HL:=h_ hlen;have HKB:=h_ hK;have HD:=h_ hd;have HNN:=h_ hn;obtain⟨y0,⟨a,ha,hy⟩,hU⟩:=HK.out 0 (by omega);subst ha;have HKK:=h_ hk;clear h7 hb h2 h3 h5 h6 hK hd hn hy hU hlen hk;subst e1 e2 e3 e4 e5 e6;subst h4;simp only[xv];have HC:=h_ h;have HBg:=h_ h.blk;have HF:Hid (Fc w w kg bs):=h_ (Fc.refl _ _ _);clear h;have hgs:kg≠bs:=HC.out.gs;have HGS:=h_ hgs;clear hgs;go_enter Tryz.func132,Tryz.ntmps132
 go_upto_region 1 with fail
 obtain⟨w1,ke,hw,hkk,hb,hs1,HBe⟩:=newb w #[.int .i64 (k:Nat),.string ⟨nm.toArray⟩,.string ⟨ot.toArray⟩,.bool false,.slice xao xn xq,.slice (some a) ks.length xkc,.int .i64 (ln:Nat),.int .i64 (cl:Nat)] 46;have hge:=lk_ hkk HBg;have hse:bs<ke:=by rw[hkk];exact HC.out.sm.lt
 have hee:w.heap.size<=ke:=by rw[hkk];exact HF.out.size
 rw[hw,<-hkk];replace HBg:=kB hb HBg;replace HC:=h_ (HC.out.below hb);replace HF:=fb_ HF hb;clear hw hb hkk hs1;have HKF0:=h_ (kf_kid F rf ks 0 (by rw[HL.out];decide));have HKF1:=h_ (kf_kid F rf ks 1 (by rw[HL.out];decide));obtain⟨y0,⟨a0,ha,hy⟩,hU⟩:=HK.out 0 (by rw[HL.out];decide);obtain rfl:a=a0:=by injection ha
 clear ha;have hbw0:=HC.out.bw;obtain⟨z0,z1,z2,z3,z4,z5,z6,z7⟩:=cells8 (w:=w1) (p:=a) (y:=y0) (fun q v hv=>by have:=hy q v hv;rw[show (a:Addr).add q=(a.add ((0+0)*8)).add q from (by rw[show (0+0)*8=0 from rfl,addr_add0]),hbw0.cell (cell_lt this)];exact this);have HU:=h_ hU;clear hy hU hbw0;obtain⟨c0,c1,c2,c3,c4,c5,c6,c7⟩:=cl8 HBe.out;have hI:(0:Int)<((ks.length:Nat):Int):=by rw[HL.out];decide
 go_wp2_with fail
 refine (HKB.out 0 (by rw[HL.out];decide) y0 S w1 kg bf bs s ev n HU.out (HKS.out 0 (by rw[HL.out];decide)) HC.out HD.out (by have:=ud_kid (ks:=ks) (j:=0) (by rw[HL.out];decide);have:=HNN.out;omega)).mono ?_;rintro e w2 ⟨rfl,⟨ev,hC⟩,hF⟩;clear c0 c1 c2 c3 c4 c5 c6 c7 z0 z1 z2 z3 z4 z5 z6 z7 hI;replace HBe:=kF hF HBe;replace HF:=h_ (HF.out.trans hF);replace HC:=h_ hC;replace HBg:=h_ hC.blk;clear hC hF;obtain⟨b0,hbb⟩:∃ x,x=(kEx F rf (ks[0]'(by rw[HL.out];decide)) s).1:=⟨_,rfl⟩
 obtain⟨s0,hss⟩:∃ x,x=(kEx F rf (ks[0]'(by rw[HL.out];decide)) s).2:=⟨_,rfl⟩
 rw[<-hbb];rw[<-hss] at HC;have HBB0:=h_ hbb;have HSS0:=h_ hss;clear hbb hss;clear HU;have HD0:Hid (Dom s0.sc n):=h_ (HD.out.sub (by rw[HSS0.out];exact kdm_b F rf _ s));go_upto_region 2 with fail
 have hlt_g:=lt_of_block HBg.out;have hlt_e:=lt_of_block HBe.out;refine R7.r0 [[],[],[],[2],[2,3],[2,3,4],[2,3,4,5],[0,1,2,3,4,5,6]] 7 ?_;refine R7.cd ?_ (fun T xs wr hA=>?_) ?_
 rotate_left
 ·have e0:=hA.pq 0;simp only[gsa,gsz] at e0;clear hA;go_simp<;>(try with_reducible rfl)
 refine R7.cd ?_ (fun T xs wr hA=>?_) ?_
 rotate_left
 ·have e3:=hA.pq 3;simp only[gsa,gsc,gsz] at e3;have hBq:wr.heap[ke]?=_:=(hA.bl _ hlt_e (fun q h=>absurd h (Nat.not_lt_zero _))).trans HBe.out;obtain⟨q0,q1,q2,q3,q4,q5,q6,q7⟩:=cl8 hBq;clear hBq;clear hA;go_simp<;>(try with_reducible rfl)
 refine R7.cd ?_ (fun T xs wr hA=>?_) ?_
 rotate_left
 ·have e0:=hA.pq 0;simp only[gsa,gsz] at e0;clear hA;go_simp<;>(try with_reducible rfl)
 refine R7.cd ?_ (fun T xs wr hA=>?_) ?_
 rotate_left
 ·have e15:=tr_ (hA.tq 2 15) (hA.fq 2)
  (try simp (disch:=decide) only [R7.mi] at e15)
  clear hA;go_simp<;>(try with_reducible rfl)
 refine R7.cd ?_ (fun T xs wr hA=>?_) ?_
 rotate_left
 ·have e16:=tr_ (hA.tq 3 16) (hA.fq 3)
  (try simp (disch:=decide) only [R7.mi] at e16)
  clear hA;go_simp<;>(try with_reducible rfl)
 refine R7.cd ?_ (fun T xs wr hA=>?_) ?_
 rotate_left
 ·have e17:=tr_ (hA.tq 4 17) (hA.fq 4)
  (try simp (disch:=decide) only [R7.mi] at e17)
  have hBq:wr.heap[kg]?=_:=(hA.bl _ hlt_g (fun q h=>absurd h (Nat.not_lt_zero _))).trans HBg.out;obtain⟨q0,q1,q2,q3⟩:=cl4 hBq;clear hBq;clear hA;go_simp<;>(try with_reducible rfl)
 refine R7.cd ?_ (fun T xs wr hA=>?_) ?_
 rotate_left
 ·have e18:=tr_ (hA.tq 5 18) (hA.fq 5)
  (try simp (disch:=decide) only [R7.mi] at e18)
  clear hA;go_simp<;>(try with_reducible rfl)
 refine R7.Chain.done (fun xs w3 hL=>?_);obtain⟨⟨hbe,hbl⟩,hf,-,-⟩:=hL;have f0:xs 0=_:=hf 0 (by decide);have f1:xs 1=_:=hf 1 (by decide);have f2:xs 2=_:=hf 2 (by decide);have f3:xs 3=_:=hf 3 (by decide);have f4:xs 4=_:=hf 4 (by decide);have f5:xs 5=_:=hf 5 (by decide);have f6:xs 6=_:=hf 6 (by decide)
 (try simp (disch:=decide) only [R7.mi] at f0 f1 f2 f3 f4 f5 f6)
 have hb:Below w2.heap.size w2 w3:=R7.b0_ hbe;clear hbe hbl hf;refine R7.rest_list (by decide) (by kernel_rfl) ?_;simp only[R7.fill,t1_,t2_,t3_,t4_,t5_,t6_,t7_,f0,f1,f2,f3,f4,f5,f6];clear hlt_g hlt_e f0 f1 f2 f3 f4 f5 f6;replace HBg:=kB hb HBg;replace HBe:=kB hb HBe;replace HC:=h_ (HC.out.below hb);replace HF:=fb_ HF hb;clear hb;go_wp2_with fail
 refine (need_p HC.out ⟨(k:Nat),⟨nm.toArray⟩,⟨ot.toArray⟩,false,xao,xn,xq,some a,ks.length,xkc,(ln:Nat),(cl:Nat)⟩ ln cl rfl rfl (!rf) 1).mono ?_;rintro e w4 ⟨rfl,⟨ev,hC⟩,hF⟩;replace HBe:=kF hF HBe;replace HF:=h_ (HF.out.trans hF);replace HC:=h_ hC;replace HBg:=h_ hC.blk;clear hC hF;obtain⟨sA,hsA⟩:∃ x,x=s0.need ln cl (!rf) 1:=⟨_,rfl⟩
 rw[<-hsA] at HC;have HSA:=h_ hsA;clear hsA;have HDA:Hid (Dom sA.sc n):=h_ (by rw[HSA.out,need_sc];exact HD0.out);go_upto_region 3 with fail
 have hgs:=HGS.out;have hlt_g:=lt_of_block HBg.out;have hlt_e:=lt_of_block HBe.out;have hog:Hid (∀ q,q<1->(fun q=>bs) q<w4.heap.size):=h_ (fun q _=>by show bs<_;exact HC.out.sm.lt);refine R7.region (by kernel_rfl) [[],[],[],[2],[2,3],[2,3,4],[],[6],[],[2,3,4,5,6,7,8],[0,1,2,3,4,5,6,7,8,9]] [] [(9,1000)] (fun q=>bs) 1 10 (by kernel_rfl) (by kernel_rfl) (by rfl) hog.out (fun q q' h h' hn=>absurd hn (by omega)) ?_;refine R7.cd ?_ (fun T xs wr hA=>?_) ?_
 rotate_left
 ·have e0:=hA.pq 0;simp only[gsa,gsz] at e0;clear hA;go_simp<;>(try with_reducible rfl)
 refine R7.cd ?_ (fun T xs wr hA=>?_) ?_
 rotate_left
 ·have e3:=hA.pq 3;simp only[gsa,gsc,gsz] at e3;have hBq:wr.heap[ke]?=_:=(hA.bl _ hlt_e (fun q _=>by show bs≠ke;omega)).trans HBe.out;obtain⟨q0,q1,q2,q3,q4,q5,q6,q7⟩:=cl8 hBq;clear hBq;clear hA;go_simp<;>(try with_reducible rfl)
 refine R7.cd ?_ (fun T xs wr hA=>?_) ?_
 rotate_left
 ·have e0:=hA.pq 0;simp only[gsa,gsz] at e0;clear hA;go_simp<;>(try with_reducible rfl)
 refine R7.cd ?_ (fun T xs wr hA=>?_) ?_
 rotate_left
 ·have e23:=tr_ (hA.tq 2 23) (hA.fq 2)
  (try simp (disch:=decide) only [R7.mi] at e23)
  clear hA;go_simp<;>(try with_reducible rfl)
 refine R7.cd ?_ (fun T xs wr hA=>?_) ?_
 rotate_left
 ·have e24:=tr_ (hA.tq 3 24) (hA.fq 3)
  (try simp (disch:=decide) only [R7.mi] at e24)
  clear hA;go_simp<;>(try with_reducible rfl)
 refine R7.cd ?_ (fun T xs wr hA=>?_) ?_
 rotate_left
 ·have e25:=tr_ (hA.tq 4 25) (hA.fq 4)
  (try simp (disch:=decide) only [R7.mi] at e25)
  have hBq:wr.heap[kg]?=_:=(hA.bl _ hlt_g (fun q _=>by show bs≠kg;omega)).trans HBg.out;obtain⟨q0,q1,q2,q3⟩:=cl4 hBq;clear hBq;clear hA;go_simp<;>(try with_reducible rfl)
 refine R7.cd ?_ (fun T xs wr hA=>?_) ?_
 rotate_left
 ·have e3:=hA.pq 3;simp only[gsa,gsc,gsz] at e3;clear hA;go_simp<;>(try with_reducible rfl)
 refine R7.cd ?_ (fun T xs wr hA=>?_) ?_
 rotate_left
 ·have e27:=tr_ (hA.tq 6 27) (hA.fq 6)
  (try simp (disch:=decide) only [R7.mi] at e27)
  have hBq:wr.heap[ke]?=_:=(hA.bl _ hlt_e (fun q _=>by show bs≠ke;omega)).trans HBe.out;obtain⟨q0,q1,q2,q3,q4,q5,q6,q7⟩:=cl8 hBq;clear hBq;clear hA;go_simp<;>(try with_reducible rfl)
 refine R7.cd ?_ (fun T xs wr hA=>?_) ?_
 rotate_left
 ·have e5:=hA.pq 5;simp only[gsa,gsc,gsz] at e5;clear hA;go_simp<;>(try with_reducible rfl)
 refine R7.Chain.callOld 0 (fun xs v w=>v=.bool (scV sA.sc nm).isNone/\MapIs Tryz.prog 9 w bs (addM (scV sA.sc) nm (iv b0))) (fun _ _ _ _ ⟨h1,h2⟩ hb=>⟨h1,h2.keep (hb.block _ h2.lt)⟩) (fun _ _ _ _ q' _ hq hne _=>absurd rfl hne) (by rfl) (by rfl) (by decide) (R7.own_one (by rfl)) (fun T xs wr hA hold=>?_) ?_
 ·have hsw:=(hA.be 0 (Nat.zero_le _) (fun _ _=>Nat.zero_le _)).size;have e26:=tr_ (hA.tq 5 26) (hA.fq 5);have e28:=tr_ (hA.tq 7 28) (hA.fq 7);have e29:=tr_ (hA.tq 8 29) (hA.fq 8)
  (try simp (disch:=decide) only [R7.mi] at e26 e28 e29)
  have HMW:=h_ (HC.out.sm.keep hold);clear hA;refine⟨(by rfl),fun K hK=>?_⟩;go_simp
  refine (addB_p bs (scV sA.sc) nm b0 wr HMW.out (nm_ok HNM.out) (domV HDA.out) (Nat.lt_of_le_of_lt (by have:=HNN.out;omega) big_ok)).mono ?_;rintro e w' ⟨rfl,hm,hg⟩;exact hK.out _ _ ⟨rfl,hm⟩ (R7.Priv.of hg)
 refine R7.Chain.done (fun xs w5 hL=>?_);obtain⟨⟨hbe,hbl⟩,hf,-,-⟩:=hL;have f0:xs 0=_:=hf 0 (by decide);have f1:xs 1=_:=hf 1 (by decide);have f2:xs 2=_:=hf 2 (by decide);have f3:xs 3=_:=hf 3 (by decide);have f4:xs 4=_:=hf 4 (by decide);have f5:xs 5=_:=hf 5 (by decide);have f6:xs 6=_:=hf 6 (by decide);have f7:xs 7=_:=hf 7 (by decide);have f8:xs 8=_:=hf 8 (by decide);have F9:(xs 9)=.bool (scV sA.sc nm).isNone/\MapIs Tryz.prog 9 w5 bs (addM (scV sA.sc) nm (iv b0)):=hf 9 (by decide)
 (try simp (disch:=decide) only [R7.mi] at f0 f1 f2 f3 f4 f5 f6 f7 f8)
 have hb0:Below 0 w4 w5:=undrew (hbe 0 (Nat.zero_le _) (fun _ _=>Nat.zero_le _));have hgr:∀ j,j<w4.heap.size->(∀ q,q<1->(fun q=>bs) q≠j)->w5.heap[j]?=w4.heap[j]?:=hbl;clear hbe hbl hf;obtain⟨hv,hm⟩:=F9;have hg:w4.grownBy w5 (some bs):=⟨hb0.os,hb0.tape,hb0.output,hb0.size,fun k hk hn=>hgr k hk (fun q _ e=>hn (by rw[<-e]))⟩
 rw[scV_none] at hv;refine R7.rest_list (by decide) (by kernel_rfl) ?_;simp only[R7.fill,t1_,t2_,t3_,t4_,t5_,t6_,t7_,f0,f1,f2,f3,f4,f5,f6,f7,f8];simp only[hv];rw[addM_sc] at hm;clear hog hv hb0 hgr hgs hlt_e hlt_g f0 f1 f2 f3 f4 f5 f6 f7 f8;replace HBg:=kG hg HBg HGS.out;replace HBe:=kG hg HBe;replace HF:=h_ (HF.out.trans (Fc.of_b hg kg));replace HC:=h_ (HC.out.turn hg hm);clear hg hm;obtain⟨sB,hsB⟩:∃ x:Ks,x=⟨if (sA.sc nm).isNone then sA.sc.put nm b0 else sA.sc,sA.er⟩:=⟨_,rfl⟩
 rw[<-hsB] at HC;have HSB:=h_ hsB;clear hsB;have HDB:Hid (Dom sB.sc (n+1)):=h_ (by rw[HSB.out];exact HDA.out.add nm b0);go_wp2_with fail
 refine (need_p HC.out ⟨(k:Nat),⟨nm.toArray⟩,⟨ot.toArray⟩,false,xao,xn,xq,some a,ks.length,xkc,(ln:Nat),(cl:Nat)⟩ ln cl rfl rfl (sA.sc nm).isNone 3).mono ?_;rintro e w6 ⟨rfl,⟨ev,hC⟩,hF⟩;replace HBe:=kF hF HBe;replace HF:=h_ (HF.out.trans hF);replace HC:=h_ hC;replace HBg:=h_ hC.blk;clear hC hF;obtain⟨sD,hsD⟩:∃ x:Ks,x=sB.need ln cl (sA.sc nm).isNone 3:=⟨_,rfl⟩
 rw[<-hsD] at HC;have HSD:=h_ hsD;clear hsD;have HDD:Hid (Dom sD.sc (n+1)):=h_ (by rw[HSD.out,need_sc];exact HDB.out);go_upto_region 4 with fail
 obtain⟨y1,⟨a1,ha,hy⟩,hU⟩:=HK.out 1 (by rw[HL.out];decide);obtain rfl:a=a1:=by injection ha
 clear ha;have hbw0:=HC.out.bw;obtain⟨z0,z1,z2,z3,z4,z5,z6,z7⟩:=cells8 (w:=w6) (p:=⟨a.block,a.off+8,none⟩) (y:=y1) (fun q v hv=>by have:=hy q v hv;rw[show (⟨a.block,a.off+8,none⟩:Addr).add q=(a.add ((0+1)*8)).add q from rfl,hbw0.cell (cell_lt this)];exact this);have HU:=h_ hU;clear hy hU hbw0;obtain⟨c0,c1,c2,c3,c4,c5,c6,c7⟩:=cl8 HBe.out;have hI:(1:Int)<((ks.length:Nat):Int):=by rw[HL.out];decide
 go_wp2_with fail
 refine (HKB.out 1 (by rw[HL.out];decide) y1 S w6 kg bf bs sD ev (n+1) HU.out (HKS.out 1 (by rw[HL.out];decide)) HC.out HDD.out (by have:=ud_kid (ks:=ks) (j:=1) (by rw[HL.out];decide);have:=HNN.out;omega)).mono ?_;rintro e w7 ⟨rfl,⟨ev,hC⟩,hF⟩;clear c0 c1 c2 c3 c4 c5 c6 c7 z0 z1 z2 z3 z4 z5 z6 z7 hI;replace HBe:=kF hF HBe;replace HF:=h_ (HF.out.trans hF);replace HC:=h_ hC;replace HBg:=h_ hC.blk;clear hC hF;obtain⟨b1,hbb⟩:∃ x,x=(kEx F rf (ks[1]'(by rw[HL.out];decide)) sD).1:=⟨_,rfl⟩
 obtain⟨s1,hss⟩:∃ x,x=(kEx F rf (ks[1]'(by rw[HL.out];decide)) sD).2:=⟨_,rfl⟩
 rw[<-hbb];rw[<-hss] at HC;have HBB1:=h_ hbb;have HSS1:=h_ hss;clear hbb hss;clear HU;go_upto_region 5 with fail
 have hlt_g:=lt_of_block HBg.out;have hlt_e:=lt_of_block HBe.out;refine R7.r0 [[],[0],[0,1],[0,1,2],[],[4],[0,1,2,3,4,5]] 6 ?_;refine R7.cd ?_ (fun T xs wr hA=>?_) ?_
 rotate_left
 ·have e0:=hA.pq 0;simp only[gsa,gsz] at e0;clear hA;go_simp<;>(try with_reducible rfl)
 refine R7.cd ?_ (fun T xs wr hA=>?_) ?_
 rotate_left
 ·have e38:=tr_ (hA.tq 0 38) (hA.fq 0)
  (try simp (disch:=decide) only [R7.mi] at e38)
  clear hA;go_simp<;>(try with_reducible rfl)
 refine R7.cd ?_ (fun T xs wr hA=>?_) ?_
 rotate_left
 ·have e39:=tr_ (hA.tq 1 39) (hA.fq 1)
  (try simp (disch:=decide) only [R7.mi] at e39)
  clear hA;go_simp<;>(try with_reducible rfl)
 refine R7.cd ?_ (fun T xs wr hA=>?_) ?_
 rotate_left
 ·have e40:=tr_ (hA.tq 2 40) (hA.fq 2)
  (try simp (disch:=decide) only [R7.mi] at e40)
  have hBq:wr.heap[kg]?=_:=(hA.bl _ hlt_g (fun q h=>absurd h (Nat.not_lt_zero _))).trans HBg.out;obtain⟨q0,q1,q2,q3⟩:=cl4 hBq;clear hBq;clear hA;go_simp<;>(try with_reducible rfl)
 refine R7.cd ?_ (fun T xs wr hA=>?_) ?_
 rotate_left
 ·have e3:=hA.pq 3;simp only[gsa,gsc,gsz] at e3;clear hA;go_simp<;>(try with_reducible rfl)
 refine R7.cd ?_ (fun T xs wr hA=>?_) ?_
 rotate_left
 ·have e42:=tr_ (hA.tq 4 42) (hA.fq 4)
  (try simp (disch:=decide) only [R7.mi] at e42)
  have hBq:wr.heap[ke]?=_:=(hA.bl _ hlt_e (fun q h=>absurd h (Nat.not_lt_zero _))).trans HBe.out;obtain⟨q0,q1,q2,q3,q4,q5,q6,q7⟩:=cl8 hBq;clear hBq;clear hA;go_simp<;>(try with_reducible rfl)
 refine R7.Chain.done (fun xs w8 hL=>?_);obtain⟨⟨hbe,hbl⟩,hf,-,-⟩:=hL;have f0:xs 0=_:=hf 0 (by decide);have f1:xs 1=_:=hf 1 (by decide);have f2:xs 2=_:=hf 2 (by decide);have f3:xs 3=_:=hf 3 (by decide);have f4:xs 4=_:=hf 4 (by decide);have f5:xs 5=_:=hf 5 (by decide)
 (try simp (disch:=decide) only [R7.mi] at f0 f1 f2 f3 f4 f5)
 have hb:Below w7.heap.size w7 w8:=R7.b0_ hbe;clear hbe hbl hf;refine R7.rest_list (by decide) (by kernel_rfl) ?_;simp only[R7.fill,t1_,t2_,t3_,t4_,t5_,t6_,t7_,f0,f1,f2,f3,f4,f5];clear hlt_g hlt_e f0 f1 f2 f3 f4 f5;replace HBg:=kB hb HBg;replace HBe:=kB hb HBe;replace HC:=h_ (HC.out.below hb);replace HF:=fb_ HF hb;clear hb;go_wp2_with (first | (at_delete;refine wp_drop _ rfl _ _ 85 9 rfl 39 Tryz.underlying9 Tryz.underlying85 bs (scV s1.sc) rfl HC.out.sm nm rfl (nm_ok HNM.out) ?_;intro wz hmz hgz) | fail)
 rw[<-scV_del] at hmz;replace HBg:=kG hgz HBg HGS.out;replace HBe:=kG hgz HBe;replace HF:=h_ (HF.out.trans (Fc.of_b hgz kg));replace HC:=h_ (HC.out.turn hgz hmz);clear hmz hgz;go_wp2_with fail
 go_ret
 have e:kLet rf nm ln cl (kExs F rf ks) s=(b1,⟨s1.sc.del nm,s1.er⟩):=by
  have e3:(if (sA.sc nm).isNone then (⟨sA.sc.put nm b0,sA.er⟩:Ks) else sA)=sB:=by rw[HSB.out];split<;>rfl
  unfold kLet;simp only[HKF0.out,HKF1.out,<-HBB0.out,<-HSS0.out,<-HSA.out];rw[e3];simp only[<-HSD.out];rw[HBB1.out,HSS1.out]
 rw[e];exact⟨rfl,⟨ev,HC.out⟩,HF.out⟩
theorem complete_s {w0 w:World} {kg bf bs:Nat} {Gv:Bs->Option Value} {s:Ks} {rf:Bool} {ev:Value} (h:Ck w0 w kg bf bs Gv s rf ev) (x:X) (u:U) (S:Nat->Prop) (hu:Um w0 S x u) (hb:Bnd u) (F:Fs) (hK:BaseOk F Gv rf w0 u) (n:Nat) (hd:Dom s.sc n) (hn:n+2*ud u<=1000000000000) (hA:ArT w0) :
  Calls Tryz.prog 90 #[.pointer (some ⟨kg,0,none⟩),xv x] w fun e w'=>e=.returned (iv (kEx F rf u s).1)/\CkP w0 w kg bf bs Gv ((kEx F rf u s).2) rf w':=by
 have HU:=h_ hu;have HBU:=h_ hb;have HKB:=h_ hK;have HD:=h_ hd;have HNN:=h_ hn;have HA:=h_ hA;obtain⟨xk,xnm,xot,xb,xao,xn,xq,xko,xkn,xkc,xln,xcl⟩:=x;clear hu hb hK hd hn hA;simp only[xv];have HC:=h_ h;have HBg:=h_ h.blk;have HF:Hid (Fc w w kg bs):=h_ (Fc.refl _ _ _);clear h;go_enter Tryz.func90,Tryz.ntmps90
 go_upto_region 1 with fail
 obtain⟨w1,ke,hw,hkk,hb,hs1,HBe⟩:=newb w #[.int .i64 xk,.string xnm,.string xot,.bool xb,.slice xao xn xq,.slice xko xkn xkc,.int .i64 xln,.int .i64 xcl] 46;have hge:=lk_ hkk HBg;have hse:bs<ke:=by rw[hkk];exact HC.out.sm.lt
 have hee:w.heap.size<=ke:=by rw[hkk];exact HF.out.size
 rw[hw,<-hkk];replace HBg:=kB hb HBg;replace HC:=h_ (HC.out.below hb);replace HF:=fb_ HF hb;clear hw hb hkk hs1;obtain⟨c0,c1,c2,c3,c4,c5,c6,c7⟩:=cl8 HBe.out;go_wp2_with fail
 refine (right_p (ud u) (by have:=HNN.out;omega) ⟨xk,xnm,xot,xb,xao,xn,xq,xko,xkn,xkc,xln,xcl⟩ u w1 S (HA.out.below HC.out.bw) (HU.out.below HC.out.bw) HBU.out (Nat.le_refl _)).mono ?_;rintro e w2 ⟨rfl,hb⟩;clear c0 c1 c2 c3 c4 c5 c6 c7;replace HBg:=kB hb HBg;replace HBe:=kB hb HBe;replace HC:=h_ (HC.out.below hb);replace HF:=fb_ HF hb;clear hb;obtain⟨c0,c1,c2,c3,c4,c5,c6,c7⟩:=cl8 HBe.out;go_wp2_with fail
 refine (HKB.out ⟨xk,xnm,xot,xb,xao,xn,xq,xko,xkn,xkc,xln,xcl⟩ S w2 kg bf bs s ev n HU.out HBU.out HC.out HD.out HNN.out).mono ?_;rintro e w3 ⟨rfl,⟨ev,hC⟩,hF⟩;clear c0 c1 c2 c3 c4 c5 c6 c7;replace HBe:=kF hF HBe;replace HF:=h_ (HF.out.trans hF);replace HC:=h_ hC;replace HBg:=h_ hC.blk;clear hC hF;go_wp2_with fail
 go_ret
 exact⟨rfl,⟨ev,HC.out⟩,HF.out⟩
end Go.Proofs.YtkocdbgmckdcpaaGreatDoor
namespace Go.Proofs.YtkocdbgmckdcpaaGreatDoor
open Go.RowKit Go.Maps Go.MapKept Go.ChangeMaps Go.WideShapes Go.WideMaps
open Go.WideElems (Fit rd rg pl rd_val rd_key rg_of elemAt)
set_option maxRecDepth 100000
set_option linter.unusedVariables false
theorem find_born {es:Array MapEntry} {j:Nat} {e0:MapEntry} (hj:es[j]?=some e0) (hn:(es.toList.map (·.born)).Nodup):es.findIdx? (fun e=>(e.born:Int)==(e0.born:Int))=some j:=by
 obtain⟨hl,he⟩:=Array.getElem?_eq_some_iff.1 hj;rw[Array.findIdx?_eq_some_iff_getElem];refine⟨hl,by rw[he];exact beq_self_eq_true _,fun i hi h=>?_⟩;have hb:es[i].born=e0.born:=by have:=beq_iff_eq.1 h;omega
 have hnd:=List.pairwise_iff_getElem.1 hn i j (by simp;omega) (by simpa using hl) hi;simp only[List.getElem_map,Array.getElem_toList] at hnd;exact hnd (by rw[hb,he])
theorem MapIs.entry {P:Program} {k:TypeId} {w:World} {b:Nat} {m:Bs->Option Value} {t e:TypeId} (h:MapIs P k w b m) (hk:P.underlying k=some .string) (ht:P.underlying t=some (.map k e)) {n:Nat} (hd:DomV m n) (hn:n<maxLen) {s:Bs} (hs:s.length<=maxLen) {z:Value} (hz:∀ w,(zeroValue e).run P w=.ok z w) :
  ∃ w1 v0 st,(Instr.mapEntry t (.map (some b)) (bsv s)).run P w=.ok (.tuple #[v0,.int .i64 st]) w1/\w.grownBy w1 (some b) /\
   ∀ (w2:World) (u:Value),w2.heap[b]?=w1.heap[b]? -> ∃ w3,(Instr.entryStore t (.map (some b)) (.int .i64 st) u).run P w2=.ok () w3/\MapIs P k w3 b (fun x=>if x=s then some u else m x)/\w2.grownBy w3 (some b):=by
 have hup:=fun u=>h.update hk ht hd hn hs u
 obtain⟨n',D,⟨es,clock,hb,F,hsz,hD⟩,h3⟩:=h;have K:=string_keyed hk;have hkey:=key_bs hk hs;have hgr:∀ (w2:World) (o:Obj),w2.grownBy (setBlock w2 b o) (some b):=fun w2 o=>⟨rfl,rfl,rfl,by simp[setBlock],fun i _ hi=>by simp only[setBlock];rw[Array.getElem?_setIfInBounds_ne (fun e=>hi (by rw[e]))]⟩
 rcases K.find w hkey es.toList F.keys with ⟨h1,h2⟩ | ⟨j,e0,h1,h2,h4⟩
 ·refine⟨setBlock w b (.map (es.push ⟨bsv s,z,clock⟩) (clock+1)),z,clock,?_,hgr _ _,fun w2 u hw2=>?_⟩
  ·simp[Instr.mapEntry,run_underlying ht,MapKept.run_getObj_map hb,K.check w false hkey,h1,hz,MapKept.run_setObj_map _ hb,Result.andThen,setBlock,goInt]
  have hb2:w2.heap[b]?=some (.map (es.push ⟨bsv s,z,clock⟩) (clock+1)):=hw2.trans (heap_setBlock_same hb _);obtain⟨w',hrun,hM,-⟩:=hup u
  have e1:(Instr.mapUpdate t (.map (some b)) (bsv s) u).run P w=.ok () (setBlock w b (.map (es.push ⟨bsv s,u,clock⟩) (clock+1))):=by
   simp[Instr.mapUpdate,run_underlying ht,MapKept.run_getObj_map hb,K.check w false hkey,h1,MapKept.run_setObj_map _ hb,Result.andThen,setBlock]
  rw[e1] at hrun;injection hrun with _ hrun
  have hf:(es.push ⟨bsv s,z,clock⟩).findIdx? (fun e=>(e.born:Int)==(clock:Int))=some es.size:=
   find_born (e0:=⟨bsv s,z,clock⟩) (by simp) (stamped_push F.stamped h2).2.1
  have hm2:(es.push ⟨bsv s,z,clock⟩).modify es.size (fun e=>{ e with val:=u })=es.push ⟨bsv s,u,clock⟩:=by
   apply Array.ext_getElem?
   intro i;rw[Array.getElem?_modify,Array.getElem?_push,Array.getElem?_push]
   by_cases hi:i=es.size
   ·subst hi;simp
   simp[hi,show ¬ es.size=i from fun e=>hi e.symm]
  refine⟨setBlock w2 b (.map (es.push ⟨bsv s,u,clock⟩) (clock+1)),?_,hM.keep ((heap_setBlock_same hb2 _).trans (by rw[<-hrun];exact (heap_setBlock_same hb _).symm)),hgr _ _⟩
  simp[Instr.entryStore,MapKept.run_getObj_map hb2,asInt,asIntOf,hf,hm2,MapKept.run_setObj_map _ hb2,Result.andThen,setBlock]
 have hj:es[j]?=some e0:=by simpa using h2
 refine⟨setBlock w b (.map (es.modify j (fun e'=>{ e' with key:=bsv s })) clock),e0.val,e0.born,?_,hgr _ _,fun w2 u hw2=>?_⟩
 ·simp[Instr.mapEntry,run_underlying ht,MapKept.run_getObj_map hb,K.check w false hkey,h1,hj,h4,K.stays w hkey,MapKept.run_setObj_map _ hb,Result.andThen,setBlock,goInt]
 have hb2:w2.heap[b]?=some (.map (es.modify j (fun e'=>{ e' with key:=bsv s })) clock):=hw2.trans (heap_setBlock_same hb _);obtain⟨w',hrun,hM,-⟩:=hup u
 have e1:(Instr.mapUpdate t (.map (some b)) (bsv s) u).run P w=.ok () (setBlock w b (.map (es.modify j (fun e'=>{ e' with key:=bsv s,val:=u })) clock)):=by
  simp[Instr.mapUpdate,run_underlying ht,MapKept.run_getObj_map hb,K.check w false hkey,h1,hj,h4,K.stays w hkey,MapKept.run_setObj_map _ hb,Result.andThen,setBlock]
 rw[e1] at hrun;injection hrun with _ hrun;have hkeyf:∀ e',es[j]?=some e'->({ e' with key:=bsv s }:MapEntry).key=e'.key:=fun e' he'=>by rw[hj] at he';cases he';exact h4.symm
 have hf:(es.modify j (fun e'=>{ e' with key:=bsv s })).findIdx? (fun e=>(e.born:Int)==(e0.born:Int))=some j:=
  find_born (e0:={ e0 with key:=bsv s }) (by rw[Array.getElem?_modify,if_pos rfl,hj];rfl) (stamped_modify F.stamped j (fun e'=>{ e' with key:=bsv s }) (fun _ _=>rfl) (fun e' _ he'=>hkeyf e' he')).2.1
 have hm2:(es.modify j (fun e'=>{ e' with key:=bsv s })).modify j (fun e=>{ e with val:=u })=es.modify j (fun e'=>{ e' with key:=bsv s,val:=u }):=by
  apply Array.ext_getElem?
  intro i;rw[Array.getElem?_modify,Array.getElem?_modify,Array.getElem?_modify]
  by_cases hi:j=i
  ·rw[if_pos hi,if_pos hi,if_pos hi];cases es[i]?<;>rfl
  rw[if_neg hi,if_neg hi,if_neg hi]
 refine⟨setBlock w2 b (.map (es.modify j (fun e'=>{ e' with key:=bsv s,val:=u })) clock),?_,hM.keep ((heap_setBlock_same hb2 _).trans (by rw[<-hrun];exact (heap_setBlock_same hb _).symm)),hgr _ _⟩
 simp[Instr.entryStore,MapKept.run_getObj_map hb2,asInt,asIntOf,hf,hm2,MapKept.run_setObj_map _ hb2,Result.andThen,setBlock]
end Go.Proofs.YtkocdbgmckdcpaaGreatDoor
namespace Go.Proofs.YtkocdbgmckdcpaaGreatDoor
open Go.RowKit
set_option maxRecDepth 100000
set_option linter.unusedVariables false
namespace Rel11
open R7
section
variable {P:Program} {ops:List Oper} {D:List (List Nat)} {m:Nat} {t0:Array Value} {ds:List Deferred} {Q:Exit->Act->World->Prop}
structure InT (ops:List Oper) (D:List (List Nat)) (t0:Array Value) (val:Nat->Value) (j:Nat) (T:Array Value):Prop where
 tm:∀ i d,(dep D j).contains i=true->dstOf ops i=some d->T[d]?=some (val i)
 pre:∀ t,R7.pre ops D j t=true->T[t]?=t0[t]?
def chainOk (D:List (List Nat)) (cs:List Nat) (m:Nat):Bool:=(List.range cs.length).all fun b=>decide (cs.getD b 0<m) && (List.range b).all fun a=>(dep D (cs.getD b 0)).contains (cs.getD a 0)
theorem chain_at {D:List (List Nat)} {cs:List Nat} {m:Nat} (h:chainOk D cs m=true) {b c:Nat} (hb:cs[b]?=some c):c<m/\∀ a e,a<b->cs[a]?=some e->(dep D c).contains e=true:=by
 have hl:=(List.getElem?_eq_some_iff.1 hb).1;unfold chainOk at h;have h1:=List.all_eq_true.1 h b (List.mem_range.2 hl);rw[Bool.and_eq_true,decide_eq_true_eq] at h1;have e1:cs.getD b 0=c:=by rw[List.getD_eq_getElem?_getD,hb];rfl
 rw[e1] at h1;refine⟨h1.1,fun a e ha he=>?_⟩;have h2:=List.all_eq_true.1 h1.2 a (List.mem_range.2 ha)
 rwa [show cs.getD a 0=e by rw[List.getD_eq_getElem?_getD,he];rfl] at h2
def J (ops:List Oper) (t0:Array Value) (m:Nat) (cs:List Nat) (val:Nat->Value) (Wd:Nat->World->Prop) (d:Nat->Bool) (T:Array Value) (wc:World):Prop:=
 ((∀ j t,d j=true->dstOf ops j=some t->T[t]?=some (val j))/\(∀ t,(∀ j,d j=true->dstOf ops j≠some t)->T[t]?=t0[t]?)/\T.size=t0.size)/\(∀ j,d j=true->j<m)/\∃ s,(∀ i c,cs[i]?=some c->(d c=true ↔ i<s))/\s<=cs.length/\Wd s wc
theorem dst_uniq {size:Nat} (hok:ok ops D m size=true) {i j t:Nat} (hi:dstOf ops i=some t) (hj:dstOf ops j=some t):i=j:=by
 have key:∀ {i j:Nat},i<j->dstOf ops i=some t->dstOf ops j=some t->False:=by
  intro i j hlt hi hj;unfold dstOf at hj
  cases ho:ops[j]? with
  | none=>rw[ho] at hj;cases hj
  | some o =>
   rw[ho] at hj;exact ((ok_at hok ho).2.2.2 t hj).2 i hlt hi
 rcases Nat.lt_trichotomy i j with h | h | h
 ·exact (key h hi hj).elim
 ·exact h
 exact (key h hj hi).elim
theorem slots_put {size:Nat} (hok:ok ops D m size=true) (hsz:t0.size=size) {val:Nat->Value} {d:Nat->Bool} {T:Array Value} {i:Nat} {o:Oper} (ho:ops[i]?=some o) (hdi:d i=false)
  (h:(∀ j t,d j=true->dstOf ops j=some t->T[t]?=some (val j))/\(∀ t,(∀ j,d j=true->dstOf ops j≠some t)->T[t]?=t0[t]?)/\T.size=t0.size) :
  ∃ T',((⟨T,ds⟩:Act).put o.dst (val i))=⟨T',ds⟩/\(∀ j t,Rel9.upd d i j=true->dstOf ops j=some t->T'[t]?=some (val j))/\(∀ t,(∀ j,Rel9.upd d i j=true->dstOf ops j≠some t)->T'[t]?=t0[t]?)/\T'.size=t0.size:=by
 obtain⟨h1,h2,h3⟩:=h;have hu:∀ j,Rel9.upd d i j=true ↔ j=i\/d j=true:=fun j=>by unfold Rel9.upd;simp
 cases hd:o.dst with
 | none =>
  have hn:∀ t,dstOf ops i≠some t:=fun t=>by unfold dstOf;rw[ho];simp[hd]
  refine⟨T,rfl,fun j t hj ht=>?_,fun t ht=>h2 t fun j hj=>ht j ((hu j).2 (.inr hj)),h3⟩;rcases (hu j).1 hj with rfl | hj
  ·exact absurd ht (hn t)
  exact h1 j t hj ht
 | some q =>
  have hiq:dstOf ops i=some q:=by unfold dstOf;rw[ho];exact hd
  have hlt:q<T.size:=by rw[h3,hsz];exact ((ok_at hok ho).2.2.2 q hd).1
  refine⟨T.setIfInBounds q (val i),rfl,fun j t hj ht=>?_,fun t ht=>?_,by simpa using h3⟩
  ·by_cases e:j=i
   ·subst e;rw[hiq] at ht;injection ht with ht;subst ht
    simp[hlt]
   rcases (hu j).1 hj with h | hj
   ·exact absurd h e
   have hne:q≠t:=fun x=>e (dst_uniq hok ht (x ▸ hiq))
   rw[Array.getElem?_setIfInBounds_ne hne];exact h1 j t hj ht
  have hne:q≠t:=fun x=>ht i ((hu i).2 (.inl rfl)) (x ▸ hiq)
  rw[Array.getElem?_setIfInBounds_ne hne];exact h2 t fun j hj=>ht j ((hu j).2 (.inr hj))
theorem region {id:Nat} {w:World} (hm:P.follows .mixedOrders=true) (D:List (List Nat)) (m:Nat) (hok:ok ops D m t0.size=true) (hin:inOrder ops m=true) (cs:List Nat) (hcs:chainOk D cs m=true) (val:Nat->Value) (Wd:Nat->World->Prop) (h0:Wd 0 w.drew)
  (hq:∀ j o,ops[j]?=some o->j<m->cs.contains j=false->o.guard=none/\∀ s wc T,Wd s wc->InT ops D t0 val j T->∀ K:Act->World->Prop,Hid (K ((⟨T,ds⟩:Act).put o.dst (val j)) wc)->o.wp P ⟨T,ds⟩ wc K Q)
  (hc:∀ i j o,cs[i]?=some j->ops[j]?=some o->o.guard=none/\∀ wc T,Wd i wc->InT ops D t0 val j T->∀ K:Act->World->Prop,Hid (∀ w',Wd (i+1) w'->K ((⟨T,ds⟩:Act).put o.dst (val j)) w')->o.wp P ⟨T,ds⟩ wc K Q)
  (hrest:∀ w',Wd cs.length w'->wpList P ops.toArray Q (ops.drop m) ⟨R7.fill (ops.take m) val 0 t0,ds⟩ w'):(Code.region id ops.toArray true).wp P Q ⟨t0,ds⟩ w:=by
 have hml:=ok_len hok;refine Rel9.region hm D m hok hin (J ops t0 m cs val Wd) ?_ ?_ ?_
 ·exact⟨⟨fun j t h=>Bool.noConfusion h,fun t _=>rfl,rfl⟩,(fun j h=>Bool.noConfusion h),0,(fun i c _=>⟨fun h=>Bool.noConfusion h,fun h=>absurd h (Nat.not_lt_zero _)⟩),Nat.zero_le _,h0⟩
 ·rintro d T wc i o ⟨hS,hlt,s,hst,hsl,hW⟩ ho hi hdi hdep hcl
  have hT:InT ops D t0 val i T:=by
   refine⟨fun j t hj ht=>hS.1 j t (hdep j hj) ht,fun t ht=>hS.2.1 t fun j hj hjt=>?_⟩
   have hjl:j<ops.length:=by
    unfold dstOf at hjt
    cases hx:ops[j]? with
    | none=>rw[hx] at hjt;cases hjt
    | some o'=>exact (List.getElem?_eq_some_iff.1 hx).1
   unfold R7.pre at ht;have:=List.all_eq_true.1 ht j (List.mem_range.2 hjl);simp only[Bool.or_eq_true,bne_iff_ne,beq_iff_eq] at this;rcases this with (h | h) | h
   ·exact h hjt
   ·rw[h,hdi] at hj;cases hj
   have:=hcl j i hj h;rw[hdi] at this;cases this
  obtain⟨T',hT',hS'⟩:=slots_put (ds:=ds) hok rfl ho hdi hS (val:=val)
  have hlt':∀ j,Rel9.upd d i j=true->j<m:=fun j hj=>by
   unfold Rel9.upd at hj;rw[Bool.or_eq_true,decide_eq_true_eq] at hj;rcases hj with rfl | hj
   ·exact hi
   exact hlt j hj
  cases hcc:cs.contains i with
  | false =>
   obtain⟨hg,hw⟩:=hq i o ho hi hcc;refine⟨hg,fun K hK=>hw s wc T hW hT K (h_ ?_)⟩;rw[hT'];refine hK.out T' wc ⟨hS',hlt',s,fun j c hjc=>?_,hsl,hW⟩
   have hne:c≠i:=fun e=>by
    subst e;rw[List.contains_iff_mem.2 (List.mem_of_getElem? hjc)] at hcc;cases hcc
   rw[<-hst j c hjc];unfold Rel9.upd
   simp[hne]
  | true =>
   obtain⟨a,ha⟩:=List.getElem?_of_mem (List.contains_iff_mem.1 hcc);have hal:=(List.getElem?_eq_some_iff.1 ha).1;have hA:=chain_at hcs ha;have h1:¬ a<s:=fun h=>by rw[(hst a i ha).2 h] at hdi;cases hdi
   have hsa:s=a:=by
    rcases Nat.lt_or_ge s a with h | h
    ·have hs:cs[s]?=some cs[s]:=List.getElem?_eq_getElem (by omega);have:=hdep _ (hA.2 s _ h hs);exact absurd ((hst s _ hs).1 this) (Nat.lt_irrefl _)
    omega
   subst hsa;obtain⟨hg,hw⟩:=hc s i o ha ho;refine⟨hg,fun K hK=>hw wc T hW hT K (h_ fun w' hw'=>?_)⟩;rw[hT'];refine hK.out T' w' ⟨hS',hlt',s+1,fun j c hjc=>?_,by omega,hw'⟩;have hu:Rel9.upd d i c=true ↔ c=i\/d c=true:=by unfold Rel9.upd;simp
   rw[hu,hst j c hjc]
   constructor
   ·rintro (rfl | h)
    ·rcases Nat.lt_trichotomy j s with h | h | h
     ·omega
     ·omega
     have:=(chain_at hcs hjc).2 s c h ha;exact absurd ((ok_at hok ho).2.1 c this).2.2 (Nat.lt_irrefl _)
    omega
   intro h;rcases Nat.lt_or_ge j s with h' | h'
   ·exact .inr h'
   have:j=s:=by omega
   subst this;rw[ha] at hjc;injection hjc with hjc;exact .inl hjc.symm
 rintro T wc ⟨⟨h1,h2,h3⟩,hlt,s,hst,hsl,hW⟩
 have hs:s=cs.length:=by
  rcases Nat.lt_or_ge s cs.length with h | h
  ·have hx:cs[s]?=some cs[s]:=List.getElem?_eq_getElem h;have:=(chain_at hcs hx).1;exact absurd ((hst s _ hx).1 (by simpa using this)) (Nat.lt_irrefl _)
  omega
 subst hs
 have hT:R7.fill (ops.take m) val 0 t0=T:=by
  have hd:∀ j t,dstOf (ops.take m) j=some t ↔ (j<m/\dstOf ops j=some t):=fun j t=>by
   unfold dstOf
   by_cases hj:j<m
   ·rw[List.getElem?_take_of_lt hj];simp[hj]
   rw[List.getElem?_eq_none (by rw[List.length_take];omega)];simp[hj]
  refine R7.fill_eq _ val 0 t0 T h3 (fun j t h=>?_) (fun t h=>h2 t fun j hj hjt=>h j ((hd j t).2 ⟨by simpa using hj,hjt⟩));obtain⟨hj,ht⟩:=(hd j t).1 h;rw[Nat.zero_add];exact h1 j t (by simpa using hj) ht
 rw[<-hT];exact hrest wc hW
end
end Rel11
end Go.Proofs.YtkocdbgmckdcpaaGreatDoor
namespace Go.Proofs.YtkocdbgmckdcpaaGreatDoor
open Go.RowKit Go.Maps
set_option maxRecDepth 100000
set_option linter.unusedVariables false
set_option linter.unusedSimpArgs false
theorem wp_val {P:Program} {o:Oper} {a:Act} {w w':World} {v:Value} {K:Act->World->Prop} {Q:Exit->Act->World->Prop} (h:(execOp a.eval o).run P w=.ok (.value v) w') (hK:K (a.put o.dst v) w'):o.wp P a w K Q:=by
 unfold Oper.wp;rw[h];exact hK
theorem wp_skp {P:Program} {o:Oper} {a:Act} {w w':World} {K:Act->World->Prop} {Q:Exit->Act->World->Prop} (h:(execOp a.eval o).run P w=.ok .skip w') (hK:K (a.put o.dst undef) w'):o.wp P a w K Q:=by
 unfold Oper.wp;rw[h];exact hK
theorem match_s {w0 w:World} {kg bf bs:Nat} {Gv:Bs->Option Value} {s:Ks} {rf:Bool} {ev:Value} (h:Ck w0 w kg bf bs Gv s rf ev) (x:X) (k:Nat) (nm ot:Bs) (z ln cl:Nat) (ks:List U) (S:Nat->Prop) (hu:Um w0 S x (.node k nm ot z ln cl ks)) (hb:Bnd (.node k nm ot z ln cl ks)) (F:Fs) (hK:∀ j (h:j<ks.length),BaseOk F Gv rf w0 ks[j]) (n:Nat) (hd:Dom s.sc n) (hn:n+2*(uds ks+1)<=1000000000000) (hk:k=27) :
  Calls Tryz.prog 133 #[.pointer (some ⟨kg,0,none⟩),xv x] w fun e w'=>e=.returned (iv (kMatch rf nm ot ln cl (kExs F rf ks) s).1)/\CkP w0 w kg bf bs Gv ((kMatch rf nm ot ln cl (kExs F rf ks) s).2) rf w':=by
 rw[Um] at hu;obtain⟨⟨e1,e2,e3,e4,e5,e6⟩,⟨h2,h3⟩,⟨h4,h5,h6⟩,h7⟩:=hu;obtain⟨xk,xnm,xot,xb,xao,xn,xq,xko,xkn,xkc,xln,xcl⟩:=x;simp only at e1 e2 e3 e4 e5 e6 h2 h3 h4 h5 h6 h7;have HK:=h_ (fun j (hj:j<ks.length)=>ums_get 0 j h7 hj);rw[Bnd] at hb;have HNM:Hid (nm.length<=3000):=h_ hb.2.1.1;have HOT:Hid (ot.length<=3000):=h_ hb.2.1.2.1;have hlen:ks.length=3:=by rcases hb.1.2 with h | h;omega;rw[h,hk];rfl
 have HKS:=h_ (fun j (hj:j<ks.length)=>bnds_mem hb.2.2.2 (List.getElem_mem hj));have HL:=h_ hlen;have HKB:=h_ hK;have HD:=h_ hd;have HNN:=h_ hn;obtain⟨y0,⟨a,ha,hy⟩,hU⟩:=HK.out 0 (by omega);subst ha;have HKK:=h_ hk;clear h7 hb h2 h3 h5 h6 hK hd hn hy hU hlen hk;subst e1 e2 e3 e4 e5 e6;subst h4;simp only[xv];have HC:=h_ h;have HBg:=h_ h.blk;have HF:Hid (Fc w w kg bs):=h_ (Fc.refl _ _ _);clear h;have hgs:kg≠bs:=HC.out.gs;have HGS:=h_ hgs;clear hgs;go_enter Tryz.func133,Tryz.ntmps133
 go_upto_region 1 with fail
 obtain⟨w1,ke,hw,hkk,hb,hs1,HBe⟩:=newb w #[.int .i64 (k:Nat),.string ⟨nm.toArray⟩,.string ⟨ot.toArray⟩,.bool false,.slice xao xn xq,.slice (some a) ks.length xkc,.int .i64 (ln:Nat),.int .i64 (cl:Nat)] 46;have hge:=lk_ hkk HBg;have hse:bs<ke:=by rw[hkk];exact HC.out.sm.lt
 have hee:w.heap.size<=ke:=by rw[hkk];exact HF.out.size
 rw[hw,<-hkk];replace HBg:=kB hb HBg;replace HC:=h_ (HC.out.below hb);replace HF:=fb_ HF hb;clear hw hb hkk hs1;have HKF0:=h_ (kf_kid F rf ks 0 (by rw[HL.out];decide));have HKF1:=h_ (kf_kid F rf ks 1 (by rw[HL.out];decide));have HKF2:=h_ (kf_kid F rf ks 2 (by rw[HL.out];decide));obtain⟨y0,⟨a0,ha,hy⟩,hU⟩:=HK.out 0 (by rw[HL.out];decide);obtain rfl:a=a0:=by injection ha
 clear ha;have hbw0:=HC.out.bw;obtain⟨z0,z1,z2,z3,z4,z5,z6,z7⟩:=cells8 (w:=w1) (p:=a) (y:=y0) (fun q v hv=>by have:=hy q v hv;rw[show (a:Addr).add q=(a.add ((0+0)*8)).add q from (by rw[show (0+0)*8=0 from rfl,addr_add0]),hbw0.cell (cell_lt this)];exact this);have HU:=h_ hU;clear hy hU hbw0;obtain⟨c0,c1,c2,c3,c4,c5,c6,c7⟩:=cl8 HBe.out;have hI:(0:Int)<((ks.length:Nat):Int):=by rw[HL.out];decide
 go_wp2_with fail
 refine (HKB.out 0 (by rw[HL.out];decide) y0 S w1 kg bf bs s ev n HU.out (HKS.out 0 (by rw[HL.out];decide)) HC.out HD.out (by have:=ud_kid (ks:=ks) (j:=0) (by rw[HL.out];decide);have:=HNN.out;omega)).mono ?_;rintro e w2 ⟨rfl,⟨ev,hC⟩,hF⟩;clear c0 c1 c2 c3 c4 c5 c6 c7 z0 z1 z2 z3 z4 z5 z6 z7 hI;replace HBe:=kF hF HBe;replace HF:=h_ (HF.out.trans hF);replace HC:=h_ hC;replace HBg:=h_ hC.blk;clear hC hF;obtain⟨b0,hbb⟩:∃ x,x=(kEx F rf (ks[0]'(by rw[HL.out];decide)) s).1:=⟨_,rfl⟩
 obtain⟨s0,hss⟩:∃ x,x=(kEx F rf (ks[0]'(by rw[HL.out];decide)) s).2:=⟨_,rfl⟩
 rw[<-hbb];rw[<-hss] at HC;have HBB0:=h_ hbb;have HSS0:=h_ hss;clear hbb hss;clear HU;have HD0:Hid (Dom s0.sc n):=h_ (HD.out.sub (by rw[HSS0.out];exact kdm_b F rf _ s));go_upto_region 2 with fail
 have hlt_g:=lt_of_block HBg.out;have hlt_e:=lt_of_block HBe.out;refine R7.r0 [[],[],[],[2],[2,3],[2,3,4],[2,3,4,5],[0,1,2,3,4,5,6]] 7 ?_;refine R7.cd ?_ (fun T xs wr hA=>?_) ?_
 rotate_left
 ·have e0:=hA.pq 0;simp only[gsa,gsz] at e0;clear hA;go_simp<;>(try with_reducible rfl)
 refine R7.cd ?_ (fun T xs wr hA=>?_) ?_
 rotate_left
 ·have e3:=hA.pq 3;simp only[gsa,gsc,gsz] at e3;have hBq:wr.heap[ke]?=_:=(hA.bl _ hlt_e (fun q h=>absurd h (Nat.not_lt_zero _))).trans HBe.out;obtain⟨q0,q1,q2,q3,q4,q5,q6,q7⟩:=cl8 hBq;clear hBq;clear hA;go_simp<;>(try with_reducible rfl)
 refine R7.cd ?_ (fun T xs wr hA=>?_) ?_
 rotate_left
 ·have e0:=hA.pq 0;simp only[gsa,gsz] at e0;clear hA;go_simp<;>(try with_reducible rfl)
 refine R7.cd ?_ (fun T xs wr hA=>?_) ?_
 rotate_left
 ·have e20:=tr_ (hA.tq 2 20) (hA.fq 2)
  (try simp (disch:=decide) only [R7.mi] at e20)
  clear hA;go_simp<;>(try with_reducible rfl)
 refine R7.cd ?_ (fun T xs wr hA=>?_) ?_
 rotate_left
 ·have e21:=tr_ (hA.tq 3 21) (hA.fq 3)
  (try simp (disch:=decide) only [R7.mi] at e21)
  clear hA;go_simp<;>(try with_reducible rfl)
 refine R7.cd ?_ (fun T xs wr hA=>?_) ?_
 rotate_left
 ·have e22:=tr_ (hA.tq 4 22) (hA.fq 4)
  (try simp (disch:=decide) only [R7.mi] at e22)
  have hBq:wr.heap[kg]?=_:=(hA.bl _ hlt_g (fun q h=>absurd h (Nat.not_lt_zero _))).trans HBg.out;obtain⟨q0,q1,q2,q3⟩:=cl4 hBq;clear hBq;clear hA;go_simp<;>(try with_reducible rfl)
 refine R7.cd ?_ (fun T xs wr hA=>?_) ?_
 rotate_left
 ·have e23:=tr_ (hA.tq 5 23) (hA.fq 5)
  (try simp (disch:=decide) only [R7.mi] at e23)
  clear hA;go_simp<;>(try with_reducible rfl)
 refine R7.Chain.done (fun xs w3 hL=>?_);obtain⟨⟨hbe,hbl⟩,hf,-,-⟩:=hL;have f0:xs 0=_:=hf 0 (by decide);have f1:xs 1=_:=hf 1 (by decide);have f2:xs 2=_:=hf 2 (by decide);have f3:xs 3=_:=hf 3 (by decide);have f4:xs 4=_:=hf 4 (by decide);have f5:xs 5=_:=hf 5 (by decide);have f6:xs 6=_:=hf 6 (by decide)
 (try simp (disch:=decide) only [R7.mi] at f0 f1 f2 f3 f4 f5 f6)
 have hb:Below w2.heap.size w2 w3:=R7.b0_ hbe;clear hbe hbl hf;refine R7.rest_list (by decide) (by kernel_rfl) ?_;simp only[R7.fill,t1_,t2_,t3_,t4_,t5_,t6_,t7_,f0,f1,f2,f3,f4,f5,f6];clear hlt_g hlt_e f0 f1 f2 f3 f4 f5 f6;replace HBg:=kB hb HBg;replace HBe:=kB hb HBe;replace HC:=h_ (HC.out.below hb);replace HF:=fb_ HF hb;clear hb;go_wp2_with fail
 refine (need_p HC.out ⟨(k:Nat),⟨nm.toArray⟩,⟨ot.toArray⟩,false,xao,xn,xq,some a,ks.length,xkc,(ln:Nat),(cl:Nat)⟩ ln cl rfl rfl (!rf) 1).mono ?_;rintro e w4 ⟨rfl,⟨ev,hC⟩,hF⟩;replace HBe:=kF hF HBe;replace HF:=h_ (HF.out.trans hF);replace HC:=h_ hC;replace HBg:=h_ hC.blk;clear hC hF;go_upto_region 3 with fail
 obtain⟨c0,c1,c2,c3,c4,c5,c6,c7⟩:=cl8 HBe.out;unfold iv;go_wp2_with fail
 refine (need_p HC.out ⟨(k:Nat),⟨nm.toArray⟩,⟨ot.toArray⟩,false,xao,xn,xq,some a,ks.length,xkc,(ln:Nat),(cl:Nat)⟩ ln cl rfl rfl (((b0:Nat):Int)==2) 4).mono ?_;rintro e w5 ⟨rfl,⟨ev,hC⟩,hF⟩;clear c0 c1 c2 c3 c4 c5 c6 c7;replace HBe:=kF hF HBe;replace HF:=h_ (HF.out.trans hF);replace HC:=h_ hC;replace HBg:=h_ hC.blk;clear hC hF;rw[nbeq2] at HC;obtain⟨sA,hsA⟩:∃ x,x=(s0.need ln cl (!rf) 1).need ln cl (b0==2) 4:=⟨_,rfl⟩
 rw[<-hsA] at HC;have HSA:=h_ hsA;clear hsA;have HDA:Hid (Dom sA.sc n):=h_ (by rw[HSA.out,need_sc,need_sc];exact HD0.out);obtain⟨sc,er⟩:=sA;go_upto_region 4 with fail
 have hlt_g:=lt_of_block HBg.out;have hlt_e:=lt_of_block HBe.out;refine R7.r0 [[],[0],[0,1],[0,1,2],[],[4],[0,1,2,3,4,5],[0,1,2,3,4,5,6],[0,1,2,3,4,5,6,7],[0,1,2,3,4,5,6,7],[0,1,2,3,4,5,6,7,8],[0,1,2,3,4,5,6,7,8,9,10]] 12 ?_;refine R7.cd ?_ (fun T xs wr hA=>?_) ?_
 rotate_left
 ·have e0:=hA.pq 0;simp only[gsa,gsz] at e0;clear hA;go_simp<;>(try with_reducible rfl)
 refine R7.cd ?_ (fun T xs wr hA=>?_) ?_
 rotate_left
 ·have e32:=tr_ (hA.tq 0 32) (hA.fq 0)
  (try simp (disch:=decide) only [R7.mi] at e32)
  clear hA;go_simp<;>(try with_reducible rfl)
 refine R7.cd ?_ (fun T xs wr hA=>?_) ?_
 rotate_left
 ·have e33:=tr_ (hA.tq 1 33) (hA.fq 1)
  (try simp (disch:=decide) only [R7.mi] at e33)
  clear hA;go_simp<;>(try with_reducible rfl)
 refine R7.cd ?_ (fun T xs wr hA=>?_) ?_
 rotate_left
 ·have e34:=tr_ (hA.tq 2 34) (hA.fq 2)
  (try simp (disch:=decide) only [R7.mi] at e34)
  have hBq:wr.heap[kg]?=_:=(hA.bl _ hlt_g (fun q h=>absurd h (Nat.not_lt_zero _))).trans HBg.out;obtain⟨q0,q1,q2,q3⟩:=cl4 hBq;clear hBq;clear hA;go_simp<;>(try with_reducible rfl)
 refine R7.cd ?_ (fun T xs wr hA=>?_) ?_
 rotate_left
 ·have e3:=hA.pq 3;simp only[gsa,gsc,gsz] at e3;clear hA;go_simp<;>(try with_reducible rfl)
 refine R7.cd ?_ (fun T xs wr hA=>?_) ?_
 rotate_left
 ·have e36:=tr_ (hA.tq 4 36) (hA.fq 4)
  (try simp (disch:=decide) only [R7.mi] at e36)
  have hBq:wr.heap[ke]?=_:=(hA.bl _ hlt_e (fun q h=>absurd h (Nat.not_lt_zero _))).trans HBe.out;obtain⟨q0,q1,q2,q3,q4,q5,q6,q7⟩:=cl8 hBq;clear hBq;clear hA;go_simp<;>(try with_reducible rfl)
 refine R7.Chain.call (fun xs v w=>v=.tuple #[iv ((sc nm).getD 0),.bool (sc nm).isSome]) (fun _ _ _ _ h _=>h) (fun _ _ _ _ _ h _ _=>h) (by rfl) (fun T xs wr hA=>?_) ?_
 ·have hsw:=(hA.be 0 (Nat.zero_le _) (fun _ _=>Nat.zero_le _)).size;have e35:=tr_ (hA.tq 3 35) (hA.fq 3);have e37:=tr_ (hA.tq 5 37) (hA.fq 5)
  (try simp (disch:=decide) only [R7.mi] at e35 e37)
  have hbw:=undrew (hA.be w5.heap.size (Nat.le_refl _) (fun q h=>absurd h (Nat.not_lt_zero _)));have hlk:=(HC.out.sm.keep (hbw.block _ HC.out.sm.lt)).look_ok Tryz.underlying9 Tryz.underlying85 (zeroB wr) (s:=nm) (nm_ok HNM.out);rw[scV_get,scV_some] at hlk;unfold bsv at hlk;clear hbw;clear hA;refine⟨(by rfl),fun K hK=>?_⟩;go_simp
  exact hK.out _ _ rfl (Below.refl _ _)
 refine R7.cd ?_ (fun T xs wr hA=>?_) ?_
 rotate_left
 ·have e38:=hA.tm 6 38 (by rfl) (by rfl);have f38:xs 6=(.tuple #[iv ((sc nm).getD 0),.bool (sc nm).isSome]):=hA.fa 6 (by rfl);rw[f38] at e38;clear f38;clear hA;go_simp<;>(try with_reducible rfl)
 refine R7.cd ?_ (fun T xs wr hA=>?_) ?_
 rotate_left
 ·have e31:=tr_ (hA.tq 7 31) (hA.fq 7)
  (try simp (disch:=decide) only [R7.mi] at e31)
  clear hA;go_simp<;>(try with_reducible rfl)
 refine R7.cd ?_ (fun T xs wr hA=>?_) ?_
 rotate_left
 ·have e31:=tr_ (hA.tq 7 31) (hA.fq 7)
  (try simp (disch:=decide) only [R7.mi] at e31)
  clear hA;go_simp<;>(try with_reducible rfl)
 refine R7.cd ?_ (fun T xs wr hA=>?_) ?_
 rotate_left
 ·have e39:=tr_ (hA.tq 8 39) (hA.fq 8)
  (try simp (disch:=decide) only [R7.mi] at e39)
  clear hA;go_simp<;>(try with_reducible rfl)
 refine R7.cd ?_ (fun T xs wr hA=>?_) ?_
 rotate_left
 ·have e40:=tr_ (hA.tq 9 40) (hA.fq 9)
  (try simp (disch:=decide) only [R7.mi] at e40)
  clear hA;go_simp<;>(try with_reducible rfl)
 refine R7.Chain.done (fun xs w6 hL=>?_);obtain⟨⟨hbe,hbl⟩,hf,-,-⟩:=hL;have f0:xs 0=_:=hf 0 (by decide);have f1:xs 1=_:=hf 1 (by decide);have f2:xs 2=_:=hf 2 (by decide);have f3:xs 3=_:=hf 3 (by decide);have f4:xs 4=_:=hf 4 (by decide);have f5:xs 5=_:=hf 5 (by decide);have f6:xs 6=(.tuple #[iv ((sc nm).getD 0),.bool (sc nm).isSome]):=hf 6 (by decide);have f7:xs 7=_:=hf 7 (by decide);have f8:xs 8=_:=hf 8 (by decide);have f9:xs 9=_:=hf 9 (by decide);have f10:xs 10=_:=hf 10 (by decide);have f11:xs 11=_:=hf 11 (by decide)
 (try simp (disch:=decide) only [R7.mi] at f0 f1 f2 f3 f4 f5 f7 f8 f9 f10 f11)
 have hb:Below w5.heap.size w5 w6:=R7.b0_ hbe;clear hbe hbl hf;refine R7.rest_done ?_;simp only[R7.fill,t5_,t6_,t7_,f0,f1,f2,f3,f4,f5,f6,f7,f8,f9,f10,f11];clear hlt_g hlt_e f0 f1 f2 f3 f4 f5 f6 f7 f8 f9 f10 f11;replace HBg:=kB hb HBg;replace HBe:=kB hb HBe;replace HC:=h_ (HC.out.below hb);replace HF:=fb_ HF hb;clear hb;go_upto_region 5 with fail
 have hlt_g:=lt_of_block HBg.out;have hlt_e:=lt_of_block HBe.out;refine R7.r0 [[],[0],[0,1],[0,1,2],[],[4],[0,1,2,3,4,5],[0,1,2,3,4,5,6],[0,1,2,3,4,5,6,7],[0,1,2,3,4,5,6,7],[0,1,2,3,4,5,6,7,8],[0,1,2,3,4,5,6,7,8,9,10]] 12 ?_;refine R7.cd ?_ (fun T xs wr hA=>?_) ?_
 rotate_left
 ·have e0:=hA.pq 0;simp only[gsa,gsz] at e0;clear hA;go_simp<;>(try with_reducible rfl)
 refine R7.cd ?_ (fun T xs wr hA=>?_) ?_
 rotate_left
 ·have e42:=tr_ (hA.tq 0 42) (hA.fq 0)
  (try simp (disch:=decide) only [R7.mi] at e42)
  clear hA;go_simp<;>(try with_reducible rfl)
 refine R7.cd ?_ (fun T xs wr hA=>?_) ?_
 rotate_left
 ·have e43:=tr_ (hA.tq 1 43) (hA.fq 1)
  (try simp (disch:=decide) only [R7.mi] at e43)
  clear hA;go_simp<;>(try with_reducible rfl)
 refine R7.cd ?_ (fun T xs wr hA=>?_) ?_
 rotate_left
 ·have e44:=tr_ (hA.tq 2 44) (hA.fq 2)
  (try simp (disch:=decide) only [R7.mi] at e44)
  have hBq:wr.heap[kg]?=_:=(hA.bl _ hlt_g (fun q h=>absurd h (Nat.not_lt_zero _))).trans HBg.out;obtain⟨q0,q1,q2,q3⟩:=cl4 hBq;clear hBq;clear hA;go_simp<;>(try with_reducible rfl)
 refine R7.cd ?_ (fun T xs wr hA=>?_) ?_
 rotate_left
 ·have e3:=hA.pq 3;simp only[gsa,gsc,gsz] at e3;clear hA;go_simp<;>(try with_reducible rfl)
 refine R7.cd ?_ (fun T xs wr hA=>?_) ?_
 rotate_left
 ·have e46:=tr_ (hA.tq 4 46) (hA.fq 4)
  (try simp (disch:=decide) only [R7.mi] at e46)
  have hBq:wr.heap[ke]?=_:=(hA.bl _ hlt_e (fun q h=>absurd h (Nat.not_lt_zero _))).trans HBe.out;obtain⟨q0,q1,q2,q3,q4,q5,q6,q7⟩:=cl8 hBq;clear hBq;clear hA;go_simp<;>(try with_reducible rfl)
 refine R7.Chain.call (fun xs v w=>v=.tuple #[iv ((sc ot).getD 0),.bool (sc ot).isSome]) (fun _ _ _ _ h _=>h) (fun _ _ _ _ _ h _ _=>h) (by rfl) (fun T xs wr hA=>?_) ?_
 ·have hsw:=(hA.be 0 (Nat.zero_le _) (fun _ _=>Nat.zero_le _)).size;have e45:=tr_ (hA.tq 3 45) (hA.fq 3);have e47:=tr_ (hA.tq 5 47) (hA.fq 5)
  (try simp (disch:=decide) only [R7.mi] at e45 e47)
  have hbw:=undrew (hA.be w6.heap.size (Nat.le_refl _) (fun q h=>absurd h (Nat.not_lt_zero _)));have hlk:=(HC.out.sm.keep (hbw.block _ HC.out.sm.lt)).look_ok Tryz.underlying9 Tryz.underlying85 (zeroB wr) (s:=ot) (nm_ok HOT.out);rw[scV_get,scV_some] at hlk;unfold bsv at hlk;clear hbw;clear hA;refine⟨(by rfl),fun K hK=>?_⟩;go_simp
  exact hK.out _ _ rfl (Below.refl _ _)
 refine R7.cd ?_ (fun T xs wr hA=>?_) ?_
 rotate_left
 ·have e48:=hA.tm 6 48 (by rfl) (by rfl);have f48:xs 6=(.tuple #[iv ((sc ot).getD 0),.bool (sc ot).isSome]):=hA.fa 6 (by rfl);rw[f48] at e48;clear f48;clear hA;go_simp<;>(try with_reducible rfl)
 refine R7.cd ?_ (fun T xs wr hA=>?_) ?_
 rotate_left
 ·have e41:=tr_ (hA.tq 7 41) (hA.fq 7)
  (try simp (disch:=decide) only [R7.mi] at e41)
  clear hA;go_simp<;>(try with_reducible rfl)
 refine R7.cd ?_ (fun T xs wr hA=>?_) ?_
 rotate_left
 ·have e41:=tr_ (hA.tq 7 41) (hA.fq 7)
  (try simp (disch:=decide) only [R7.mi] at e41)
  clear hA;go_simp<;>(try with_reducible rfl)
 refine R7.cd ?_ (fun T xs wr hA=>?_) ?_
 rotate_left
 ·have e49:=tr_ (hA.tq 8 49) (hA.fq 8)
  (try simp (disch:=decide) only [R7.mi] at e49)
  clear hA;go_simp<;>(try with_reducible rfl)
 refine R7.cd ?_ (fun T xs wr hA=>?_) ?_
 rotate_left
 ·have e50:=tr_ (hA.tq 9 50) (hA.fq 9)
  (try simp (disch:=decide) only [R7.mi] at e50)
  clear hA;go_simp<;>(try with_reducible rfl)
 refine R7.Chain.done (fun xs w7 hL=>?_);obtain⟨⟨hbe,hbl⟩,hf,-,-⟩:=hL;have f0:xs 0=_:=hf 0 (by decide);have f1:xs 1=_:=hf 1 (by decide);have f2:xs 2=_:=hf 2 (by decide);have f3:xs 3=_:=hf 3 (by decide);have f4:xs 4=_:=hf 4 (by decide);have f5:xs 5=_:=hf 5 (by decide);have f6:xs 6=(.tuple #[iv ((sc ot).getD 0),.bool (sc ot).isSome]):=hf 6 (by decide);have f7:xs 7=_:=hf 7 (by decide);have f8:xs 8=_:=hf 8 (by decide);have f9:xs 9=_:=hf 9 (by decide);have f10:xs 10=_:=hf 10 (by decide);have f11:xs 11=_:=hf 11 (by decide)
 (try simp (disch:=decide) only [R7.mi] at f0 f1 f2 f3 f4 f5 f7 f8 f9 f10 f11)
 have hb:Below w6.heap.size w6 w7:=R7.b0_ hbe;clear hbe hbl hf;refine R7.rest_done ?_;simp only[R7.fill,t5_,t6_,t7_,f0,f1,f2,f3,f4,f5,f6,f7,f8,f9,f10,f11];clear hlt_g hlt_e f0 f1 f2 f3 f4 f5 f6 f7 f8 f9 f10 f11;replace HBg:=kB hb HBg;replace HBe:=kB hb HBe;replace HC:=h_ (HC.out.below hb);replace HF:=fb_ HF hb;clear hb
 cases h1:sc nm
 rotate_left 1
 focus
  have b7:(sc nm).isSome=true:=by rw[h1];rfl
  have H1:=h_ h1;clear h1;go_upto_region 6 with fail
  obtain⟨c0,c1,c2,c3,c4,c5,c6,c7⟩:=cl8 HBe.out;go_wp2_with fail
  clear b7;refine (need_p HC.out ⟨(k:Nat),⟨nm.toArray⟩,⟨ot.toArray⟩,false,xao,xn,xq,some a,ks.length,xkc,(ln:Nat),(cl:Nat)⟩ ln cl rfl rfl (false) 3).mono ?_;rintro e w8 ⟨rfl,⟨ev,hC⟩,hF⟩;clear c0 c1 c2 c3 c4 c5 c6 c7;replace HBe:=kF hF HBe;replace HF:=h_ (HF.out.trans hF);replace HC:=h_ hC;replace HBg:=h_ hC.blk;clear hC hF;have hcc:false=((sc nm).isNone && (sc ot).isNone && nm != ot):=by rw[H1.out];rfl
  rw[hcc] at HC;clear hcc
 rotate_left 1
 cases h2:sc ot
 rotate_left 1
 focus
  have b7:(sc nm).isSome=false:=by rw[h1];rfl
  have b9:(sc ot).isSome=true:=by rw[h2];rfl
  have H1:=h_ h1;have H2:=h_ h2;clear h1 h2;go_upto_region 6 with fail
  obtain⟨c0,c1,c2,c3,c4,c5,c6,c7⟩:=cl8 HBe.out;go_wp2_with fail
  clear b7 b9;refine (need_p HC.out ⟨(k:Nat),⟨nm.toArray⟩,⟨ot.toArray⟩,false,xao,xn,xq,some a,ks.length,xkc,(ln:Nat),(cl:Nat)⟩ ln cl rfl rfl (false) 3).mono ?_;rintro e w8 ⟨rfl,⟨ev,hC⟩,hF⟩;clear c0 c1 c2 c3 c4 c5 c6 c7;replace HBe:=kF hF HBe;replace HF:=h_ (HF.out.trans hF);replace HC:=h_ hC;replace HBg:=h_ hC.blk;clear hC hF;have hcc:false=((sc nm).isNone && (sc ot).isNone && nm != ot):=by rw[H1.out,H2.out];rfl
  rw[hcc] at HC;clear hcc
 rotate_left 2
 focus
  have b7:(sc nm).isSome=false:=by rw[h1];rfl
  have b9:(sc ot).isSome=false:=by rw[h2];rfl
  have H1:=h_ h1;have H2:=h_ h2;clear h1 h2;go_upto_region 6 with fail
  obtain⟨c0,c1,c2,c3,c4,c5,c6,c7⟩:=cl8 HBe.out;go_wp2_with fail
  clear b7 b9;refine (need_p HC.out ⟨(k:Nat),⟨nm.toArray⟩,⟨ot.toArray⟩,false,xao,xn,xq,some a,ks.length,xkc,(ln:Nat),(cl:Nat)⟩ ln cl rfl rfl ((!(nm==ot))) 3).mono ?_;rintro e w8 ⟨rfl,⟨ev,hC⟩,hF⟩;clear c0 c1 c2 c3 c4 c5 c6 c7;replace HBe:=kF hF HBe;replace HF:=h_ (HF.out.trans hF);replace HC:=h_ hC;replace HBg:=h_ hC.blk;clear hC hF;have hcc:(!(nm==ot))=((sc nm).isNone && (sc ot).isNone && nm != ot):=by rw[H1.out,H2.out];rfl
  rw[hcc] at HC;clear hcc
 all_goals (
  skip
  obtain⟨sB,hsB⟩:∃ x:Ks,x=Ks.need ⟨sc,er⟩ ln cl ((sc nm).isNone && (sc ot).isNone && nm != ot) 3:=⟨_,rfl⟩
  rw[<-hsB] at HC;have HSB:=h_ hsB;clear hsB;have HDB:Hid (Dom sB.sc n):=h_ (by rw[HSB.out,need_sc];exact HDA.out);go_upto_region 7 with fail
  obtain⟨y1,⟨a1,ha,hy⟩,hU⟩:=HK.out 1 (by rw[HL.out];decide);obtain rfl:a=a1:=by injection ha
  clear ha;have hbw0:=HC.out.bw;obtain⟨z0,z1,z2,z3,z4,z5,z6,z7⟩:=cells8 (w:=w8) (p:=⟨a.block,a.off+8,none⟩) (y:=y1) (fun q v hv=>by have:=hy q v hv;rw[show (⟨a.block,a.off+8,none⟩:Addr).add q=(a.add ((0+1)*8)).add q from rfl,hbw0.cell (cell_lt this)];exact this);have HU:=h_ hU;clear hy hU hbw0;obtain⟨c0,c1,c2,c3,c4,c5,c6,c7⟩:=cl8 HBe.out;have hI:(1:Int)<((ks.length:Nat):Int):=by rw[HL.out];decide
  go_wp2_with fail
  refine (HKB.out 1 (by rw[HL.out];decide) y1 S w8 kg bf bs sB ev n HU.out (HKS.out 1 (by rw[HL.out];decide)) HC.out HDB.out (by have:=ud_kid (ks:=ks) (j:=1) (by rw[HL.out];decide);have:=HNN.out;omega)).mono ?_;rintro e w9 ⟨rfl,⟨ev,hC⟩,hF⟩;clear c0 c1 c2 c3 c4 c5 c6 c7 z0 z1 z2 z3 z4 z5 z6 z7 hI;replace HBe:=kF hF HBe;replace HF:=h_ (HF.out.trans hF);replace HC:=h_ hC;replace HBg:=h_ hC.blk;clear hC hF;obtain⟨b1,hbb⟩:∃ x,x=(kEx F rf (ks[1]'(by rw[HL.out];decide)) sB).1:=⟨_,rfl⟩
  obtain⟨s1,hss⟩:∃ x,x=(kEx F rf (ks[1]'(by rw[HL.out];decide)) sB).2:=⟨_,rfl⟩
  rw[<-hbb];rw[<-hss] at HC;have HBB1:=h_ hbb;have HSS1:=h_ hss;clear hbb hss;clear HU;have HD1:Hid (Dom s1.sc n):=h_ (HDB.out.sub (by rw[HSS1.out];exact kdm_b F rf _ sB));go_upto_region 8 with fail
  have hnm1:n+1<maxLen:=Nat.lt_of_le_of_lt (by have:=HNN.out;omega) big_ok;have hnm0:n<maxLen:=by omega
  obtain⟨w8a,v8,st8,r8,hg8,hst8⟩:=(HC.out.sm.keep (w':=w9.drew) rfl).entry (t:=85) (e:=39) Tryz.underlying9 Tryz.underlying85 (domV HD1.out) hnm0 (s:=nm) (nm_ok HNM.out) (fun w=>zeroB w);obtain⟨w8b,r8b,hm8,hg8b⟩:=hst8 w8a (iv 0) rfl;rw[<-scV_put] at hm8;clear hst8;obtain⟨w8c,v9,st9,r9,hg9,hst9⟩:=hm8.entry (t:=85) (e:=39) Tryz.underlying9 Tryz.underlying85 (domV (HD1.out.put nm 0)) hnm1 (s:=ot) (nm_ok HOT.out) (fun w=>zeroB w);obtain⟨w8d,r9b,hm9,hg9b⟩:=hst9 w8c (iv 2) rfl;rw[<-scV_put] at hm9;clear hst9;unfold bsv at r8 r9;have r8b:(Instr.entryStore 85 (.map (some bs)) (.int .i64 st8) (.int .i64 0)).run Tryz.prog w8a=.ok () w8b:=r8b;have r9b:(Instr.entryStore 85 (.map (some bs)) (.int .i64 st9) (.int .i64 2)).run Tryz.prog w8c=.ok () w8d:=r9b
  have hg:w9.grownBy w8d (some bs):=by have hq:=grown_tr (grown_tr (grown_tr hg8 hg8b) hg9) hg9b;exact⟨hq.os,hq.tape,hq.output,hq.size,hq.block⟩
  have HBg0:Hid (w9.drew.heap[kg]?=_):=h_ HBg.out;have HBe0:Hid (w9.drew.heap[ke]?=_):=h_ HBe.out;have HBga:=kG hg8 HBg0 HGS.out;have HBgb:=kG hg8b HBga HGS.out;have HBea:=kG hg8 HBe0;have HBeb:=kG hg8b HBea;have HRR:=h_ (And.intro r8 (And.intro r8b (And.intro r9 r9b)));clear r8 r8b r9 r9b;obtain⟨val,hval⟩:∃ v:Nat->Value,v=fun j=>match j with | 0=>.pointer (some ⟨kg,0,none⟩) | 1=>.pointer (some ⟨kg,0,none⟩) | 2=>.pointer (some ⟨kg,1,none⟩) | 3=>.map (some bs) | 4=>.pointer (some ⟨ke,1,none⟩) | 5=>.string ⟨nm.toArray⟩ | 6=>.pointer (some ⟨kg,0,none⟩) | 7=>.pointer (some ⟨kg,0,none⟩) | 8=>.pointer (some ⟨kg,1,none⟩) | 9=>.map (some bs) | 10=>.pointer (some ⟨ke,2,none⟩) | 11=>.string ⟨ot.toArray⟩ | 12=>.tuple #[v8,.int .i64 st8] | 13=>.int .i64 st8 | _=>undef:=⟨_,rfl⟩
  have f0:val 0=.pointer (some ⟨kg,0,none⟩):=congrFun hval 0;have f1:val 1=.pointer (some ⟨kg,0,none⟩):=congrFun hval 1;have f2:val 2=.pointer (some ⟨kg,1,none⟩):=congrFun hval 2;have f3:val 3=.map (some bs):=congrFun hval 3;have f4:val 4=.pointer (some ⟨ke,1,none⟩):=congrFun hval 4;have f5:val 5=.string ⟨nm.toArray⟩:=congrFun hval 5;have f6:val 6=.pointer (some ⟨kg,0,none⟩):=congrFun hval 6;have f7:val 7=.pointer (some ⟨kg,0,none⟩):=congrFun hval 7;have f8:val 8=.pointer (some ⟨kg,1,none⟩):=congrFun hval 8;have f9:val 9=.map (some bs):=congrFun hval 9;have f10:val 10=.pointer (some ⟨ke,2,none⟩):=congrFun hval 10;have f11:val 11=.string ⟨ot.toArray⟩:=congrFun hval 11;have f12:val 12=.tuple #[v8,.int .i64 st8]:=congrFun hval 12;have f13:val 13=.int .i64 st8:=congrFun hval 13
  have f14:val 14=undef:=congrFun hval 14;clear hval;obtain⟨Wd,hWd⟩:∃ f:Nat->World->Prop,f=fun s wc=>(s=0/\wc=w9.drew)\/(s=1/\wc=w8a)\/(s=2/\wc=w8b):=⟨_,rfl⟩
  have HWD0:Wd 0 w9.drew:=by rw[hWd];exact .inl ⟨rfl,rfl⟩
  have HWD1:Wd 1 w8a:=by rw[hWd];exact .inr (.inl ⟨rfl,rfl⟩)
  have HWD2:Wd 2 w8b:=by rw[hWd];exact .inr (.inr ⟨rfl,rfl⟩)
  have HWE0:∀ wc,Wd 0 wc->wc=w9.drew:=by rw[hWd];intro wc h;rcases h with ⟨_,h⟩ | ⟨h,_⟩ | ⟨h,_⟩<;>first | exact h | cases h
  have HWE1:∀ wc,Wd 1 wc->wc=w8a:=by rw[hWd];intro wc h;rcases h with ⟨h,_⟩ | ⟨_,h⟩ | ⟨h,_⟩<;>first | exact h | cases h
  have HWE2:∀ wc,Wd 2 wc->wc=w8b:=by rw[hWd];intro wc h;rcases h with ⟨h,_⟩ | ⟨h,_⟩ | ⟨_,h⟩<;>first | exact h | cases h
  have HBL:∀ s wc,Wd s wc->wc.heap[kg]?=some (.cells #[.map (some bf),.map (some bs),.bool rf,ev] 87 (0,0))/\wc.heap[ke]?=some (.cells #[.int .i64 (k:Nat),.string ⟨nm.toArray⟩,.string ⟨ot.toArray⟩,.bool false,.slice xao xn xq,.slice (some a) ks.length xkc,.int .i64 (ln:Nat),.int .i64 (cl:Nat)] 46 (0,0)):=by
   rw[hWd];intro s wc h;rcases h with ⟨_,rfl⟩ | ⟨_,rfl⟩ | ⟨_,rfl⟩
   ·exact⟨HBg0.out,HBe0.out⟩
   ·exact⟨HBga.out,HBea.out⟩
   exact⟨HBgb.out,HBeb.out⟩
  clear hWd;have HBLh:=h_ HBL;have HWEh:=h_ (And.intro HWE0 (And.intro HWE1 HWE2));have HWDh:=h_ (And.intro HWD0 (And.intro HWD1 HWD2));clear HBL HWE0 HWE1 HWE2 HWD0 HWD1 HWD2 HBg0 HBe0 HBga HBea HBgb HBeb;refine Rel11.region (by kernel_rfl) [[],[0],[0,1],[0,1,2],[],[4],[],[6],[6,7],[6,7,8],[],[10],[0,1,2,3,4,5,6,7,8,9],[0,1,2,3,4,5,6,7,8,9,12],[0,1,2,3,4,5,6,7,8,9,12,13],[0,1,2,3,4,5,6,7,8,9,10,11,12,13,14],[0,1,2,3,4,5,6,7,8,9,10,11,12,13,14,15],[0,1,2,3,4,5,6,7,8,9,10,11,12,13,14,15,16]] 15 (by kernel_rfl) (by kernel_rfl) [12,14] (by kernel_rfl) val Wd HWDh.out.1 ?_ ?_ ?_
  ·intro j o ho hj hcs;have HHJ:=hcs
   match j,hj,ho,hcs with
   | 0,_,ho,_ =>
    simp only[gsz,gsc,Option.some.injEq] at ho;subst ho;refine⟨rfl,fun s wc T hW hT K hK=>?_⟩;obtain⟨hG,hE⟩:=HBLh.out s wc hW;have e0:=hT.pre 0 (by kernel_rfl);simp only[gsa,gsz] at e0;clear hG hE hT hW;refine wp_val (w':=wc) (v:=.pointer (some ⟨kg,0,none⟩)) ?_ (by rw[<-f0];exact hK.out);clear hK;go_simp<;>(try with_reducible rfl)
   | 1,_,ho,_ =>
    simp only[gsz,gsc,Option.some.injEq] at ho;subst ho;refine⟨rfl,fun s wc T hW hT K hK=>?_⟩;obtain⟨hG,hE⟩:=HBLh.out s wc hW;have e73:=hT.tm 0 73 (by rfl) (by rfl);rw[f0] at e73;clear hG hE hT hW;refine wp_val (w':=wc) (v:=.pointer (some ⟨kg,0,none⟩)) ?_ (by rw[<-f1];exact hK.out);clear hK;go_simp<;>(try with_reducible rfl)
   | 2,_,ho,_ =>
    simp only[gsz,gsc,Option.some.injEq] at ho;subst ho;refine⟨rfl,fun s wc T hW hT K hK=>?_⟩;obtain⟨hG,hE⟩:=HBLh.out s wc hW;have e74:=hT.tm 1 74 (by rfl) (by rfl);rw[f1] at e74;clear hG hE hT hW;refine wp_val (w':=wc) (v:=.pointer (some ⟨kg,1,none⟩)) ?_ (by rw[<-f2];exact hK.out);clear hK;go_simp<;>(try with_reducible rfl)
   | 3,_,ho,_ =>
    simp only[gsz,gsc,Option.some.injEq] at ho;subst ho;refine⟨rfl,fun s wc T hW hT K hK=>?_⟩;obtain⟨hG,hE⟩:=HBLh.out s wc hW;have e75:=hT.tm 2 75 (by rfl) (by rfl);rw[f2] at e75;have q0:=cell_at (v:=.map (some bf)) hG 0 rfl;have q1:=cell_at (v:=.map (some bs)) hG 1 rfl;have q2:=cell_at (v:=.bool rf) hG 2 rfl;have q3:=cell_at (v:=ev) hG 3 rfl;clear hG hE hT hW;refine wp_val (w':=wc) (v:=.map (some bs)) ?_ (by rw[<-f3];exact hK.out);clear hK;go_simp<;>(try with_reducible rfl)
   | 4,_,ho,_ =>
    simp only[gsz,gsc,Option.some.injEq] at ho;subst ho;refine⟨rfl,fun s wc T hW hT K hK=>?_⟩;obtain⟨hG,hE⟩:=HBLh.out s wc hW;have e3:=hT.pre 3 (by kernel_rfl);simp only[gsa,gsc,gsz] at e3;clear hG hE hT hW;refine wp_val (w':=wc) (v:=.pointer (some ⟨ke,1,none⟩)) ?_ (by rw[<-f4];exact hK.out);clear hK;go_simp<;>(try with_reducible rfl)
   | 5,_,ho,_ =>
    simp only[gsz,gsc,Option.some.injEq] at ho;subst ho;refine⟨rfl,fun s wc T hW hT K hK=>?_⟩;obtain⟨hG,hE⟩:=HBLh.out s wc hW;have e77:=hT.tm 4 77 (by rfl) (by rfl);rw[f4] at e77;have q0:=cell_at (v:=.int .i64 (k:Nat)) hE 0 rfl;have q1:=cell_at (v:=.string ⟨nm.toArray⟩) hE 1 rfl;have q2:=cell_at (v:=.string ⟨ot.toArray⟩) hE 2 rfl;have q3:=cell_at (v:=.bool false) hE 3 rfl;have q4:=cell_at (v:=.slice xao xn xq) hE 4 rfl;have q5:=cell_at (v:=.slice (some a) ks.length xkc) hE 5 rfl;have q6:=cell_at (v:=.int .i64 (ln:Nat)) hE 6 rfl;have q7:=cell_at (v:=.int .i64 (cl:Nat)) hE 7 rfl;clear hG hE hT hW;refine wp_val (w':=wc) (v:=.string ⟨nm.toArray⟩) ?_ (by rw[<-f5];exact hK.out);clear hK;go_simp<;>(try with_reducible rfl)
   | 6,_,ho,_ =>
    simp only[gsz,gsc,Option.some.injEq] at ho;subst ho;refine⟨rfl,fun s wc T hW hT K hK=>?_⟩;obtain⟨hG,hE⟩:=HBLh.out s wc hW;have e0:=hT.pre 0 (by kernel_rfl);simp only[gsa,gsz] at e0;clear hG hE hT hW;refine wp_val (w':=wc) (v:=.pointer (some ⟨kg,0,none⟩)) ?_ (by rw[<-f6];exact hK.out);clear hK;go_simp<;>(try with_reducible rfl)
   | 7,_,ho,_ =>
    simp only[gsz,gsc,Option.some.injEq] at ho;subst ho;refine⟨rfl,fun s wc T hW hT K hK=>?_⟩;obtain⟨hG,hE⟩:=HBLh.out s wc hW;have e79:=hT.tm 6 79 (by rfl) (by rfl);rw[f6] at e79;clear hG hE hT hW;refine wp_val (w':=wc) (v:=.pointer (some ⟨kg,0,none⟩)) ?_ (by rw[<-f7];exact hK.out);clear hK;go_simp<;>(try with_reducible rfl)
   | 8,_,ho,_ =>
    simp only[gsz,gsc,Option.some.injEq] at ho;subst ho;refine⟨rfl,fun s wc T hW hT K hK=>?_⟩;obtain⟨hG,hE⟩:=HBLh.out s wc hW;have e80:=hT.tm 7 80 (by rfl) (by rfl);rw[f7] at e80;clear hG hE hT hW;refine wp_val (w':=wc) (v:=.pointer (some ⟨kg,1,none⟩)) ?_ (by rw[<-f8];exact hK.out);clear hK;go_simp<;>(try with_reducible rfl)
   | 9,_,ho,_ =>
    simp only[gsz,gsc,Option.some.injEq] at ho;subst ho;refine⟨rfl,fun s wc T hW hT K hK=>?_⟩;obtain⟨hG,hE⟩:=HBLh.out s wc hW;have e81:=hT.tm 8 81 (by rfl) (by rfl);rw[f8] at e81;have q0:=cell_at (v:=.map (some bf)) hG 0 rfl;have q1:=cell_at (v:=.map (some bs)) hG 1 rfl;have q2:=cell_at (v:=.bool rf) hG 2 rfl;have q3:=cell_at (v:=ev) hG 3 rfl;clear hG hE hT hW;refine wp_val (w':=wc) (v:=.map (some bs)) ?_ (by rw[<-f9];exact hK.out);clear hK;go_simp<;>(try with_reducible rfl)
   | 10,_,ho,_ =>
    simp only[gsz,gsc,Option.some.injEq] at ho;subst ho;refine⟨rfl,fun s wc T hW hT K hK=>?_⟩;obtain⟨hG,hE⟩:=HBLh.out s wc hW;have e3:=hT.pre 3 (by kernel_rfl);simp only[gsa,gsc,gsz] at e3;clear hG hE hT hW;refine wp_val (w':=wc) (v:=.pointer (some ⟨ke,2,none⟩)) ?_ (by rw[<-f10];exact hK.out);clear hK;go_simp<;>(try with_reducible rfl)
   | 11,_,ho,_ =>
    simp only[gsz,gsc,Option.some.injEq] at ho;subst ho;refine⟨rfl,fun s wc T hW hT K hK=>?_⟩;obtain⟨hG,hE⟩:=HBLh.out s wc hW;have e83:=hT.tm 10 83 (by rfl) (by rfl);rw[f10] at e83;have q0:=cell_at (v:=.int .i64 (k:Nat)) hE 0 rfl;have q1:=cell_at (v:=.string ⟨nm.toArray⟩) hE 1 rfl;have q2:=cell_at (v:=.string ⟨ot.toArray⟩) hE 2 rfl;have q3:=cell_at (v:=.bool false) hE 3 rfl;have q4:=cell_at (v:=.slice xao xn xq) hE 4 rfl;have q5:=cell_at (v:=.slice (some a) ks.length xkc) hE 5 rfl;have q6:=cell_at (v:=.int .i64 (ln:Nat)) hE 6 rfl;have q7:=cell_at (v:=.int .i64 (cl:Nat)) hE 7 rfl;clear hG hE hT hW;refine wp_val (w':=wc) (v:=.string ⟨ot.toArray⟩) ?_ (by rw[<-f11];exact hK.out);clear hK;go_simp<;>(try with_reducible rfl)
   | 12,_,_,hcs=>exact absurd hcs (by decide)
   | 13,_,ho,_ =>
    simp only[gsz,gsc,Option.some.injEq] at ho;subst ho;refine⟨rfl,fun s wc T hW hT K hK=>?_⟩;obtain⟨hG,hE⟩:=HBLh.out s wc hW;have e85:=hT.tm 12 85 (by rfl) (by rfl);rw[f12] at e85;clear hG hE hT hW;refine wp_val (w':=wc) (v:=.int .i64 st8) ?_ (by rw[<-f13];exact hK.out);clear hK;go_simp<;>(try with_reducible rfl)
   | 14,_,_,hcs=>exact absurd hcs (by decide)
   | j+15,hj,_,_=>exact absurd hj (by omega)
  ·intro i j o hi ho
   match i,hi with
   | 0,hi =>
    simp only[gsz,Option.some.injEq] at hi;subst hi;simp only[gsz,gsc,Option.some.injEq] at ho;subst ho;refine⟨rfl,fun wc T hW hT K hK=>?_⟩;obtain rfl:=HWEh.out.1 wc hW;have e76:=hT.tm 3 76 (by rfl) (by rfl);rw[f3] at e76;have e78:=hT.tm 5 78 (by rfl) (by rfl);rw[f5] at e78;refine wp_val (w':=w8a) (v:=.tuple #[v8,.int .i64 st8]) ?_ (by rw[<-f12];exact hK.out _ HWDh.out.2.1)
    simp[execOp,Act.eval,e76,e78,HRR.out.1,Result.andThen]
   | 1,hi =>
    simp only[gsz,gsc,Option.some.injEq] at hi;subst hi;simp only[gsz,gsc,Option.some.injEq] at ho;subst ho;refine⟨rfl,fun wc T hW hT K hK=>?_⟩;obtain rfl:=HWEh.out.2.1 wc hW;have e76:=hT.tm 3 76 (by rfl) (by rfl);rw[f3] at e76;have e86:=hT.tm 13 86 (by rfl) (by rfl);rw[f13] at e86;refine wp_skp (w':=w8b) ?_ (by rw[<-f14];exact hK.out _ HWDh.out.2.2);have r8b:=HRR.out.2.1
    simp[execOp,Act.eval,e76,e86,r8b,Result.andThen]
   | i+2,hi=>simp at hi
  intro w9 hW9;obtain rfl:=HWEh.out.2.2 w9 hW9;clear hW9 HBLh HWEh HWDh;simp only[R7.fill,t1_,t2_,t3_,t4_,t5_,t6_,t7_,f0,f1,f2,f3,f4,f5,f6,f7,f8,f9,f10,f11,f12,f13,f14];clear f0 f1 f2 f3 f4 f5 f6 f7 f8 f9 f10 f11 f12 f13 f14;obtain⟨r8,r8b,r9,r9b⟩:=HRR.out;clear HRR;refine wpList_plain rfl fun K hK=>wp_val (w':=w8c) (v:=.tuple #[v9,.int .i64 st9]) (by simp[execOp,Act.eval,r9,Result.andThen]) (hK _ _ ?_)
  clear hK;refine wpList_plain rfl fun K hK=>wp_val (w':=w8c) (v:=.int .i64 st9) (by simp[execOp,Act.eval,Act.put,Instr.extract,Result.andThen]) (hK _ _ ?_)
  clear hK;refine wpList_plain rfl fun K hK=>wp_skp (w':=w8d) (by simp[execOp,Act.eval,Act.put,r9b,Result.andThen]) (hK _ _ ?_)
  clear hK r8 r8b r9 r9b;replace HBg:=kG hg HBg HGS.out;replace HBe:=kG hg HBe;replace HF:=h_ (HF.out.trans (Fc.of_b hg kg));replace HC:=h_ (HC.out.turn hg hm9);clear hg hm8 hm9 hg8 hg8b hg9 hg9b hnm1 hnm0;obtain⟨sC,hsC⟩:∃ x:Ks,x=⟨(s1.sc.put nm 0).put ot 2,s1.er⟩:=⟨_,rfl⟩
  rw[<-hsC] at HC;have HSC:=h_ hsC;clear hsC;have HDC:Hid (Dom sC.sc (n+1+1)):=h_ (by rw[HSC.out];exact (HD1.out.put nm 0).put ot 2)
  skip
  go_upto_region 9 with fail
  obtain⟨y2,⟨a2,ha,hy⟩,hU⟩:=HK.out 2 (by rw[HL.out];decide);obtain rfl:a=a2:=by injection ha
  clear ha;have hbw0:=HC.out.bw;obtain⟨z0,z1,z2,z3,z4,z5,z6,z7⟩:=cells8 (w:=w8d) (p:=⟨a.block,a.off+16,none⟩) (y:=y2) (fun q v hv=>by have:=hy q v hv;rw[show (⟨a.block,a.off+16,none⟩:Addr).add q=(a.add ((0+2)*8)).add q from rfl,hbw0.cell (cell_lt this)];exact this);have HU:=h_ hU;clear hy hU hbw0;obtain⟨c0,c1,c2,c3,c4,c5,c6,c7⟩:=cl8 HBe.out;have hI:(2:Int)<((ks.length:Nat):Int):=by rw[HL.out];decide
  go_wp2_with fail
  refine (HKB.out 2 (by rw[HL.out];decide) y2 S w8d kg bf bs sC ev (n+1+1) HU.out (HKS.out 2 (by rw[HL.out];decide)) HC.out HDC.out (by have:=ud_kid (ks:=ks) (j:=2) (by rw[HL.out];decide);have:=HNN.out;omega)).mono ?_;rintro e w10 ⟨rfl,⟨ev,hC⟩,hF⟩;clear c0 c1 c2 c3 c4 c5 c6 c7 z0 z1 z2 z3 z4 z5 z6 z7 hI;replace HBe:=kF hF HBe;replace HF:=h_ (HF.out.trans hF);replace HC:=h_ hC;replace HBg:=h_ hC.blk;clear hC hF;obtain⟨b2,hbb⟩:∃ x,x=(kEx F rf (ks[2]'(by rw[HL.out];decide)) sC).1:=⟨_,rfl⟩
  obtain⟨s2,hss⟩:∃ x,x=(kEx F rf (ks[2]'(by rw[HL.out];decide)) sC).2:=⟨_,rfl⟩
  rw[<-hbb];rw[<-hss] at HC;have HBB2:=h_ hbb;have HSS2:=h_ hss;clear hbb hss;clear HU;go_upto_region 10 with fail
  have hlt_g:=lt_of_block HBg.out;have hlt_e:=lt_of_block HBe.out;refine R7.r0 [[],[0],[0,1],[0,1,2],[],[4],[0,1,2,3,4,5]] 6 ?_;refine R7.cd ?_ (fun T xs wr hA=>?_) ?_
  rotate_left
  ·have e0:=hA.pq 0;simp only[gsa,gsz] at e0;clear hA;go_simp<;>(try with_reducible rfl)
  refine R7.cd ?_ (fun T xs wr hA=>?_) ?_
  rotate_left
  ·have e95:=tr_ (hA.tq 0 95) (hA.fq 0)
   (try simp (disch:=decide) only [R7.mi] at e95)
   clear hA;go_simp<;>(try with_reducible rfl)
  refine R7.cd ?_ (fun T xs wr hA=>?_) ?_
  rotate_left
  ·have e96:=tr_ (hA.tq 1 96) (hA.fq 1)
   (try simp (disch:=decide) only [R7.mi] at e96)
   clear hA;go_simp<;>(try with_reducible rfl)
  refine R7.cd ?_ (fun T xs wr hA=>?_) ?_
  rotate_left
  ·have e97:=tr_ (hA.tq 2 97) (hA.fq 2)
   (try simp (disch:=decide) only [R7.mi] at e97)
   have hBq:wr.heap[kg]?=_:=(hA.bl _ hlt_g (fun q h=>absurd h (Nat.not_lt_zero _))).trans HBg.out;obtain⟨q0,q1,q2,q3⟩:=cl4 hBq;clear hBq;clear hA;go_simp<;>(try with_reducible rfl)
  refine R7.cd ?_ (fun T xs wr hA=>?_) ?_
  rotate_left
  ·have e3:=hA.pq 3;simp only[gsa,gsc,gsz] at e3;clear hA;go_simp<;>(try with_reducible rfl)
  refine R7.cd ?_ (fun T xs wr hA=>?_) ?_
  rotate_left
  ·have e99:=tr_ (hA.tq 4 99) (hA.fq 4)
   (try simp (disch:=decide) only [R7.mi] at e99)
   have hBq:wr.heap[ke]?=_:=(hA.bl _ hlt_e (fun q h=>absurd h (Nat.not_lt_zero _))).trans HBe.out;obtain⟨q0,q1,q2,q3,q4,q5,q6,q7⟩:=cl8 hBq;clear hBq;clear hA;go_simp<;>(try with_reducible rfl)
  refine R7.Chain.done (fun xs w11 hL=>?_);obtain⟨⟨hbe,hbl⟩,hf,-,-⟩:=hL;have f0:xs 0=_:=hf 0 (by decide);have f1:xs 1=_:=hf 1 (by decide);have f2:xs 2=_:=hf 2 (by decide);have f3:xs 3=_:=hf 3 (by decide);have f4:xs 4=_:=hf 4 (by decide);have f5:xs 5=_:=hf 5 (by decide)
  (try simp (disch:=decide) only [R7.mi] at f0 f1 f2 f3 f4 f5)
  have hb:Below w10.heap.size w10 w11:=R7.b0_ hbe;clear hbe hbl hf;refine R7.rest_list (by decide) (by kernel_rfl) ?_;simp only[R7.fill,t1_,t2_,t3_,t4_,t5_,t6_,t7_,f0,f1,f2,f3,f4,f5];clear hlt_g hlt_e f0 f1 f2 f3 f4 f5;replace HBg:=kB hb HBg;replace HBe:=kB hb HBe;replace HC:=h_ (HC.out.below hb);replace HF:=fb_ HF hb;clear hb;go_wp2_with (first | (at_delete;refine wp_drop _ rfl _ _ 85 9 rfl 39 Tryz.underlying9 Tryz.underlying85 bs (scV s2.sc) rfl HC.out.sm nm rfl (nm_ok HNM.out) ?_;intro wy hmz hgz) | fail)
  rw[<-scV_del] at hmz;replace HBg:=kG hgz HBg HGS.out;replace HBe:=kG hgz HBe;replace HF:=h_ (HF.out.trans (Fc.of_b hgz kg));replace HC:=h_ (HC.out.turn hgz hmz);clear hmz hgz;go_upto_region 11 with fail
  have hlt_g:=lt_of_block HBg.out;have hlt_e:=lt_of_block HBe.out;refine R7.r0 [[],[0],[0,1],[0,1,2],[],[4],[0,1,2,3,4,5]] 6 ?_;refine R7.cd ?_ (fun T xs wr hA=>?_) ?_
  rotate_left
  ·have e0:=hA.pq 0;simp only[gsa,gsz] at e0;clear hA;go_simp<;>(try with_reducible rfl)
  refine R7.cd ?_ (fun T xs wr hA=>?_) ?_
  rotate_left
  ·have e101:=tr_ (hA.tq 0 101) (hA.fq 0)
   (try simp (disch:=decide) only [R7.mi] at e101)
   clear hA;go_simp<;>(try with_reducible rfl)
  refine R7.cd ?_ (fun T xs wr hA=>?_) ?_
  rotate_left
  ·have e102:=tr_ (hA.tq 1 102) (hA.fq 1)
   (try simp (disch:=decide) only [R7.mi] at e102)
   clear hA;go_simp<;>(try with_reducible rfl)
  refine R7.cd ?_ (fun T xs wr hA=>?_) ?_
  rotate_left
  ·have e103:=tr_ (hA.tq 2 103) (hA.fq 2)
   (try simp (disch:=decide) only [R7.mi] at e103)
   have hBq:wr.heap[kg]?=_:=(hA.bl _ hlt_g (fun q h=>absurd h (Nat.not_lt_zero _))).trans HBg.out;obtain⟨q0,q1,q2,q3⟩:=cl4 hBq;clear hBq;clear hA;go_simp<;>(try with_reducible rfl)
  refine R7.cd ?_ (fun T xs wr hA=>?_) ?_
  rotate_left
  ·have e3:=hA.pq 3;simp only[gsa,gsc,gsz] at e3;clear hA;go_simp<;>(try with_reducible rfl)
  refine R7.cd ?_ (fun T xs wr hA=>?_) ?_
  rotate_left
  ·have e105:=tr_ (hA.tq 4 105) (hA.fq 4)
   (try simp (disch:=decide) only [R7.mi] at e105)
   have hBq:wr.heap[ke]?=_:=(hA.bl _ hlt_e (fun q h=>absurd h (Nat.not_lt_zero _))).trans HBe.out;obtain⟨q0,q1,q2,q3,q4,q5,q6,q7⟩:=cl8 hBq;clear hBq;clear hA;go_simp<;>(try with_reducible rfl)
  refine R7.Chain.done (fun xs w12 hL=>?_);obtain⟨⟨hbe,hbl⟩,hf,-,-⟩:=hL;have f0:xs 0=_:=hf 0 (by decide);have f1:xs 1=_:=hf 1 (by decide);have f2:xs 2=_:=hf 2 (by decide);have f3:xs 3=_:=hf 3 (by decide);have f4:xs 4=_:=hf 4 (by decide);have f5:xs 5=_:=hf 5 (by decide)
  (try simp (disch:=decide) only [R7.mi] at f0 f1 f2 f3 f4 f5)
  have hb:Below wy.heap.size wy w12:=R7.b0_ hbe;clear hbe hbl hf;refine R7.rest_list (by decide) (by kernel_rfl) ?_;simp only[R7.fill,t1_,t2_,t3_,t4_,t5_,t6_,t7_,f0,f1,f2,f3,f4,f5];clear hlt_g hlt_e f0 f1 f2 f3 f4 f5;replace HBg:=kB hb HBg;replace HBe:=kB hb HBe;replace HC:=h_ (HC.out.below hb);replace HF:=fb_ HF hb;clear hb;unfold iv
  go_wp2_with (first | (at_delete;refine wp_drop _ rfl _ _ 85 9 rfl 39 Tryz.underlying9 Tryz.underlying85 bs (scV (s2.sc.del nm)) rfl HC.out.sm ot rfl (nm_ok HOT.out) ?_;intro wz hmz hgz;have hqe:=kG hgz HBe;have c0:=cell_at (v:=.int .i64 (k:Nat)) hqe.out 0 rfl;have c1:=cell_at (v:=.string ⟨nm.toArray⟩) hqe.out 1 rfl;have c2:=cell_at (v:=.string ⟨ot.toArray⟩) hqe.out 2 rfl;have c3:=cell_at (v:=.bool false) hqe.out 3 rfl;have c4:=cell_at (v:=.slice xao xn xq) hqe.out 4 rfl;have c5:=cell_at (v:=.slice (some a) ks.length xkc) hqe.out 5 rfl;have c6:=cell_at (v:=.int .i64 (ln:Nat)) hqe.out 6 rfl;have c7:=cell_at (v:=.int .i64 (cl:Nat)) hqe.out 7 rfl) | fail)
  rw[<-scV_del] at hmz;replace HBg:=kG hgz HBg HGS.out;replace HBe:=kG hgz HBe;replace HF:=h_ (HF.out.trans (Fc.of_b hgz kg));replace HC:=h_ (HC.out.turn hgz hmz);clear hmz hgz;obtain⟨sE,hsE⟩:∃ x:Ks,x=⟨(s2.sc.del nm).del ot,s2.er⟩:=⟨_,rfl⟩
  rw[<-hsE] at HC;have HSE:=h_ hsE;clear hsE;refine (need_p HC.out ⟨(k:Nat),⟨nm.toArray⟩,⟨ot.toArray⟩,false,xao,xn,xq,some a,ks.length,xkc,(ln:Nat),(cl:Nat)⟩ ln cl rfl rfl (((b1:Nat):Int)==((b2:Nat):Int)) 4).mono ?_;rintro e w13 ⟨rfl,⟨ev,hC⟩,hF⟩;clear hqe c0 c1 c2 c3 c4 c5 c6 c7;replace HBe:=kF hF HBe;replace HF:=h_ (HF.out.trans hF);replace HC:=h_ hC;replace HBg:=h_ hC.blk;clear hC hF;have hbb:(((b1:Nat):Int)==((b2:Nat):Int))=(b1==b2):=by rw[Bool.eq_iff_iff,beq_iff_eq,beq_iff_eq];omega
  rw[hbb] at HC;go_wp2_with fail
  go_ret
  have e:kMatch rf nm ot ln cl (kExs F rf ks) s=(b1,sE.need ln cl (b1==b2) 4):=by
   have hA:(⟨sc,er⟩:Ks).need ln cl ((sc nm).isNone && (sc ot).isNone && nm != ot) 3=sB:=HSB.out.symm;unfold kMatch;simp only[HKF0.out,HKF1.out,HKF2.out,<-HBB0.out,<-HSS0.out,<-HSA.out];rw[hA];simp only[<-HBB1.out,<-HSS1.out,<-HSC.out,<-HBB2.out,<-HSS2.out,<-HSE.out]
  rw[e]
  exact⟨rfl,⟨ev,HC.out⟩,HF.out⟩)
theorem predicate_s {w0 w:World} {kg bf bs:Nat} {Gv:Bs->Option Value} {s:Ks} {rf:Bool} {ev:Value} (h:Ck w0 w kg bf bs Gv s rf ev) (x:X) (u:U) (S:Nat->Prop) (hu:Um w0 S x u) (hb:Bnd u) (F:Fs) (hK:BaseOk F Gv true w0 u) (n:Nat) (hd:Dom s.sc n) (hn:n+2*ud u<=1000000000000) (hA:ArT w0) :
  Calls Tryz.prog 87 #[.pointer (some ⟨kg,0,none⟩),xv x] w fun e w'=>e=.returned (.tuple #[])/\CkP w0 w kg bf bs Gv (kPred F u s) false w':=by
 have HU:=h_ hu;have HBU:=h_ hb;have HKB:=h_ hK;have HD:=h_ hd;have HNN:=h_ hn;have HA:=h_ hA;obtain⟨xk,xnm,xot,xb,xao,xn,xq,xko,xkn,xkc,xln,xcl⟩:=x
 have hl:xln=(u.ln:Nat)/\xcl=(u.cl:Nat):=by
  obtain⟨k,nm,ot,z,ln,cl,ks⟩:=u;rw[Um] at hu;obtain⟨⟨e1,e2,e3,e4,e5,e6⟩,_⟩:=hu;exact⟨e5,e6⟩
 have HLC:=h_ hl;clear hl hu hb hK hd hn hA;simp only[xv];have HC:=h_ h;have HBg:=h_ h.blk;have HF:Hid (Fc w w kg bs):=h_ (Fc.refl _ _ _);clear h;have hgs:kg≠bs:=HC.out.gs;have HGS:=h_ hgs;clear hgs;go_enter Tryz.func87,Tryz.ntmps87
 go_upto_region 1 with fail
 obtain⟨w1,ke,hw,hkk,hb,hs1,HBe⟩:=newb w #[.int .i64 xk,.string xnm,.string xot,.bool xb,.slice xao xn xq,.slice xko xkn xkc,.int .i64 xln,.int .i64 xcl] 46;have hge:=lk_ hkk HBg;have hse:bs<ke:=by rw[hkk];exact HC.out.sm.lt
 have hee:w.heap.size<=ke:=by rw[hkk];exact HF.out.size
 rw[hw,<-hkk];replace HBg:=kB hb HBg;replace HC:=h_ (HC.out.below hb);replace HF:=fb_ HF hb;clear hw hb hkk hs1;obtain⟨q0,q1,q2,q3⟩:=cl4 HBg.out;obtain⟨fq0,fq1,fq2,fq3⟩:=fr4 HBg.out;go_upto_region 2 with fail
 clear q0 fq0 q1 fq1 q2 fq2 q3 fq3;obtain⟨wA,hwA⟩:∃ q,q=w1.setCell ⟨kg,2,none⟩ (.bool true):=⟨_,rfl⟩
 rw[<-hwA];have hg:w1.grownBy wA (some kg):=by rw[hwA];exact grown_set _ kg 2 _
 have hblk:wA.heap[kg]?=some (.cells #[.map (some bf),.map (some bs),.bool true,ev] 87 (0,0)):=by rw[hwA];exact heap_setCell_same _ kg 2 _ _ _ HBg.out
 clear hwA;replace HC:=h_ (HC.out.store (s':=s) hg hblk HC.out.sm HC.out.sB HC.out.ne (HC.out.erG hg));replace HBg:=h_ hblk;replace HBe:=kG hg HBe;replace HF:=h_ (HF.out.trans (Fc.of_g hg bs));clear hg hblk;obtain⟨b0,hbb⟩:∃ x,x=(kEx F true u s).1:=⟨_,rfl⟩
 obtain⟨s0,hss⟩:∃ x,x=(kEx F true u s).2:=⟨_,rfl⟩
 have HBB0:=h_ hbb;have HSS0:=h_ hss;clear hbb hss;obtain⟨val,hval⟩:∃ v:Nat->Value,v=fun j=>match j with | 0=>.pointer (some ⟨kg,0,none⟩) | 1=>.agg #[.int .i64 xk,.string xnm,.string xot,.bool xb,.slice xao xn xq,.slice xko xkn xkc,.int .i64 xln,.int .i64 xcl] | 2=>.pointer (some ⟨kg,0,none⟩) | 3=>.agg #[.int .i64 xk,.string xnm,.string xot,.bool xb,.slice xao xn xq,.slice xko xkn xkc,.int .i64 xln,.int .i64 xcl] | 4=>.int .i64 ((b0:Nat):Int) | 5=>.bool (((b0:Nat):Int)==1) | _=>undef:=⟨_,rfl⟩
 have f0:val 0=.pointer (some ⟨kg,0,none⟩):=congrFun hval 0;have f1:val 1=.agg #[.int .i64 xk,.string xnm,.string xot,.bool xb,.slice xao xn xq,.slice xko xkn xkc,.int .i64 xln,.int .i64 xcl]:=congrFun hval 1;have f2:val 2=.pointer (some ⟨kg,0,none⟩):=congrFun hval 2;have f3:val 3=.agg #[.int .i64 xk,.string xnm,.string xot,.bool xb,.slice xao xn xq,.slice xko xkn xkc,.int .i64 xln,.int .i64 xcl]:=congrFun hval 3;have f4:val 4=.int .i64 ((b0:Nat):Int):=congrFun hval 4;have f5:val 5=.bool (((b0:Nat):Int)==1):=congrFun hval 5;clear hval;obtain⟨Wd,hWd⟩:∃ f:Nat->World->Prop,f=fun s wc=>(s=0/\wc=wA.drew)\/(s=1/\((∃ ev,Ck w0 wc kg bf bs Gv s0 true ev)/\Fc wA wc kg bs)):=⟨_,rfl⟩
 have HWa0:Hid (∀ wc,wc=wA.drew->Wd 0 wc):=h_ (by rw[hWd];intro wc h;exact .inl ⟨rfl,h⟩);have HWb0:Hid (∀ wc,Wd 0 wc->wc=wA.drew):=h_ (by rw[hWd];intro wc h;rcases h with ⟨_,h⟩ | ⟨e,_⟩<;>first | exact h | cases e);have HWa1:Hid (∀ wc,((∃ ev,Ck w0 wc kg bf bs Gv s0 true ev)/\Fc wA wc kg bs)->Wd 1 wc):=h_ (by rw[hWd];intro wc h;exact .inr (⟨rfl,h⟩));have HWb1:Hid (∀ wc,Wd 1 wc->((∃ ev,Ck w0 wc kg bf bs Gv s0 true ev)/\Fc wA wc kg bs)):=h_ (by rw[hWd];intro wc h;rcases h with ⟨e,_⟩ | ⟨_,h⟩<;>first | exact h | cases e)
 have HBLe:Hid (∀ s wc,Wd s wc->wc.heap[ke]?=some (.cells #[.int .i64 xk,.string xnm,.string xot,.bool xb,.slice xao xn xq,.slice xko xkn xkc,.int .i64 xln,.int .i64 xcl] 46 (0,0))):=h_ (by
  rw[hWd];intro s wc h;rcases h with ⟨_,h⟩ | ⟨_,h⟩
  ·subst h;exact HBe.out
  exact (kF h.2 HBe (by omega) (by omega)).out)
 clear hWd;refine Rel11.region (by kernel_rfl) [[],[],[],[],[2,3],[2,3,4],[0,1,2,3,4,5]] 6 (by kernel_rfl) (by kernel_rfl) [4] (by kernel_rfl) val Wd (HWa0.out _ rfl) ?_ ?_ ?_
 ·intro j o ho hj hcs
  match j,hj,ho,hcs with
  | 0,_,ho,_ =>
   simp only[gsz,gsc,Option.some.injEq] at ho;subst ho;refine⟨rfl,fun s wc T hW hT K hK=>?_⟩;have e0:=hT.pre 0 (by kernel_rfl);simp only[gsa,gsz] at e0;clear hT hW;refine wp_val (w':=wc) (v:=.pointer (some ⟨kg,0,none⟩)) ?_ (by rw[<-f0];exact hK.out);clear hK;go_simp<;>(try with_reducible rfl)
  | 1,_,ho,_ =>
   simp only[gsz,gsc,Option.some.injEq] at ho;subst ho;refine⟨rfl,fun s wc T hW hT K hK=>?_⟩;have e3:=hT.pre 3 (by kernel_rfl);simp only[gsa,gsc,gsz] at e3;have hBq:=HBLe.out s wc hW;obtain⟨q0,q1,q2,q3,q4,q5,q6,q7⟩:=cl8 hBq;clear hBq;clear hT hW;refine wp_val (w':=wc) (v:=.agg #[.int .i64 xk,.string xnm,.string xot,.bool xb,.slice xao xn xq,.slice xko xkn xkc,.int .i64 xln,.int .i64 xcl]) ?_ (by rw[<-f1];exact hK.out);clear hK;go_simp<;>(try with_reducible rfl)
  | 2,_,ho,_ =>
   simp only[gsz,gsc,Option.some.injEq] at ho;subst ho;refine⟨rfl,fun s wc T hW hT K hK=>?_⟩;have e0:=hT.pre 0 (by kernel_rfl);simp only[gsa,gsz] at e0;clear hT hW;refine wp_val (w':=wc) (v:=.pointer (some ⟨kg,0,none⟩)) ?_ (by rw[<-f2];exact hK.out);clear hK;go_simp<;>(try with_reducible rfl)
  | 3,_,ho,_ =>
   simp only[gsz,gsc,Option.some.injEq] at ho;subst ho;refine⟨rfl,fun s wc T hW hT K hK=>?_⟩;have e3:=hT.pre 3 (by kernel_rfl);simp only[gsa,gsc,gsz] at e3;have hBq:=HBLe.out s wc hW;obtain⟨q0,q1,q2,q3,q4,q5,q6,q7⟩:=cl8 hBq;clear hBq;clear hT hW;refine wp_val (w':=wc) (v:=.agg #[.int .i64 xk,.string xnm,.string xot,.bool xb,.slice xao xn xq,.slice xko xkn xkc,.int .i64 xln,.int .i64 xcl]) ?_ (by rw[<-f3];exact hK.out);clear hK;go_simp<;>(try with_reducible rfl)
  | 4,_,_,hcs=>exact absurd hcs (by decide)
  | 5,_,ho,_ =>
   simp only[gsz,gsc,Option.some.injEq] at ho;subst ho;refine⟨rfl,fun s wc T hW hT K hK=>?_⟩;have e11:=hT.tm 4 11 (by rfl) (by rfl);rw[f4] at e11;clear hT hW;refine wp_val (w':=wc) (v:=.bool (((b0:Nat):Int)==1)) ?_ (by rw[<-f5];exact hK.out);clear hK;go_simp<;>(try with_reducible rfl)
  | j+6,hj,_,_=>exact absurd hj (by omega)
 ·intro i j o hi ho
  match i,hi with
  | 0,hi =>
   simp only[gsz,gsc,Option.some.injEq] at hi;subst hi;simp only[gsz,gsc,Option.some.injEq] at ho;subst ho;refine⟨rfl,fun wc T hW hT K hK=>?_⟩;have e9:=hT.tm 2 9 (by rfl) (by rfl);rw[f2] at e9;have e10:=hT.tm 3 10 (by rfl) (by rfl);rw[f3] at e10;have hWc:=HWb0.out wc hW;clear hW hT;have hK2:=hK.out;rw[f4] at hK2;replace hK:=h_ hK2;clear hK2;subst hWc;have hdr:Below wA.heap.size wA wA.drew:=(Below.refl _ _).drew;have hcs:=complete_s (HC.out.below hdr) ⟨xk,xnm,xot,xb,xao,xn,xq,xko,xkn,xkc,xln,xcl⟩ u S HU.out HBU.out F HKB.out n HD.out HNN.out HA.out;rw[<-HBB0.out,<-HSS0.out] at hcs;simp only[xv,iv] at hcs;clear hdr;go_simp
   refine hcs.mono ?_;rintro e w' ⟨rfl,hp⟩;exact hK.out _ (HWa1.out _ ⟨hp.1,(Fc.of_below (Below.refl _ _).drew _ _).trans hp.2⟩)
  | i+1,hi=>simp at hi
 intro wx hWx;have hWy:=HWb1.out wx hWx;clear hWx HWa0 HWb0 HWa1 HWb1 HBLe;simp only[R7.fill,t1_,t2_,t3_,t4_,t5_,t6_,t7_,f0,f1,f2,f3,f4,f5];clear f0 f1 f2 f3 f4 f5;obtain⟨⟨ev2,hC⟩,hF⟩:=hWy;replace HC:=h_ hC;replace HBg:=h_ hC.blk;replace HBe:=kF hF HBe;replace HF:=h_ (HF.out.trans hF);clear hC hF
 try clear ev
 obtain⟨ev,hev⟩:∃ x,x=ev2:=⟨_,rfl⟩
 rw[<-hev] at HC HBg;clear hev
 try clear ev2
 go_wp2_with fail
 refine (need_p HC.out ⟨xk,xnm,xot,xb,xao,xn,xq,xko,xkn,xkc,xln,xcl⟩ u.ln u.cl HLC.out.1 HLC.out.2 (((b0:Nat):Int)==1) 4).mono ?_;rintro e w2 ⟨rfl,⟨ev,hC⟩,hF⟩;replace HBe:=kF hF HBe;replace HF:=h_ (HF.out.trans hF);replace HC:=h_ hC;replace HBg:=h_ hC.blk;clear hC hF;rw[nbeq1] at HC;obtain⟨q0,q1,q2,q3⟩:=cl4 HBg.out;obtain⟨fq0,fq1,fq2,fq3⟩:=fr4 HBg.out;go_wp2_with fail
 clear q0 fq0 q1 fq1 q2 fq2 q3 fq3;obtain⟨wB,hwA⟩:∃ q,q=w2.setCell ⟨kg,2,none⟩ (.bool false):=⟨_,rfl⟩
 rw[<-hwA];have hg:w2.grownBy wB (some kg):=by rw[hwA];exact grown_set _ kg 2 _
 have hblk:wB.heap[kg]?=some (.cells #[.map (some bf),.map (some bs),.bool false,ev] 87 (0,0)):=by rw[hwA];exact heap_setCell_same _ kg 2 _ _ _ HBg.out
 clear hwA;have e:kPred F u s=s0.need u.ln u.cl (b0==1) 4:=by unfold kPred;rw[<-HBB0.out,<-HSS0.out]
 rw[e];exact bodyPost_end (results_none Tryz.results87 _ _ _) rfl ⟨rfl,⟨ev,HC.out.store (s':=s0.need u.ln u.cl (b0==1) 4) hg hblk HC.out.sm HC.out.sB HC.out.ne (HC.out.erG hg)⟩,HF.out.trans (Fc.of_g hg bs)⟩
def GvOk (w0:World) (S:Nat->Prop) (Gv:Bs->Option Value) (G:Gfn):Prop:=∀ nm,match G nm with
 | none=>Gv nm=none
 | some f=>∃ v x y,Gv nm=some (.agg (fnC f v x y).toArray)/\PmsAt w0 S v f.ps/\f.ps.length<=100000
theorem fnC_one {f:FnU} {v:Value} {x y:X} (h:v.oneCell'=true):∀ u ∈ fnC f v x y,u.oneCell'=true:=by
 intro u hu;simp only[fnC,List.mem_cons,List.not_mem_nil,or_false] at hu;rcases hu with rfl | rfl | rfl | rfl | rfl | rfl | rfl | rfl | rfl | rfl | rfl | rfl | rfl | rfl | rfl | rfl | rfl | rfl | rfl | rfl | rfl | rfl | rfl | rfl | rfl<;>first | rfl | exact h
theorem pms_nil (w:World) (S:Nat->Prop):PmsAt w S (.slice none 0 0) []:=⟨[],rfl,none,0,rfl,⟨Nat.le_refl _,Nat.zero_le _⟩,fun h=>absurd rfl h,fun i h=>absurd h (Nat.not_lt_zero _)⟩
theorem gv_get {w0:World} {S:Nat->Prop} {Gv:Bs->Option Value} {G:Gfn} (h:GvOk w0 S Gv G) (nm:Bs):∃ (B:List Value) (v:Value) (ps:List PmU) (b:Nat),B.length=25/\(∀ u ∈ B,u.oneCell'=true)/\(Gv nm).getD fnZ=.agg B.toArray/\B.toArray[1]?=some v/\B.toArray[3]?=some (iv b)/\PmsAt w0 S v ps/\ps.length<=100000/\(G.fs nm).getD ([],0)=(ps.map PmU.b,b)/\(Gv nm).isSome=(G.fs nm).isSome:=by
 have hg:=h nm
 cases hn:G nm with
 | none =>
  rw[hn] at hg;simp only at hg;refine⟨[.string ⟨#[]⟩,.slice none 0 0,.string ⟨#[]⟩,.int .i64 0,.bool false,.int .i64 0,.string ⟨#[]⟩,.string ⟨#[]⟩,.bool false,.slice none 0 0,.slice none 0 0,.int .i64 0,.int .i64 0,.int .i64 0,.int .i64 0,.int .i64 0,.string ⟨#[]⟩,.string ⟨#[]⟩,.bool false,.slice none 0 0,.slice none 0 0,.int .i64 0,.int .i64 0,.int .i64 0,.int .i64 0],.slice none 0 0,[],0,rfl,by decide,by rw[hg];rfl,rfl,rfl,pms_nil _ _,Nat.zero_le _,?_,?_⟩
  ·show ((G nm).map sigF).getD ([],0)=_;rw[hn];rfl
  rw[hg];show _=((G nm).map sigF).isSome;rw[hn];rfl
 | some f =>
  rw[hn] at hg;obtain⟨v,x,y,h1,h2,h3⟩:=hg;refine⟨fnC f v x y,v,f.ps,f.res.b,rfl,fnC_one h2.one,by rw[h1];rfl,rfl,rfl,h2,h3,?_,?_⟩
  ·show ((G nm).map sigF).getD ([],0)=_;rw[hn];rfl
  rw[h1];show _=((G nm).map sigF).isSome;rw[hn];rfl
theorem cells13 {w:World} {p:Addr} {q:PmU} {x:X} (h:∀ j v,(pmC q x)[j]?=some v->w.cell? (p.add j)=some v):w.cell? p=some (.string ⟨q.nm.toArray⟩)/\w.cell? ⟨p.block,p.off+1,none⟩=some (.int .i64 (q.b:Nat))/\w.cell? ⟨p.block,p.off+2,none⟩=some (.bool q.kn)/\w.cell? ⟨p.block,p.off+3,none⟩=some (.int .i64 x.k)/\w.cell? ⟨p.block,p.off+4,none⟩=some (.string x.nm)/\w.cell? ⟨p.block,p.off+5,none⟩=some (.string x.ot) /\
  w.cell? ⟨p.block,p.off+6,none⟩=some (.bool x.b)/\w.cell? ⟨p.block,p.off+7,none⟩=some (.slice x.ao x.n x.c)/\w.cell? ⟨p.block,p.off+8,none⟩=some (.slice x.ko x.kn x.kc)/\w.cell? ⟨p.block,p.off+9,none⟩=some (.int .i64 x.ln)/\w.cell? ⟨p.block,p.off+10,none⟩=some (.int .i64 x.cl)/\w.cell? ⟨p.block,p.off+11,none⟩=some (.int .i64 (q.ln:Nat))/\w.cell? ⟨p.block,p.off+12,none⟩=some (.int .i64 (q.cl:Nat)):=
 ⟨by have:=h 0 _ rfl;rw[addr_add0] at this;exact this,h 1 _ rfl,h 2 _ rfl,h 3 _ rfl,h 4 _ rfl,h 5 _ rfl,h 6 _ rfl,h 7 _ rfl,h 8 _ rfl,h 9 _ rfl,h 10 _ rfl,h 11 _ rfl,h 12 _ rfl⟩
def bsE:El Nat where
 e:=39
 n:=1
 f b:=[iv b]
 R _ _ _:=True
 pos:=by decide
 len _:=rfl
 one b:=by
  intro u hu;simp only[List.mem_cons,List.not_mem_nil,or_false] at hu;subst hu;rfl
 keep _ _:=trivial
 mono _ _:=trivial
 lt _:=trivial
 noAt:=by decide
theorem infoBase:(Tryz.prog.info? 39).map (fun i=>(i.zero,i.size,i.bytes))=some (some (.int .i64 0),1,8):=by kernel_rfl
theorem row_lb {w:World} {B:Nat} {S:Nat->Prop} {v:Value} {L:List Nat} (h:bsE.Row w B S v L):LB w v L:=by
 obtain⟨ko,kc,rfl,h1,-,h3⟩:=h.at (S':=fun _=>True) (fun _ _=>trivial) (fun _ _=>trivial);refine⟨ko,kc,rfl,h1,fun i hi=>?_⟩;obtain⟨⟨a,rfl,h4⟩,-⟩:=h3 i hi;refine⟨a,rfl,?_⟩;have:=h4 0 (iv L[i]) rfl;rw[addr_add_add] at this
 simpa [bsE] using this
theorem row_ck {α:Type} {E:El α} {w0 w w':World} {kg bf bs B:Nat} {S:Nat->Prop} {Gv:Bs->Option Value} {s:Ks} {rf:Bool} {ev v:Value} {el:List α} (h:E.Row w B S v el) (hg:w.grownBy w' v.ownBlock) (hB:kg<B) (hB0:w0.heap.size<=B) (hc:Ck w0 w kg bf bs Gv s rf ev):Ck w0 w' kg bf bs Gv s rf ev:=by
 rcases h.1.2 with ⟨e,-⟩ | ⟨q,c0,cur,hv,hBq,hq,-⟩
 ·rw[e] at hg;exact hc.below ⟨hg.os,hg.tape,hg.output,hg.size,fun k hk=>hg.block k hk (fun e=>by cases e)⟩
 have:v.ownBlock=some q:=by rw[hv];rfl
 rw[this] at hg;have:=(h.ge this).1;exact hc.own hq E.noAt (by omega) (by omega) hg
theorem row_fc {α:Type} {E:El α} {we w w':World} {kg bs B:Nat} {S:Nat->Prop} {v:Value} {el:List α} (h:E.Row w B S v el) (hg:w.grownBy w' v.ownBlock) (hB:we.heap.size<=B) (hf:Fc we w kg bs):Fc we w' kg bs:=by
 rcases hv:v.ownBlock with _ | q
 ·rw[hv] at hg;exact hf.trans (Fc.of_below ⟨hg.os,hg.tape,hg.output,hg.size,fun k hk=>hg.block k hk (fun e=>by cases e)⟩ _ _)
 rw[hv] at hg;have:=(h.ge hv).1;exact hf.of_new hg (by omega)
theorem call_s {w0 w:World} {kg bf bs:Nat} {Gv:Bs->Option Value} {s:Ks} {rf:Bool} {ev:Value} (h:Ck w0 w kg bf bs Gv s rf ev) (x:X) (k:Nat) (nm ot:Bs) (z ln cl:Nat) (ks:List U) (S:Nat->Prop) (hu:Um w0 S x (.node k nm ot z ln cl ks)) (hb:Bnd (.node k nm ot z ln cl ks)) (kt:Nat) (ts:List Nat) (hT:w.heap[kt]?=some (.cells (ts.map iv).toArray 39 (0,0))) (hts:ts.length<=maxLen) (n1:kt≠kg) (n2:kt≠bs) (G:Gfn) (SG:Nat->Prop) (hG:GvOk w0 SG Gv G) :
  Calls Tryz.prog 136 #[.pointer (some ⟨kg,0,none⟩),xv x,.slice (some ⟨kt,0,none⟩) ts.length ts.length] w fun e w'=>e=.returned (iv (kCall G.fs rf nm ln cl ts s).1)/\CkP w0 w kg bf bs Gv ((kCall G.fs rf nm ln cl ts s).2) rf w':=by
 rw[Um] at hu;obtain⟨⟨e1,e2,e3,e4,e5,e6⟩,⟨h2,h3⟩,⟨h4,h5,h6⟩,h7⟩:=hu;obtain⟨xk,xnm,xot,xb,xao,xn,xq,xko,xkn,xkc,xln,xcl⟩:=x;simp only at e1 e2 e3 e4 e5 e6 h2 h3 h4 h5 h6 h7;rw[Bnd] at hb;have HNM:Hid (nm.length<=3000):=h_ hb.2.1.1;have HTS:=h_ hts;have HGV:=h_ hG;clear h7 hb hts h2 h3 h5 h6 hG;subst e1 e2 e3 e4 e5 e6;subst h4;simp only[xv];obtain⟨B,v,ps,b,g1,g2,g3,g4,g5,g6,g7,g8,g9⟩:=gv_get HGV.out nm;have HB1:=h_ g1;have HB2:=h_ g2;have HB3:=h_ g3;have HB4:=h_ g4;have HB5:=h_ g5;have HPS:=h_ g6;have HPL:=h_ g7;have HF8:=h_ g8;have HF9:=h_ g9;clear g1 g2 g3 g4 g5 g6 g7 g8 g9;have HC:=h_ h;have HBg:=h_ h.blk;have HF:Hid (Fc w w kg bs):=h_ (Fc.refl _ _ _);clear h;have hgs:kg≠bs:=HC.out.gs;have HGS:=h_ hgs;clear hgs;have HBt:=h_ hT;clear hT;have ht_e:kt<w.heap.size:=lt_of_block HBt.out
 have HTE:=h_ ht_e;clear ht_e;go_enter Tryz.func136,Tryz.ntmps136
 go_upto_region 1 with fail
 obtain⟨w1,ke,hw,hkk,hb,hs1,HBe⟩:=newb w #[.int .i64 (k:Nat),.string ⟨nm.toArray⟩,.string ⟨ot.toArray⟩,.bool false,.slice xao xn xq,.slice xko ks.length xkc,.int .i64 (ln:Nat),.int .i64 (cl:Nat)] 46;have hge:=lk_ hkk HBg;have hse:bs<ke:=by rw[hkk];exact HC.out.sm.lt
 have hee:w.heap.size<=ke:=by rw[hkk];exact HF.out.size
 have ht_e:=lk_ hkk HBt;rw[hw,<-hkk];replace HBg:=kB hb HBg;replace HBt:=kB hb HBt;replace HC:=h_ (HC.out.below hb);replace HF:=fb_ HF hb;clear hw hb hkk hs1;have hlt_g:=lt_of_block HBg.out;have hlt_e:=lt_of_block HBe.out;refine R7.r0 [[],[],[],[2],[2,3],[2,3,4],[2,3,4,5],[0,1,2,3,4,5,6]] 7 ?_;refine R7.cd ?_ (fun T xs wr hA=>?_) ?_
 rotate_left
 ·have e0:=hA.pq 0;simp only[gsa,gsz] at e0;clear hA;go_simp<;>(try with_reducible rfl)
 refine R7.cd ?_ (fun T xs wr hA=>?_) ?_
 rotate_left
 ·have e4:=hA.pq 4;simp only[gsa,gsc,gsz] at e4;have hBq:wr.heap[ke]?=_:=(hA.bl _ hlt_e (fun q h=>absurd h (Nat.not_lt_zero _))).trans HBe.out;obtain⟨q0,q1,q2,q3,q4,q5,q6,q7⟩:=cl8 hBq;clear hBq;clear hA;go_simp<;>(try with_reducible rfl)
 refine R7.cd ?_ (fun T xs wr hA=>?_) ?_
 rotate_left
 ·have e0:=hA.pq 0;simp only[gsa,gsz] at e0;clear hA;go_simp<;>(try with_reducible rfl)
 refine R7.cd ?_ (fun T xs wr hA=>?_) ?_
 rotate_left
 ·have e14:=tr_ (hA.tq 2 14) (hA.fq 2)
  (try simp (disch:=decide) only [R7.mi] at e14)
  clear hA;go_simp<;>(try with_reducible rfl)
 refine R7.cd ?_ (fun T xs wr hA=>?_) ?_
 rotate_left
 ·have e15:=tr_ (hA.tq 3 15) (hA.fq 3)
  (try simp (disch:=decide) only [R7.mi] at e15)
  clear hA;go_simp<;>(try with_reducible rfl)
 refine R7.cd ?_ (fun T xs wr hA=>?_) ?_
 rotate_left
 ·have e16:=tr_ (hA.tq 4 16) (hA.fq 4)
  (try simp (disch:=decide) only [R7.mi] at e16)
  have hBq:wr.heap[kg]?=_:=(hA.bl _ hlt_g (fun q h=>absurd h (Nat.not_lt_zero _))).trans HBg.out;obtain⟨q0,q1,q2,q3⟩:=cl4 hBq;clear hBq;clear hA;go_simp<;>(try with_reducible rfl)
 refine R7.cd ?_ (fun T xs wr hA=>?_) ?_
 rotate_left
 ·have e17:=tr_ (hA.tq 5 17) (hA.fq 5)
  (try simp (disch:=decide) only [R7.mi] at e17)
  clear hA;go_simp<;>(try with_reducible rfl)
 refine R7.Chain.done (fun xs w2 hL=>?_);obtain⟨⟨hbe,hbl⟩,hf,-,-⟩:=hL;have f0:xs 0=_:=hf 0 (by decide);have f1:xs 1=_:=hf 1 (by decide);have f2:xs 2=_:=hf 2 (by decide);have f3:xs 3=_:=hf 3 (by decide);have f4:xs 4=_:=hf 4 (by decide);have f5:xs 5=_:=hf 5 (by decide);have f6:xs 6=_:=hf 6 (by decide)
 (try simp (disch:=decide) only [R7.mi] at f0 f1 f2 f3 f4 f5 f6)
 have hb:Below w1.heap.size w1 w2:=R7.b0_ hbe;clear hbe hbl hf;refine R7.rest_list (by decide) (by kernel_rfl) ?_;simp only[R7.fill,t1_,t2_,t3_,t4_,t5_,t6_,t7_,f0,f1,f2,f3,f4,f5,f6];clear hlt_g hlt_e f0 f1 f2 f3 f4 f5 f6;replace HBg:=kB hb HBg;replace HBt:=kB hb HBt;replace HBe:=kB hb HBe;replace HC:=h_ (HC.out.below hb);replace HF:=fb_ HF hb;clear hb;go_wp2_with fail
 refine (need_p HC.out ⟨(k:Nat),⟨nm.toArray⟩,⟨ot.toArray⟩,false,xao,xn,xq,xko,ks.length,xkc,(ln:Nat),(cl:Nat)⟩ ln cl rfl rfl (!rf) 1).mono ?_;rintro e w3 ⟨rfl,⟨ev,hC⟩,hF⟩;replace HBt:=kF hF HBt;replace HBe:=kF hF HBe;replace HF:=h_ (HF.out.trans hF);replace HC:=h_ hC;replace HBg:=h_ hC.blk;clear hC hF;obtain⟨sA,hsA⟩:∃ x,x=s.need ln cl (!rf) 1:=⟨_,rfl⟩
 rw[<-hsA] at HC;have HSA:=h_ hsA;clear hsA;go_upto_region 2 with fail
 obtain⟨wA,hwA⟩:∃ q,q=w3.drew:=⟨_,rfl⟩
 have hbA:Below w3.heap.size w3 wA:=by rw[hwA];exact (Below.refl _ _).drew
 have HWA:=h_ hwA;clear hwA;replace HBg:=kB hbA HBg;replace HBt:=kB hbA HBt;replace HBe:=kB hbA HBe;replace HC:=h_ (HC.out.below hbA);replace HF:=fb_ HF hbA;clear hbA;obtain⟨wB,kf,hw,hkk,hb,hs1,HBf⟩:=newb wA #[.string ⟨#[]⟩,.slice none 0 0,.string ⟨#[]⟩,.int .i64 0,.bool false,.int .i64 0,.string ⟨#[]⟩,.string ⟨#[]⟩,.bool false,.slice none 0 0,.slice none 0 0,.int .i64 0,.int .i64 0,.int .i64 0,.int .i64 0,.int .i64 0,.string ⟨#[]⟩,.string ⟨#[]⟩,.bool false,.slice none 0 0,.slice none 0 0,.int .i64 0,.int .i64 0,.int .i64 0,.int .i64 0] 50;have hgf:=lk_ hkk HBg;have hsf:bs<kf:=by rw[hkk];exact HC.out.sm.lt
 have hef:w.heap.size<=kf:=by rw[hkk];exact HF.out.size
 have hbff:bf<kf:=by rw[hkk];exact HC.out.fm.lt
 have he_f:=lk_ hkk HBe;have ht_f:=lk_ hkk HBt;have HWB:=h_ hw;have HKK:=h_ hkk;have HBA:=h_ hb;obtain⟨wC,hwC⟩:∃ q,q=wB.setRow kf B.toArray:=⟨_,rfl⟩
 have hgC:wB.grownBy wC (some kf):=by rw[hwC];exact grown_setRow _ _ _
 have HGC:=h_ hgC;have HWC:=h_ hwC;have hBC:wC.heap[kf]?=some (.cells B.toArray 50 (0,0)):=by rw[hwC];exact setRow_heap _ _ _ _ _ _ HBf.out
 have HBC:=h_ hBC;clear hw hkk hb hs1 hwC hgC hBC;obtain⟨val,hval⟩:∃ v:Nat->Value,v=fun j=>match j with | 0=>.pointer (some ⟨kg,0,none⟩) | 1=>.pointer (some ⟨kg,0,none⟩) | 2=>.pointer (some ⟨kg,0,none⟩) | 3=>.map (some bf) | 4=>.pointer (some ⟨ke,1,none⟩) | 5=>.string ⟨nm.toArray⟩ | 6=>.tuple #[.agg B.toArray,.bool (Gv nm).isSome] | 7=>.tuple #[.agg B.toArray,.bool (Gv nm).isSome] | 8=>.agg B.toArray | 9=>.bool (Gv nm).isSome | 10=>.pointer (some ⟨kf,0,none⟩) | 11=>undef | _=>undef:=⟨_,rfl⟩
 have f0:val 0=.pointer (some ⟨kg,0,none⟩):=congrFun hval 0;have f1:val 1=.pointer (some ⟨kg,0,none⟩):=congrFun hval 1;have f2:val 2=.pointer (some ⟨kg,0,none⟩):=congrFun hval 2;have f3:val 3=.map (some bf):=congrFun hval 3;have f4:val 4=.pointer (some ⟨ke,1,none⟩):=congrFun hval 4;have f5:val 5=.string ⟨nm.toArray⟩:=congrFun hval 5;have f6:val 6=.tuple #[.agg B.toArray,.bool (Gv nm).isSome]:=congrFun hval 6;have f7:val 7=.tuple #[.agg B.toArray,.bool (Gv nm).isSome]:=congrFun hval 7;have f8:val 8=.agg B.toArray:=congrFun hval 8;have f9:val 9=.bool (Gv nm).isSome:=congrFun hval 9;have f10:val 10=.pointer (some ⟨kf,0,none⟩):=congrFun hval 10;have f11:val 11=undef:=congrFun hval 11;clear hval
 obtain⟨Wd,hWd⟩:∃ f:Nat->World->Prop,f=fun s wc=>(s=0/\wc=wA)\/(s=1/\wc=wB)\/(s=2/\wc=wC):=⟨_,rfl⟩
 have HWa0:Hid (∀ wc,wc=wA->Wd 0 wc):=h_ (by rw[hWd];intro wc h;exact .inl ⟨rfl,h⟩);have HWb0:Hid (∀ wc,Wd 0 wc->wc=wA):=h_ (by rw[hWd];intro wc h;rcases h with ⟨_,h⟩ | ⟨e,_⟩ | ⟨e,_⟩<;>first | exact h | cases e);have HWa1:Hid (∀ wc,wc=wB->Wd 1 wc):=h_ (by rw[hWd];intro wc h;exact .inr (.inl ⟨rfl,h⟩));have HWb1:Hid (∀ wc,Wd 1 wc->wc=wB):=h_ (by rw[hWd];intro wc h;rcases h with ⟨e,_⟩ | ⟨_,h⟩ | ⟨e,_⟩<;>first | exact h | cases e);have HWa2:Hid (∀ wc,wc=wC->Wd 2 wc):=h_ (by rw[hWd];intro wc h;exact .inr (.inr (⟨rfl,h⟩)));have HWb2:Hid (∀ wc,Wd 2 wc->wc=wC):=h_ (by rw[hWd];intro wc h;rcases h with ⟨e,_⟩ | ⟨e,_⟩ | ⟨_,h⟩<;>first | exact h | cases e)
 have HBLg:Hid (∀ s wc,Wd s wc->wc.heap[kg]?=some (.cells #[.map (some bf),.map (some bs),.bool rf,ev] 87 (0,0))):=h_ (by
  rw[hWd];intro s wc h;rcases h with ⟨_,h⟩ | ⟨_,h⟩ | ⟨_,h⟩
  ·subst h;exact HBg.out
  ·subst h;exact (kB HBA.out HBg).out
  subst h;exact (kG HGC.out (kB HBA.out HBg) (by omega)).out)
 have HBLe:Hid (∀ s wc,Wd s wc->wc.heap[ke]?=some (.cells #[.int .i64 (k:Nat),.string ⟨nm.toArray⟩,.string ⟨ot.toArray⟩,.bool false,.slice xao xn xq,.slice xko ks.length xkc,.int .i64 (ln:Nat),.int .i64 (cl:Nat)] 46 (0,0))):=h_ (by
  rw[hWd];intro s wc h;rcases h with ⟨_,h⟩ | ⟨_,h⟩ | ⟨_,h⟩
  ·subst h;exact HBe.out
  ·subst h;exact (kB HBA.out HBe).out
  subst h;exact (kG HGC.out (kB HBA.out HBe) (by omega)).out)
 have HFCM:Hid (∀ s wc,Wd s wc->MapIs Tryz.prog 9 wc bf Gv):=h_ (by
  rw[hWd];intro s wc h;rcases h with ⟨_,h⟩ | ⟨_,h⟩ | ⟨_,h⟩
  ·subst h;exact HC.out.fm
  ·subst h;exact HC.out.fm.keep (HBA.out.block _ HC.out.fm.lt)
  subst h;exact (HC.out.fm.keep (HBA.out.block _ HC.out.fm.lt)).keep (HGC.out.block _ (by have:=HBA.out.size;have:=HC.out.fm.lt;omega) (fun e=>by injection e with e;omega)))
 clear hWd;refine Rel11.region (by kernel_rfl) [[],[0],[0,1],[0,1,2],[],[4],[0,1,2,3,4,5],[0,1,2,3,4,5,6],[0,1,2,3,4,5,6,7],[0,1,2,3,4,5,6,7],[],[0,1,2,3,4,5,6,7,8,10],[0,1,2,3,4,5,6,7,8,9,10,11]] 12 (by kernel_rfl) (by kernel_rfl) [10,11] (by kernel_rfl) val Wd (HWa0.out _ HWA.out.symm) ?_ ?_ ?_
 ·intro j o ho hj hcs
  match j,hj,ho,hcs with
  | 0,_,ho,_ =>
   simp only[gsz,gsc,Option.some.injEq] at ho;subst ho;refine⟨rfl,fun s wc T hW hT K hK=>?_⟩;have e0:=hT.pre 0 (by kernel_rfl);simp only[gsa,gsz] at e0;clear hT hW;refine wp_val (w':=wc) (v:=.pointer (some ⟨kg,0,none⟩)) ?_ (by rw[<-f0];exact hK.out);clear hK;go_simp<;>(try with_reducible rfl)
  | 1,_,ho,_ =>
   simp only[gsz,gsc,Option.some.injEq] at ho;subst ho;refine⟨rfl,fun s wc T hW hT K hK=>?_⟩;have e21:=hT.tm 0 21 (by rfl) (by rfl);rw[f0] at e21;clear hT hW;refine wp_val (w':=wc) (v:=.pointer (some ⟨kg,0,none⟩)) ?_ (by rw[<-f1];exact hK.out);clear hK;go_simp<;>(try with_reducible rfl)
  | 2,_,ho,_ =>
   simp only[gsz,gsc,Option.some.injEq] at ho;subst ho;refine⟨rfl,fun s wc T hW hT K hK=>?_⟩;have e22:=hT.tm 1 22 (by rfl) (by rfl);rw[f1] at e22;clear hT hW;refine wp_val (w':=wc) (v:=.pointer (some ⟨kg,0,none⟩)) ?_ (by rw[<-f2];exact hK.out);clear hK;go_simp<;>(try with_reducible rfl)
  | 3,_,ho,_ =>
   simp only[gsz,gsc,Option.some.injEq] at ho;subst ho;refine⟨rfl,fun s wc T hW hT K hK=>?_⟩;have e23:=hT.tm 2 23 (by rfl) (by rfl);rw[f2] at e23;have hBq:=HBLg.out s wc hW;obtain⟨q0,q1,q2,q3⟩:=cl4 hBq;clear hBq;clear hT hW;refine wp_val (w':=wc) (v:=.map (some bf)) ?_ (by rw[<-f3];exact hK.out);clear hK;go_simp<;>(try with_reducible rfl)
  | 4,_,ho,_ =>
   simp only[gsz,gsc,Option.some.injEq] at ho;subst ho;refine⟨rfl,fun s wc T hW hT K hK=>?_⟩;have e4:=hT.pre 4 (by kernel_rfl);simp only[gsa,gsc,gsz] at e4;clear hT hW;refine wp_val (w':=wc) (v:=.pointer (some ⟨ke,1,none⟩)) ?_ (by rw[<-f4];exact hK.out);clear hK;go_simp<;>(try with_reducible rfl)
  | 5,_,ho,_ =>
   simp only[gsz,gsc,Option.some.injEq] at ho;subst ho;refine⟨rfl,fun s wc T hW hT K hK=>?_⟩;have e25:=hT.tm 4 25 (by rfl) (by rfl);rw[f4] at e25;have hBq:=HBLe.out s wc hW;obtain⟨q0,q1,q2,q3,q4,q5,q6,q7⟩:=cl8 hBq;clear hBq;clear hT hW;refine wp_val (w':=wc) (v:=.string ⟨nm.toArray⟩) ?_ (by rw[<-f5];exact hK.out);clear hK;go_simp<;>(try with_reducible rfl)
  | 6,_,ho,_ =>
   simp only[gsz,gsc,Option.some.injEq] at ho;subst ho;refine⟨rfl,fun s wc T hW hT K hK=>?_⟩;have e24:=hT.tm 3 24 (by rfl) (by rfl);rw[f3] at e24;have e26:=hT.tm 5 26 (by rfl) (by rfl);rw[f5] at e26;have hlk:=(HFCM.out s wc hW).look_ok Tryz.underlying9 Tryz.underlying84 (zeroF wc) (s:=nm) (nm_ok HNM.out);rw[HB3.out] at hlk;unfold bsv at hlk;clear hT hW;refine wp_val (w':=wc) (v:=.tuple #[.agg B.toArray,.bool (Gv nm).isSome]) ?_ (by rw[<-f6];exact hK.out);clear hK;go_simp<;>(try with_reducible rfl)
  | 7,_,ho,_ =>
   simp only[gsz,gsc,Option.some.injEq] at ho;subst ho;refine⟨rfl,fun s wc T hW hT K hK=>?_⟩;have e27:=hT.tm 6 27 (by rfl) (by rfl);rw[f6] at e27;clear hT hW;refine wp_val (w':=wc) (v:=.tuple #[.agg B.toArray,.bool (Gv nm).isSome]) ?_ (by rw[<-f7];exact hK.out);clear hK;go_simp<;>(try with_reducible rfl)
  | 8,_,ho,_ =>
   simp only[gsz,gsc,Option.some.injEq] at ho;subst ho;refine⟨rfl,fun s wc T hW hT K hK=>?_⟩;have e20:=hT.tm 7 20 (by rfl) (by rfl);rw[f7] at e20;clear hT hW;refine wp_val (w':=wc) (v:=.agg B.toArray) ?_ (by rw[<-f8];exact hK.out);clear hK;go_simp<;>(try with_reducible rfl)
  | 9,_,ho,_ =>
   simp only[gsz,gsc,Option.some.injEq] at ho;subst ho;refine⟨rfl,fun s wc T hW hT K hK=>?_⟩;have e20:=hT.tm 7 20 (by rfl) (by rfl);rw[f7] at e20;clear hT hW;refine wp_val (w':=wc) (v:=.bool (Gv nm).isSome) ?_ (by rw[<-f9];exact hK.out);clear hK;go_simp<;>(try with_reducible rfl)
  | 10,_,_,hcs=>exact absurd hcs (by decide)
  | 11,_,_,hcs=>exact absurd hcs (by decide)
  | j+12,hj,_,_=>exact absurd hj (by omega)
 ·intro i j o hi ho
  match i,hi with
  | 0,hi =>
   simp only[gsz,gsc,Option.some.injEq] at hi;subst hi;simp only[gsz,gsc,Option.some.injEq] at ho;subst ho;refine⟨rfl,fun wc T hW hT K hK=>?_⟩;have hWc:=HWb0.out wc hW;clear hW hT;have hK2:=hK.out;rw[f10] at hK2;replace hK:=h_ hK2;clear hK2;subst hWc;go_simp
   have hk1:=HKK.out;have hk2:=HWB.out;rw[<-hk1,hk2];exact hK.out _ (HWa1.out _ rfl)
  | 1,hi =>
   simp only[gsz,gsc,Option.some.injEq] at hi;subst hi;simp only[gsz,gsc,Option.some.injEq] at ho;subst ho;refine⟨rfl,fun wc T hW hT K hK=>?_⟩;have e7:=hT.tm 10 7 (by rfl) (by rfl);rw[f10] at e7;have e28:=hT.tm 8 28 (by rfl) (by rfl);rw[f8] at e28;have hWc:=HWb1.out wc hW;clear hW hT;have hK2:=hK.out;rw[f11] at hK2;replace hK:=h_ hK2;clear hK2;subst hWc;refine wp_store_row (P:=Tryz.prog) 50 (.tmp 7) (.tmp 28) rfl kf B.toArray (by show T.getD 7 undef=_;rw[Array.getD_eq_getD_getElem?,e7];rfl) (by show T.getD 28 undef=_;rw[Array.getD_eq_getD_getElem?,e28];rfl) 50 _ HBf.out (by rw[List.size_toArray,HB1.out];kernel_rfl) (by rw[show B.toArray.size=25 from by rw[List.size_toArray];exact HB1.out];rfl) (by rw[List.all_toArray];exact List.all_eq_true.2 HB2.out) ?_;exact hK.out _ (HWa2.out _ HWC.out.symm)
  | i+2,hi=>simp at hi
 intro wx hWx;have hWy:=HWb2.out wx hWx;clear hWx HWa0 HWb0 HWa1 HWb1 HWa2 HWb2 HBLg HBLe HFCM;simp only[R7.fill,t1_,t2_,t3_,t4_,t5_,t6_,t7_,f0,f1,f2,f3,f4,f5,f6,f7,f8,f9,f10,f11];clear f0 f1 f2 f3 f4 f5 f6 f7 f8 f9 f10 f11;subst hWy;replace HBg:=kG HGC.out (kB HBA.out HBg) (by omega);replace HBe:=kG HGC.out (kB HBA.out HBe) (by omega);replace HBt:=kG HGC.out (kB HBA.out HBt) (by omega);replace HF:=h_ ((HF.out.trans (Fc.of_below HBA.out kg bs)).of_new HGC.out (by omega));replace HC:=h_ ((HC.out.below HBA.out).own HBf.out (by decide) (by omega) (by have:=HC.out.bw.size;have:=HKK.out;omega) HGC.out);replace HBf:=HBC;clear HBC HGC HBA HWB HWA HWC HKK;obtain⟨c0,c1,c2,c3,c4,c5,c6,c7⟩:=cl8 HBe.out;go_wp2_with fail
 refine (need_p HC.out ⟨(k:Nat),⟨nm.toArray⟩,⟨ot.toArray⟩,false,xao,xn,xq,xko,ks.length,xkc,(ln:Nat),(cl:Nat)⟩ ln cl rfl rfl (Gv nm).isSome 3).mono ?_;rintro e w4 ⟨rfl,⟨ev,hC⟩,hF⟩;clear c0 c1 c2 c3 c4 c5 c6 c7;replace HBt:=kF hF HBt;replace HBe:=kF hF HBe;replace HBf:=kF hF HBf;replace HF:=h_ (HF.out.trans hF);replace HC:=h_ hC;replace HBg:=h_ hC.blk;clear hC hF;obtain⟨sB,hsB⟩:∃ x,x=sA.need ln cl (Gv nm).isSome 3:=⟨_,rfl⟩
 rw[<-hsB] at HC;have HSB:=h_ hsB;clear hsB;have q1:=cell_at (v:=v) HBf.out 1 HB4.out;obtain⟨qs,hqs,hat⟩:=HPS.out;obtain⟨ko,kc,hv,⟨hk1,hk2⟩,-,hel⟩:=hat;have HQS:=h_ hqs;have HEL:=h_ hel;have HQL:Hid (qs.length<=100000):=h_ (by have:=HPL.out;rw[<-HQS.out,List.length_map] at this;exact this);subst hv;clear hqs hel HPS;have hkl:qs.length<=9223372036854775807:=Nat.le_trans hk1 hk2;clear hk1 hk2;go_wp2_with fail
 clear q1;have HRW:Hid (bsE.Row w4 (kf+1) (fun _=>False) (.slice none 0 0) []):=h_ (El.Row.nil _ _ _)
 go_loopw [37,9] (fun i sv wr=>∃ (j:Nat) (ev:Value),i=.int .i64 (j:Nat)/\j<=qs.length/\Hid (bsE.Row wr (kf+1) (fun _=>False) sv ((qs.take j).map (fun q=>q.1.b)))/\Hid (Ck w0 wr kg bf bs Gv sB rf ev)/\Hid (wr.heap[ke]?=some (.cells #[.int .i64 (k:Nat),.string ⟨nm.toArray⟩,.string ⟨ot.toArray⟩,.bool false,.slice xao xn xq,.slice xko ks.length xkc,.int .i64 (ln:Nat),.int .i64 (cl:Nat)] 46 (0,0)))/\Hid (wr.heap[kf]?=some (.cells B.toArray 50 (0,0)))/\Hid (wr.heap[kt]?=some (.cells (ts.map iv).toArray 39 (0,0)))/\Hid (Fc w wr kg bs)) (fun i _ _=>qs.length - (intOf i).toNat)
 case atStart=>exact⟨0,ev,rfl,Nat.zero_le _,HRW,HC,HBe,HBf,HBt,HF⟩
 case round =>
  obtain⟨wl,hwl⟩:∃ q,q=wr:=⟨_,rfl⟩
  subst hwl;clear HRW HC HBe HBf HBt HF HBg
  try clear ev
  obtain⟨j,ev,rfl,hj,HRW,HC,HBe,HBf,HBt,HF⟩:=hrel;have HBg:=h_ HC.out.blk;have hlj:((qs.take j).map (fun q=>q.1.b)).length=j:=by rw[List.length_map,List.length_take];omega
  by_cases hi:j<qs.length
  ·obtain⟨⟨a,rfl,hc⟩,-⟩:=HEL.out j hi;have hbw0:=HC.out.bw;obtain⟨z0,z1,z2,z3,z4,z5,z6,z7,z8,z9,z10,z11,z12⟩:=cells13 (w:=wl) (p:=a.add (j*13)) (q:=qs[j].1) (x:=qs[j].2) (fun q v hv=>by have:=hc q v hv;rw[show (a.add (j*13)).add q=(a.add (j*pmE.n)).add q from rfl,hbw0.cell (cell_lt this)];exact this);obtain⟨pp,hpp⟩:∃ q,q=qs[j]:=⟨_,rfl⟩
   rw[<-hpp] at z0 z1 z2 z3 z4 z5 z6 z7 z8 z9 z10 z11 z12;have HPP:=h_ hpp;clear hpp hc hbw0;have HLJ:=h_ hlj;clear hlj;go_upto_region 8 with fail
   have hfp:kf<wl.heap.size:=lt_of_block HBf.out;clear z0 z1 z2 z3 z4 z5 z6 z7 z8 z9 z10 z11 z12;obtain⟨w5,kp,hw,hkk,hb,hs1,HBp⟩:=newb wl #[.string ⟨pp.1.nm.toArray⟩,.int .i64 (pp.1.b:Nat),.bool pp.1.kn,.int .i64 pp.2.k,.string pp.2.nm,.string pp.2.ot,.bool pp.2.b,.slice pp.2.ao pp.2.n pp.2.c,.slice pp.2.ko pp.2.kn pp.2.kc,.int .i64 pp.2.ln,.int .i64 pp.2.cl,.int .i64 (pp.1.ln:Nat),.int .i64 (pp.1.cl:Nat)] 48;have hgp:=lk_ hkk HBg;have hsp:bs<kp:=by rw[hkk];exact HC.out.sm.lt
   have hep:w.heap.size<=kp:=by rw[hkk];exact HF.out.size
   have ht_p:=lk_ hkk HBt;have he_p:=lk_ hkk HBe;have hf_p:=lk_ hkk HBf;rw[hw,<-hkk];replace HBg:=kB hb HBg;replace HBt:=kB hb HBt;replace HBe:=kB hb HBe;replace HBf:=kB hb HBf;replace HRW:=h_ (HRW.out.below hb);replace HC:=h_ (HC.out.below hb);replace HF:=fb_ HF hb;clear hw hb hkk hs1;obtain⟨c0,c1,c2,c3,c4,c5,c6,c7,c8,c9,c10,c11,c12⟩:=cl13 HBp.out;obtain⟨w6,kn,hw,hkk,hb,hs1,HBn⟩:=newb w5 #[.int .i64 (pp.1.b:Nat)] 39;have hkk2:=hkk.symm;have HBB:=h_ hb;have HKN:=h_ hkk;clear hb hs1 hkk;have hrl:((qs.take j).map (fun q=>q.1.b)).length<=1000000:=by rw[HLJ.out];have:=HQL.out;omega
   have hrw6:=HRW.out.below HBB.out;have HR6:=h_ hrw6;have HRL:=h_ hrl;have HB6:Hid (kf+1<=w6.heap.size):=h_ (by have:=HBB.out.size;have:=lt_of_block HBf.out;omega);clear hrl hrw6;go_wp2_with (first | (at_builtin;refine El.Row.append (E:=bsE) HR6.out rfl (.tmp 41) (.tmp 44) 212 rfl Tryz.underlying212 infoBase rfl (by decide) rfl pp.1.b kn 39 rfl HBn.out trivial HRL.out HB6.out ?_;intro v2 w7 hrow hgw;have HRO:=h_ hrow;have HGW:=h_ hgw;clear hrow hgw) | fail)
   clear c0 c1 c2 c3 c4 c5 c6 c7 c8 c9 c10 c11 c12;clear hw hkk2;replace HBg:=kB HBB.out HBg;replace HBt:=kB HBB.out HBt;replace HBe:=kB HBB.out HBe;replace HBf:=kB HBB.out HBf;replace HBp:=kB HBB.out HBp;replace HRW:=h_ (HRW.out.below HBB.out);replace HC:=h_ (HC.out.below HBB.out);replace HF:=h_ (HF.out.trans (Fc.of_below HBB.out _ _));replace HBe:=HR6.out.kR HGW.out (by omega) HBe;replace HBf:=HR6.out.kR HGW.out (by omega) HBf;replace HBt:=HR6.out.kR HGW.out (by omega) HBt;have hw0f:w0.heap.size<=kf+1:=by have:=HC.out.bw.size;have:=HC.out.gB;omega
   replace HC:=h_ (row_ck HR6.out HGW.out (by omega) hw0f HC.out);replace HF:=h_ (row_fc HR6.out HGW.out (by omega) HF.out);have HRO2:Hid (bsE.Row w7 (kf+1) (fun _=>False) v2 ((qs.take (j+1)).map (fun q=>q.1.b))):=h_ (by rw[List.take_succ_eq_append_getElem hi,List.map_append,List.map_singleton,<-HPP.out];exact HRO.out);go_roundw
   case rel=>exact⟨j+1,ev,by go_num,hi,HRO2,HC,HBe,HBf,HBt,HF⟩
   case measure=>simp[intOf];omega
  have hjj:j=qs.length:=by omega
  subst hjj;rw[List.take_length] at HRW;clear hlj hi;have HLM:Hid (qs.map (fun q=>q.1.b)=ps.map PmU.b):=h_ (by rw[<-HQS.out,List.map_map];rfl);rw[HLM.out] at HRW;have HL:=h_ (row_lb HRW.out);go_upto_region 10 with fail
  have hlt_e:=lt_of_block HBe.out;refine R7.r0 [[],[],[],[],[2,3],[0,1,2,3,4]] 5 ?_;refine R7.cd ?_ (fun T xs wr hA=>?_) ?_
  rotate_left
  ·have e0:=hA.pq 0;simp only[gsa,gsz] at e0;clear hA;go_simp<;>(try with_reducible rfl)
  refine R7.cd ?_ (fun T xs wr hA=>?_) ?_
  rotate_left
  ·have e4:=hA.pq 4;simp only[gsa,gsc,gsz] at e4;have hBq:wr.heap[ke]?=_:=(hA.bl _ hlt_e (fun q h=>absurd h (Nat.not_lt_zero _))).trans HBe.out;obtain⟨q0,q1,q2,q3,q4,q5,q6,q7⟩:=cl8 hBq;clear hBq;clear hA;go_simp<;>(try with_reducible rfl)
  refine R7.cd ?_ (fun T xs wr hA=>?_) ?_
  rotate_left
  ·have e2:=hA.pq 2;simp only[gsa,gsc,gsz] at e2;clear hA;go_simp<;>(try with_reducible rfl)
  refine R7.cd ?_ (fun T xs wr hA=>?_) ?_
  rotate_left
  ·have e9:=hA.pq 9;simp only[gsa,gsc,gsz] at e9;clear hA;go_simp<;>(try with_reducible rfl)
  refine R7.Chain.call (fun xs v w=>v=.bool (decide (ts=ps.map PmU.b))) (fun _ _ _ _ h _=>h) (fun _ _ _ _ _ h _ _=>h) (by rfl) (fun T xs wr hA=>?_) ?_
  ·have hsw:=(hA.be 0 (Nat.zero_le _) (fun _ _=>Nat.zero_le _)).size;have e49:=tr_ (hA.tq 2 49) (hA.fq 2);have e50:=tr_ (hA.tq 3 50) (hA.fq 3)
   (try simp (disch:=decide) only [R7.mi] at e49 e50)
   have hbw:=undrew (hA.be wl.heap.size (Nat.le_refl _) (fun q h=>absurd h (Nat.not_lt_zero _)));have hl1:=lb_block (w:=wr) ((hbw.block _ (lt_of_block HBt.out)).trans HBt.out) HTS.out;have hl2:=HL.out.keep (w':=wr) (fun _ _ _ _ a _ ha=>hbw.block _ ha);have HL1:=h_ hl1;have HL2:=h_ hl2;clear hl1 hl2 hbw;clear hA;refine⟨(by rfl),fun K hK=>?_⟩;go_simp
   refine (equal_s wr _ _ ts (ps.map PmU.b) HL1.out HL2.out).mono ?_;rintro e w' ⟨rfl,hb⟩;exact hK.out _ _ rfl hb
  refine R7.Chain.done (fun xs w5 hL=>?_);obtain⟨⟨hbe,hbl⟩,hf,-,-⟩:=hL;have f0:xs 0=_:=hf 0 (by decide);have f1:xs 1=_:=hf 1 (by decide);have f2:xs 2=_:=hf 2 (by decide);have f3:xs 3=_:=hf 3 (by decide);have f4:xs 4=(.bool (decide (ts=ps.map PmU.b))):=hf 4 (by decide)
  (try simp (disch:=decide) only [R7.mi] at f0 f1 f2 f3)
  have hb:Below wl.heap.size wl w5:=R7.b0_ hbe;clear hbe hbl hf;refine R7.rest_list (by decide) (by kernel_rfl) ?_;simp only[R7.fill,t1_,t2_,t3_,t4_,t5_,t6_,t7_,f0,f1,f2,f3,f4];clear hlt_e f0 f1 f2 f3 f4;replace HBg:=kB hb HBg;replace HBt:=kB hb HBt;replace HBe:=kB hb HBe;replace HBf:=kB hb HBf;replace HC:=h_ (HC.out.below hb);replace HF:=fb_ HF hb;clear hb;go_wp2_with fail
  refine (need_p HC.out ⟨(k:Nat),⟨nm.toArray⟩,⟨ot.toArray⟩,false,xao,xn,xq,xko,ks.length,xkc,(ln:Nat),(cl:Nat)⟩ ln cl rfl rfl (decide (ts=ps.map PmU.b)) 4).mono ?_;rintro e w6 ⟨rfl,⟨ev,hC⟩,hF⟩;replace HBt:=kF hF HBt;replace HBe:=kF hF HBe;replace HBf:=kF hF HBf;replace HF:=h_ (HF.out.trans hF);replace HC:=h_ hC;replace HBg:=h_ hC.blk;clear hC hF;have q3:=cell_at (v:=iv b) HBf.out 3 HB5.out;unfold iv at q3;go_wp2_with fail
  go_ret
  have e:kCall G.fs rf nm ln cl ts s=(b,sB.need ln cl (decide (ts=ps.map PmU.b)) 4):=by
   unfold kCall;simp only[HF8.out,<-HF9.out,<-HSA.out,<-HSB.out]
  rw[e];exact⟨rfl,⟨ev,HC.out⟩,HF.out⟩
end Go.Proofs.YtkocdbgmckdcpaaGreatDoor
