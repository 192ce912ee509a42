/-
 Joined texts: ScJ,ScL,ScO,ScR,ScS,ScU.
-/
import Derived.Shelf.SlMaps.Clone
import Derived.Test.YtpclhpfcbjgokaaGreatDoorJScopeChecks4
import Derived.Test.YtpclhpfcbjgokaaGreatDoorJScopeChecks6
set_option maxHeartbeats 32000000
namespace Go.Proofs.YtpclhpfcbjgokaaGreatDoor
open Go.RowKit Go.Maps
set_option maxRecDepth 100000
set_option linter.unusedVariables false
set_option linter.unusedSimpArgs false
theorem wp_val {P:Program} {o:Oper} {a:Act} {w w':World} {v:Value} {K:Act->World->Prop} {Q:Exit->Act->World->Prop} (h:(execOp a.eval o).run P w=.ok (.value v) w') (hK:K (a.put o.dst v) w'):o.wp P a w K Q:=by
 unfold Oper.wp;rw[h];exact hK
theorem wp_skp {P:Program} {o:Oper} {a:Act} {w w':World} {K:Act->World->Prop} {Q:Exit->Act->World->Prop} (h:(execOp a.eval o).run P w=.ok .skip w') (hK:K (a.put o.dst undef) w'):o.wp P a w K Q:=by
 unfold Oper.wp;rw[h];exact hK
theorem match_s {w0 w:World} {kg bf bs:Nat} {Gv:Bs->Option Value} {s:Ks} {rf:Bool} {ev:Value} (h:Ck w0 w kg bf bs Gv s rf ev) (x:X) (k:Nat) (nm ot:Bs) (z ln cl:Nat) (ks:List U) (S:Nat->Prop) (hu:Um w0 S x (.node k nm ot z ln cl ks)) (hb:Bnd (.node k nm ot z ln cl ks)) (F:Fs) (hK:∀ j (h:j<ks.length),BaseOk F Gv rf w0 ks[j]) (n:Nat) (hd:Dom s.sc n) (hn:n+2*(uds ks+1)<=1000000000000) (hk:k=27) :
  Calls Tryz.prog 75 #[.pointer (some ⟨kg,0,none⟩),xv x] w fun e w'=>e=.returned (iv (kMatch rf nm ot ln cl (kExs F rf ks) s).1)/\CkP w0 w kg bf bs Gv ((kMatch rf nm ot ln cl (kExs F rf ks) s).2) rf w':=by
 rw[Um] at hu;obtain⟨⟨e1,e2,e3,e4,e5,e6⟩,⟨h2,h3⟩,⟨h4,h5,h6⟩,h7⟩:=hu;obtain⟨xk,xnm,xot,xb,xao,xn,xq,xko,xkn,xkc,xln,xcl⟩:=x;simp only at e1 e2 e3 e4 e5 e6 h2 h3 h4 h5 h6 h7;have HK:=h_ (fun j (hj:j<ks.length)=>ums_get 0 j h7 hj);rw[Bnd] at hb;have HNM:Hid (nm.length<=3000):=h_ hb.2.1.1;have HOT:Hid (ot.length<=3000):=h_ hb.2.1.2.1;have hlen:ks.length=3:=by rcases hb.1.2 with h | h;omega;rw[h,hk];rfl
 have HKS:=h_ (fun j (hj:j<ks.length)=>bnds_mem hb.2.2.2 (List.getElem_mem hj));have HL:=h_ hlen;have HKB:=h_ hK;have HD:=h_ hd;have HNN:=h_ hn;obtain⟨y0,⟨a,ha,hy⟩,hU⟩:=HK.out 0 (by omega);subst ha;have HKK:=h_ hk;clear h7 hb h2 h3 h5 h6 hK hd hn hy hU hlen hk;subst e1 e2 e3 e4 e5 e6;subst h4;simp only[xv];have HC:=h_ h;have HBg:=h_ h.blk;have HF:Hid (Fc w w kg bs):=h_ (Fc.refl _ _ _);clear h;have hgs:kg≠bs:=HC.out.gs;have HGS:=h_ hgs;clear hgs;go_enter Tryz.func75,Tryz.ntmps75
 go_upto_region 1 with fail
 obtain⟨w1,ke,hw,hkk,hb,hs1,HBe⟩:=newb w #[.int .i64 (k:Nat),.string ⟨nm.toArray⟩,.string ⟨ot.toArray⟩,.bool false,.slice xao xn xq,.slice (some a) ks.length xkc,.int .i64 (ln:Nat),.int .i64 (cl:Nat)] 48;have hge:=lk_ hkk HBg;have hse:bs<ke:=by rw[hkk];exact HC.out.sm.lt
 have hee:w.heap.size<=ke:=by rw[hkk];exact HF.out.size
 rw[hw,<-hkk];replace HBg:=kB hb HBg;replace HC:=h_ (HC.out.below hb);replace HF:=fb_ HF hb;clear hw hb hkk hs1;have HKF0:=h_ (kf_kid F rf ks 0 (by rw[HL.out];decide));have HKF1:=h_ (kf_kid F rf ks 1 (by rw[HL.out];decide));have HKF2:=h_ (kf_kid F rf ks 2 (by rw[HL.out];decide));obtain⟨y0,⟨a0,ha,hy⟩,hU⟩:=HK.out 0 (by rw[HL.out];decide);obtain rfl:a=a0:=by injection ha
 clear ha;have hbw0:=HC.out.bw;obtain⟨z0,z1,z2,z3,z4,z5,z6,z7⟩:=cells8 (w:=w1) (p:=a) (y:=y0) (fun q v hv=>by have:=hy q v hv;rw[show (a:Addr).add q=(a.add ((0+0)*8)).add q from (by rw[show (0+0)*8=0 from rfl,addr_add0]),hbw0.cell (cell_lt this)];exact this);have HU:=h_ hU;clear hy hU hbw0;obtain⟨c0,c1,c2,c3,c4,c5,c6,c7⟩:=cl8 HBe.out;have hI:(0:Int)<((ks.length:Nat):Int):=by rw[HL.out];decide
 go_wp2_with fail
 refine (HKB.out 0 (by rw[HL.out];decide) y0 S w1 kg bf bs s ev n HU.out (HKS.out 0 (by rw[HL.out];decide)) HC.out HD.out (by have:=ud_kid (ks:=ks) (j:=0) (by rw[HL.out];decide);have:=HNN.out;omega)).mono ?_;rintro e w2 ⟨rfl,⟨ev,hC⟩,hF⟩;clear c0 c1 c2 c3 c4 c5 c6 c7 z0 z1 z2 z3 z4 z5 z6 z7 hI;replace HBe:=kF hF HBe;replace HF:=h_ (HF.out.trans hF);replace HC:=h_ hC;replace HBg:=h_ hC.blk;clear hC hF;obtain⟨b0,hbb⟩:∃ x,x=(kEx F rf (ks[0]'(by rw[HL.out];decide)) s).1:=⟨_,rfl⟩
 obtain⟨s0,hss⟩:∃ x,x=(kEx F rf (ks[0]'(by rw[HL.out];decide)) s).2:=⟨_,rfl⟩
 rw[<-hbb];rw[<-hss] at HC;have HBB0:=h_ hbb;have HSS0:=h_ hss;clear hbb hss;clear HU;have HD0:Hid (Dom s0.sc n):=h_ (HD.out.sub (by rw[HSS0.out];exact kdm_b F rf _ s));go_upto_region 2 with fail
 have hlt_g:=lt_of_block HBg.out;have hlt_e:=lt_of_block HBe.out;refine R7.r0 [[],[],[],[2],[2,3],[2,3,4],[2,3,4,5],[0,1,2,3,4,5,6]] 7 ?_;refine R7.cd ?_ (fun T xs wr hA=>?_) ?_
 rotate_left
 ·have e0:=hA.pq 0;simp only[gsa,gsz] at e0;clear hA;go_simp<;>(try with_reducible rfl)
 refine R7.cd ?_ (fun T xs wr hA=>?_) ?_
 rotate_left
 ·have e3:=hA.pq 3;simp only[gsa,gsc,gsz] at e3;have hBq:wr.heap[ke]?=_:=(hA.bl _ hlt_e (fun q h=>absurd h (Nat.not_lt_zero _))).trans HBe.out;obtain⟨q0,q1,q2,q3,q4,q5,q6,q7⟩:=cl8 hBq;clear hBq;clear hA;go_simp<;>(try with_reducible rfl)
 refine R7.cd ?_ (fun T xs wr hA=>?_) ?_
 rotate_left
 ·have e0:=hA.pq 0;simp only[gsa,gsz] at e0;clear hA;go_simp<;>(try with_reducible rfl)
 refine R7.cd ?_ (fun T xs wr hA=>?_) ?_
 rotate_left
 ·have e20:=tr_ (hA.tq 2 20) (hA.fq 2)
  (try simp (disch:=decide) only [R7.mi] at e20)
  clear hA;go_simp<;>(try with_reducible rfl)
 refine R7.cd ?_ (fun T xs wr hA=>?_) ?_
 rotate_left
 ·have e21:=tr_ (hA.tq 3 21) (hA.fq 3)
  (try simp (disch:=decide) only [R7.mi] at e21)
  clear hA;go_simp<;>(try with_reducible rfl)
 refine R7.cd ?_ (fun T xs wr hA=>?_) ?_
 rotate_left
 ·have e22:=tr_ (hA.tq 4 22) (hA.fq 4)
  (try simp (disch:=decide) only [R7.mi] at e22)
  have hBq:wr.heap[kg]?=_:=(hA.bl _ hlt_g (fun q h=>absurd h (Nat.not_lt_zero _))).trans HBg.out;obtain⟨q0,q1,q2,q3⟩:=cl4 hBq;clear hBq;clear hA;go_simp<;>(try with_reducible rfl)
 refine R7.cd ?_ (fun T xs wr hA=>?_) ?_
 rotate_left
 ·have e23:=tr_ (hA.tq 5 23) (hA.fq 5)
  (try simp (disch:=decide) only [R7.mi] at e23)
  clear hA;go_simp<;>(try with_reducible rfl)
 refine R7.Chain.done (fun xs w3 hL=>?_);obtain⟨⟨hbe,hbl⟩,hf,-,-⟩:=hL;have f0:xs 0=_:=hf 0 (by decide);have f1:xs 1=_:=hf 1 (by decide);have f2:xs 2=_:=hf 2 (by decide);have f3:xs 3=_:=hf 3 (by decide);have f4:xs 4=_:=hf 4 (by decide);have f5:xs 5=_:=hf 5 (by decide);have f6:xs 6=_:=hf 6 (by decide)
 (try simp (disch:=decide) only [R7.mi] at f0 f1 f2 f3 f4 f5 f6)
 have hb:Below w2.heap.size w2 w3:=R7.b0_ hbe;clear hbe hbl hf;refine R7.rest_list (by decide) (by kernel_rfl) ?_;simp only[R7.fill,t1_,t2_,t3_,t4_,t5_,t6_,t7_,f0,f1,f2,f3,f4,f5,f6];clear hlt_g hlt_e f0 f1 f2 f3 f4 f5 f6;replace HBg:=kB hb HBg;replace HBe:=kB hb HBe;replace HC:=h_ (HC.out.below hb);replace HF:=fb_ HF hb;clear hb;go_wp2_with fail
 refine (need_p HC.out ⟨(k:Nat),⟨nm.toArray⟩,⟨ot.toArray⟩,false,xao,xn,xq,some a,ks.length,xkc,(ln:Nat),(cl:Nat)⟩ ln cl rfl rfl (!rf) 1).mono ?_;rintro e w4 ⟨rfl,⟨ev,hC⟩,hF⟩;replace HBe:=kF hF HBe;replace HF:=h_ (HF.out.trans hF);replace HC:=h_ hC;replace HBg:=h_ hC.blk;clear hC hF;go_upto_region 3 with fail
 obtain⟨c0,c1,c2,c3,c4,c5,c6,c7⟩:=cl8 HBe.out;unfold iv;go_wp2_with fail
 refine (need_p HC.out ⟨(k:Nat),⟨nm.toArray⟩,⟨ot.toArray⟩,false,xao,xn,xq,some a,ks.length,xkc,(ln:Nat),(cl:Nat)⟩ ln cl rfl rfl (((b0:Nat):Int)==2) 4).mono ?_;rintro e w5 ⟨rfl,⟨ev,hC⟩,hF⟩;clear c0 c1 c2 c3 c4 c5 c6 c7;replace HBe:=kF hF HBe;replace HF:=h_ (HF.out.trans hF);replace HC:=h_ hC;replace HBg:=h_ hC.blk;clear hC hF;rw[nbeq2] at HC;obtain⟨sA,hsA⟩:∃ x,x=(s0.need ln cl (!rf) 1).need ln cl (b0==2) 4:=⟨_,rfl⟩
 rw[<-hsA] at HC;have HSA:=h_ hsA;clear hsA;have HDA:Hid (Dom sA.sc n):=h_ (by rw[HSA.out,need_sc,need_sc];exact HD0.out);obtain⟨sc,er⟩:=sA;go_upto_region 4 with fail
 have hlt_g:=lt_of_block HBg.out;have hlt_e:=lt_of_block HBe.out;refine R7.r0 [[],[0],[0,1],[0,1,2],[],[4],[0,1,2,3,4,5],[0,1,2,3,4,5,6],[0,1,2,3,4,5,6,7],[0,1,2,3,4,5,6,7],[0,1,2,3,4,5,6,7,8],[0,1,2,3,4,5,6,7,8,9,10]] 12 ?_;refine R7.cd ?_ (fun T xs wr hA=>?_) ?_
 rotate_left
 ·have e0:=hA.pq 0;simp only[gsa,gsz] at e0;clear hA;go_simp<;>(try with_reducible rfl)
 refine R7.cd ?_ (fun T xs wr hA=>?_) ?_
 rotate_left
 ·have e32:=tr_ (hA.tq 0 32) (hA.fq 0)
  (try simp (disch:=decide) only [R7.mi] at e32)
  clear hA;go_simp<;>(try with_reducible rfl)
 refine R7.cd ?_ (fun T xs wr hA=>?_) ?_
 rotate_left
 ·have e33:=tr_ (hA.tq 1 33) (hA.fq 1)
  (try simp (disch:=decide) only [R7.mi] at e33)
  clear hA;go_simp<;>(try with_reducible rfl)
 refine R7.cd ?_ (fun T xs wr hA=>?_) ?_
 rotate_left
 ·have e34:=tr_ (hA.tq 2 34) (hA.fq 2)
  (try simp (disch:=decide) only [R7.mi] at e34)
  have hBq:wr.heap[kg]?=_:=(hA.bl _ hlt_g (fun q h=>absurd h (Nat.not_lt_zero _))).trans HBg.out;obtain⟨q0,q1,q2,q3⟩:=cl4 hBq;clear hBq;clear hA;go_simp<;>(try with_reducible rfl)
 refine R7.cd ?_ (fun T xs wr hA=>?_) ?_
 rotate_left
 ·have e3:=hA.pq 3;simp only[gsa,gsc,gsz] at e3;clear hA;go_simp<;>(try with_reducible rfl)
 refine R7.cd ?_ (fun T xs wr hA=>?_) ?_
 rotate_left
 ·have e36:=tr_ (hA.tq 4 36) (hA.fq 4)
  (try simp (disch:=decide) only [R7.mi] at e36)
  have hBq:wr.heap[ke]?=_:=(hA.bl _ hlt_e (fun q h=>absurd h (Nat.not_lt_zero _))).trans HBe.out;obtain⟨q0,q1,q2,q3,q4,q5,q6,q7⟩:=cl8 hBq;clear hBq;clear hA;go_simp<;>(try with_reducible rfl)
 refine R7.Chain.call (fun xs v w=>v=.tuple #[iv ((sc nm).getD 0),.bool (sc nm).isSome]) (fun _ _ _ _ h _=>h) (fun _ _ _ _ _ h _ _=>h) (by rfl) (fun T xs wr hA=>?_) ?_
 ·have hsw:=(hA.be 0 (Nat.zero_le _) (fun _ _=>Nat.zero_le _)).size;have e35:=tr_ (hA.tq 3 35) (hA.fq 3);have e37:=tr_ (hA.tq 5 37) (hA.fq 5)
  (try simp (disch:=decide) only [R7.mi] at e35 e37)
  have hbw:=undrew (hA.be w5.heap.size (Nat.le_refl _) (fun q h=>absurd h (Nat.not_lt_zero _)));have hlk:=(HC.out.sm.keep (hbw.block _ HC.out.sm.lt)).look_ok Tryz.underlying9 Tryz.underlying74 (zeroB wr) (s:=nm) (nm_ok HNM.out);rw[scV_get,scV_some] at hlk;unfold bsv at hlk;clear hbw;clear hA;refine⟨(by rfl),fun K hK=>?_⟩;go_simp
  exact hK.out _ _ rfl (Below.refl _ _)
 refine R7.cd ?_ (fun T xs wr hA=>?_) ?_
 rotate_left
 ·have e38:=hA.tm 6 38 (by rfl) (by rfl);have f38:xs 6=(.tuple #[iv ((sc nm).getD 0),.bool (sc nm).isSome]):=hA.fa 6 (by rfl);rw[f38] at e38;clear f38;clear hA;go_simp<;>(try with_reducible rfl)
 refine R7.cd ?_ (fun T xs wr hA=>?_) ?_
 rotate_left
 ·have e31:=tr_ (hA.tq 7 31) (hA.fq 7)
  (try simp (disch:=decide) only [R7.mi] at e31)
  clear hA;go_simp<;>(try with_reducible rfl)
 refine R7.cd ?_ (fun T xs wr hA=>?_) ?_
 rotate_left
 ·have e31:=tr_ (hA.tq 7 31) (hA.fq 7)
  (try simp (disch:=decide) only [R7.mi] at e31)
  clear hA;go_simp<;>(try with_reducible rfl)
 refine R7.cd ?_ (fun T xs wr hA=>?_) ?_
 rotate_left
 ·have e39:=tr_ (hA.tq 8 39) (hA.fq 8)
  (try simp (disch:=decide) only [R7.mi] at e39)
  clear hA;go_simp<;>(try with_reducible rfl)
 refine R7.cd ?_ (fun T xs wr hA=>?_) ?_
 rotate_left
 ·have e40:=tr_ (hA.tq 9 40) (hA.fq 9)
  (try simp (disch:=decide) only [R7.mi] at e40)
  clear hA;go_simp<;>(try with_reducible rfl)
 refine R7.Chain.done (fun xs w6 hL=>?_);obtain⟨⟨hbe,hbl⟩,hf,-,-⟩:=hL;have f0:xs 0=_:=hf 0 (by decide);have f1:xs 1=_:=hf 1 (by decide);have f2:xs 2=_:=hf 2 (by decide);have f3:xs 3=_:=hf 3 (by decide);have f4:xs 4=_:=hf 4 (by decide);have f5:xs 5=_:=hf 5 (by decide);have f6:xs 6=(.tuple #[iv ((sc nm).getD 0),.bool (sc nm).isSome]):=hf 6 (by decide);have f7:xs 7=_:=hf 7 (by decide);have f8:xs 8=_:=hf 8 (by decide);have f9:xs 9=_:=hf 9 (by decide);have f10:xs 10=_:=hf 10 (by decide);have f11:xs 11=_:=hf 11 (by decide)
 (try simp (disch:=decide) only [R7.mi] at f0 f1 f2 f3 f4 f5 f7 f8 f9 f10 f11)
 have hb:Below w5.heap.size w5 w6:=R7.b0_ hbe;clear hbe hbl hf;refine R7.rest_done ?_;simp only[R7.fill,t5_,t6_,t7_,f0,f1,f2,f3,f4,f5,f6,f7,f8,f9,f10,f11];clear hlt_g hlt_e f0 f1 f2 f3 f4 f5 f6 f7 f8 f9 f10 f11;replace HBg:=kB hb HBg;replace HBe:=kB hb HBe;replace HC:=h_ (HC.out.below hb);replace HF:=fb_ HF hb;clear hb;go_upto_region 5 with fail
 have hlt_g:=lt_of_block HBg.out;have hlt_e:=lt_of_block HBe.out;refine R7.r0 [[],[0],[0,1],[0,1,2],[],[4],[0,1,2,3,4,5],[0,1,2,3,4,5,6],[0,1,2,3,4,5,6,7],[0,1,2,3,4,5,6,7],[0,1,2,3,4,5,6,7,8],[0,1,2,3,4,5,6,7,8,9,10]] 12 ?_;refine R7.cd ?_ (fun T xs wr hA=>?_) ?_
 rotate_left
 ·have e0:=hA.pq 0;simp only[gsa,gsz] at e0;clear hA;go_simp<;>(try with_reducible rfl)
 refine R7.cd ?_ (fun T xs wr hA=>?_) ?_
 rotate_left
 ·have e42:=tr_ (hA.tq 0 42) (hA.fq 0)
  (try simp (disch:=decide) only [R7.mi] at e42)
  clear hA;go_simp<;>(try with_reducible rfl)
 refine R7.cd ?_ (fun T xs wr hA=>?_) ?_
 rotate_left
 ·have e43:=tr_ (hA.tq 1 43) (hA.fq 1)
  (try simp (disch:=decide) only [R7.mi] at e43)
  clear hA;go_simp<;>(try with_reducible rfl)
 refine R7.cd ?_ (fun T xs wr hA=>?_) ?_
 rotate_left
 ·have e44:=tr_ (hA.tq 2 44) (hA.fq 2)
  (try simp (disch:=decide) only [R7.mi] at e44)
  have hBq:wr.heap[kg]?=_:=(hA.bl _ hlt_g (fun q h=>absurd h (Nat.not_lt_zero _))).trans HBg.out;obtain⟨q0,q1,q2,q3⟩:=cl4 hBq;clear hBq;clear hA;go_simp<;>(try with_reducible rfl)
 refine R7.cd ?_ (fun T xs wr hA=>?_) ?_
 rotate_left
 ·have e3:=hA.pq 3;simp only[gsa,gsc,gsz] at e3;clear hA;go_simp<;>(try with_reducible rfl)
 refine R7.cd ?_ (fun T xs wr hA=>?_) ?_
 rotate_left
 ·have e46:=tr_ (hA.tq 4 46) (hA.fq 4)
  (try simp (disch:=decide) only [R7.mi] at e46)
  have hBq:wr.heap[ke]?=_:=(hA.bl _ hlt_e (fun q h=>absurd h (Nat.not_lt_zero _))).trans HBe.out;obtain⟨q0,q1,q2,q3,q4,q5,q6,q7⟩:=cl8 hBq;clear hBq;clear hA;go_simp<;>(try with_reducible rfl)
 refine R7.Chain.call (fun xs v w=>v=.tuple #[iv ((sc ot).getD 0),.bool (sc ot).isSome]) (fun _ _ _ _ h _=>h) (fun _ _ _ _ _ h _ _=>h) (by rfl) (fun T xs wr hA=>?_) ?_
 ·have hsw:=(hA.be 0 (Nat.zero_le _) (fun _ _=>Nat.zero_le _)).size;have e45:=tr_ (hA.tq 3 45) (hA.fq 3);have e47:=tr_ (hA.tq 5 47) (hA.fq 5)
  (try simp (disch:=decide) only [R7.mi] at e45 e47)
  have hbw:=undrew (hA.be w6.heap.size (Nat.le_refl _) (fun q h=>absurd h (Nat.not_lt_zero _)));have hlk:=(HC.out.sm.keep (hbw.block _ HC.out.sm.lt)).look_ok Tryz.underlying9 Tryz.underlying74 (zeroB wr) (s:=ot) (nm_ok HOT.out);rw[scV_get,scV_some] at hlk;unfold bsv at hlk;clear hbw;clear hA;refine⟨(by rfl),fun K hK=>?_⟩;go_simp
  exact hK.out _ _ rfl (Below.refl _ _)
 refine R7.cd ?_ (fun T xs wr hA=>?_) ?_
 rotate_left
 ·have e48:=hA.tm 6 48 (by rfl) (by rfl);have f48:xs 6=(.tuple #[iv ((sc ot).getD 0),.bool (sc ot).isSome]):=hA.fa 6 (by rfl);rw[f48] at e48;clear f48;clear hA;go_simp<;>(try with_reducible rfl)
 refine R7.cd ?_ (fun T xs wr hA=>?_) ?_
 rotate_left
 ·have e41:=tr_ (hA.tq 7 41) (hA.fq 7)
  (try simp (disch:=decide) only [R7.mi] at e41)
  clear hA;go_simp<;>(try with_reducible rfl)
 refine R7.cd ?_ (fun T xs wr hA=>?_) ?_
 rotate_left
 ·have e41:=tr_ (hA.tq 7 41) (hA.fq 7)
  (try simp (disch:=decide) only [R7.mi] at e41)
  clear hA;go_simp<;>(try with_reducible rfl)
 refine R7.cd ?_ (fun T xs wr hA=>?_) ?_
 rotate_left
 ·have e49:=tr_ (hA.tq 8 49) (hA.fq 8)
  (try simp (disch:=decide) only [R7.mi] at e49)
  clear hA;go_simp<;>(try with_reducible rfl)
 refine R7.cd ?_ (fun T xs wr hA=>?_) ?_
 rotate_left
 ·have e50:=tr_ (hA.tq 9 50) (hA.fq 9)
  (try simp (disch:=decide) only [R7.mi] at e50)
  clear hA;go_simp<;>(try with_reducible rfl)
 refine R7.Chain.done (fun xs w7 hL=>?_);obtain⟨⟨hbe,hbl⟩,hf,-,-⟩:=hL;have f0:xs 0=_:=hf 0 (by decide);have f1:xs 1=_:=hf 1 (by decide);have f2:xs 2=_:=hf 2 (by decide);have f3:xs 3=_:=hf 3 (by decide);have f4:xs 4=_:=hf 4 (by decide);have f5:xs 5=_:=hf 5 (by decide);have f6:xs 6=(.tuple #[iv ((sc ot).getD 0),.bool (sc ot).isSome]):=hf 6 (by decide);have f7:xs 7=_:=hf 7 (by decide);have f8:xs 8=_:=hf 8 (by decide);have f9:xs 9=_:=hf 9 (by decide);have f10:xs 10=_:=hf 10 (by decide);have f11:xs 11=_:=hf 11 (by decide)
 (try simp (disch:=decide) only [R7.mi] at f0 f1 f2 f3 f4 f5 f7 f8 f9 f10 f11)
 have hb:Below w6.heap.size w6 w7:=R7.b0_ hbe;clear hbe hbl hf;refine R7.rest_done ?_;simp only[R7.fill,t5_,t6_,t7_,f0,f1,f2,f3,f4,f5,f6,f7,f8,f9,f10,f11];clear hlt_g hlt_e f0 f1 f2 f3 f4 f5 f6 f7 f8 f9 f10 f11;replace HBg:=kB hb HBg;replace HBe:=kB hb HBe;replace HC:=h_ (HC.out.below hb);replace HF:=fb_ HF hb;clear hb
 cases h1:sc nm
 rotate_left 1
 focus
  have b7:(sc nm).isSome=true:=by rw[h1];rfl
  have H1:=h_ h1;clear h1;go_upto_region 6 with fail
  obtain⟨c0,c1,c2,c3,c4,c5,c6,c7⟩:=cl8 HBe.out;go_wp2_with fail
  clear b7;refine (need_p HC.out ⟨(k:Nat),⟨nm.toArray⟩,⟨ot.toArray⟩,false,xao,xn,xq,some a,ks.length,xkc,(ln:Nat),(cl:Nat)⟩ ln cl rfl rfl (false) 3).mono ?_;rintro e w8 ⟨rfl,⟨ev,hC⟩,hF⟩;clear c0 c1 c2 c3 c4 c5 c6 c7;replace HBe:=kF hF HBe;replace HF:=h_ (HF.out.trans hF);replace HC:=h_ hC;replace HBg:=h_ hC.blk;clear hC hF;have hcc:false=((sc nm).isNone && (sc ot).isNone && nm != ot):=by rw[H1.out];rfl
  rw[hcc] at HC;clear hcc
 rotate_left 1
 cases h2:sc ot
 rotate_left 1
 focus
  have b7:(sc nm).isSome=false:=by rw[h1];rfl
  have b9:(sc ot).isSome=true:=by rw[h2];rfl
  have H1:=h_ h1;have H2:=h_ h2;clear h1 h2;go_upto_region 6 with fail
  obtain⟨c0,c1,c2,c3,c4,c5,c6,c7⟩:=cl8 HBe.out;go_wp2_with fail
  clear b7 b9;refine (need_p HC.out ⟨(k:Nat),⟨nm.toArray⟩,⟨ot.toArray⟩,false,xao,xn,xq,some a,ks.length,xkc,(ln:Nat),(cl:Nat)⟩ ln cl rfl rfl (false) 3).mono ?_;rintro e w8 ⟨rfl,⟨ev,hC⟩,hF⟩;clear c0 c1 c2 c3 c4 c5 c6 c7;replace HBe:=kF hF HBe;replace HF:=h_ (HF.out.trans hF);replace HC:=h_ hC;replace HBg:=h_ hC.blk;clear hC hF;have hcc:false=((sc nm).isNone && (sc ot).isNone && nm != ot):=by rw[H1.out,H2.out];rfl
  rw[hcc] at HC;clear hcc
 rotate_left 2
 focus
  have b7:(sc nm).isSome=false:=by rw[h1];rfl
  have b9:(sc ot).isSome=false:=by rw[h2];rfl
  have H1:=h_ h1;have H2:=h_ h2;clear h1 h2;go_upto_region 6 with fail
  obtain⟨c0,c1,c2,c3,c4,c5,c6,c7⟩:=cl8 HBe.out;go_wp2_with fail
  clear b7 b9;refine (need_p HC.out ⟨(k:Nat),⟨nm.toArray⟩,⟨ot.toArray⟩,false,xao,xn,xq,some a,ks.length,xkc,(ln:Nat),(cl:Nat)⟩ ln cl rfl rfl ((!(nm==ot))) 3).mono ?_;rintro e w8 ⟨rfl,⟨ev,hC⟩,hF⟩;clear c0 c1 c2 c3 c4 c5 c6 c7;replace HBe:=kF hF HBe;replace HF:=h_ (HF.out.trans hF);replace HC:=h_ hC;replace HBg:=h_ hC.blk;clear hC hF;have hcc:(!(nm==ot))=((sc nm).isNone && (sc ot).isNone && nm != ot):=by rw[H1.out,H2.out];rfl
  rw[hcc] at HC;clear hcc
 all_goals (
  skip
  obtain⟨sB,hsB⟩:∃ x:Ks,x=Ks.need ⟨sc,er⟩ ln cl ((sc nm).isNone && (sc ot).isNone && nm != ot) 3:=⟨_,rfl⟩
  rw[<-hsB] at HC;have HSB:=h_ hsB;clear hsB;have HDB:Hid (Dom sB.sc n):=h_ (by rw[HSB.out,need_sc];exact HDA.out);go_upto_region 7 with fail
  obtain⟨y1,⟨a1,ha,hy⟩,hU⟩:=HK.out 1 (by rw[HL.out];decide);obtain rfl:a=a1:=by injection ha
  clear ha;have hbw0:=HC.out.bw;obtain⟨z0,z1,z2,z3,z4,z5,z6,z7⟩:=cells8 (w:=w8) (p:=⟨a.block,a.off+8,none⟩) (y:=y1) (fun q v hv=>by have:=hy q v hv;rw[show (⟨a.block,a.off+8,none⟩:Addr).add q=(a.add ((0+1)*8)).add q from rfl,hbw0.cell (cell_lt this)];exact this);have HU:=h_ hU;clear hy hU hbw0;obtain⟨c0,c1,c2,c3,c4,c5,c6,c7⟩:=cl8 HBe.out;have hI:(1:Int)<((ks.length:Nat):Int):=by rw[HL.out];decide
  go_wp2_with fail
  refine (HKB.out 1 (by rw[HL.out];decide) y1 S w8 kg bf bs sB ev n HU.out (HKS.out 1 (by rw[HL.out];decide)) HC.out HDB.out (by have:=ud_kid (ks:=ks) (j:=1) (by rw[HL.out];decide);have:=HNN.out;omega)).mono ?_;rintro e w9 ⟨rfl,⟨ev,hC⟩,hF⟩;clear c0 c1 c2 c3 c4 c5 c6 c7 z0 z1 z2 z3 z4 z5 z6 z7 hI;replace HBe:=kF hF HBe;replace HF:=h_ (HF.out.trans hF);replace HC:=h_ hC;replace HBg:=h_ hC.blk;clear hC hF;obtain⟨b1,hbb⟩:∃ x,x=(kEx F rf (ks[1]'(by rw[HL.out];decide)) sB).1:=⟨_,rfl⟩
  obtain⟨s1,hss⟩:∃ x,x=(kEx F rf (ks[1]'(by rw[HL.out];decide)) sB).2:=⟨_,rfl⟩
  rw[<-hbb];rw[<-hss] at HC;have HBB1:=h_ hbb;have HSS1:=h_ hss;clear hbb hss;clear HU;have HD1:Hid (Dom s1.sc n):=h_ (HDB.out.sub (by rw[HSS1.out];exact kdm_b F rf _ sB));go_upto_region 8 with fail
  have hnm1:n+1<maxLen:=Nat.lt_of_le_of_lt (by have:=HNN.out;omega) big_ok;have hnm0:n<maxLen:=by omega
  obtain⟨w8a,v8,st8,r8,hg8,hst8⟩:=(HC.out.sm.keep (w':=w9.drew) rfl).entry (t:=74) (e:=55) Tryz.underlying9 Tryz.underlying74 (domV HD1.out) hnm0 (s:=nm) (nm_ok HNM.out) (fun w=>zeroB w);obtain⟨w8b,r8b,hm8,hg8b⟩:=hst8 w8a (iv 0) rfl;rw[<-scV_put] at hm8;clear hst8;obtain⟨w8c,v9,st9,r9,hg9,hst9⟩:=hm8.entry (t:=74) (e:=55) Tryz.underlying9 Tryz.underlying74 (domV (HD1.out.put nm 0)) hnm1 (s:=ot) (nm_ok HOT.out) (fun w=>zeroB w);obtain⟨w8d,r9b,hm9,hg9b⟩:=hst9 w8c (iv 2) rfl;rw[<-scV_put] at hm9;clear hst9;unfold bsv at r8 r9;have r8b:(Instr.entryStore 74 (.map (some bs)) (.int .i64 st8) (.int .i64 0)).run Tryz.prog w8a=.ok () w8b:=r8b;have r9b:(Instr.entryStore 74 (.map (some bs)) (.int .i64 st9) (.int .i64 2)).run Tryz.prog w8c=.ok () w8d:=r9b
  have hg:w9.grownBy w8d (some bs):=by have hq:=grown_tr (grown_tr (grown_tr hg8 hg8b) hg9) hg9b;exact⟨hq.os,hq.tape,hq.output,hq.size,hq.block⟩
  have HBg0:Hid (w9.drew.heap[kg]?=_):=h_ HBg.out;have HBe0:Hid (w9.drew.heap[ke]?=_):=h_ HBe.out;have HBga:=kG hg8 HBg0 HGS.out;have HBgb:=kG hg8b HBga HGS.out;have HBea:=kG hg8 HBe0;have HBeb:=kG hg8b HBea;have HRR:=h_ (And.intro r8 (And.intro r8b (And.intro r9 r9b)));clear r8 r8b r9 r9b;obtain⟨val,hval⟩:∃ v:Nat->Value,v=fun j=>match j with | 0=>.pointer (some ⟨kg,0,none⟩) | 1=>.pointer (some ⟨kg,0,none⟩) | 2=>.pointer (some ⟨kg,1,none⟩) | 3=>.map (some bs) | 4=>.pointer (some ⟨ke,1,none⟩) | 5=>.string ⟨nm.toArray⟩ | 6=>.pointer (some ⟨kg,0,none⟩) | 7=>.pointer (some ⟨kg,0,none⟩) | 8=>.pointer (some ⟨kg,1,none⟩) | 9=>.map (some bs) | 10=>.pointer (some ⟨ke,2,none⟩) | 11=>.string ⟨ot.toArray⟩ | 12=>.tuple #[v8,.int .i64 st8] | 13=>.int .i64 st8 | _=>undef:=⟨_,rfl⟩
  have f0:val 0=.pointer (some ⟨kg,0,none⟩):=congrFun hval 0;have f1:val 1=.pointer (some ⟨kg,0,none⟩):=congrFun hval 1;have f2:val 2=.pointer (some ⟨kg,1,none⟩):=congrFun hval 2;have f3:val 3=.map (some bs):=congrFun hval 3;have f4:val 4=.pointer (some ⟨ke,1,none⟩):=congrFun hval 4;have f5:val 5=.string ⟨nm.toArray⟩:=congrFun hval 5;have f6:val 6=.pointer (some ⟨kg,0,none⟩):=congrFun hval 6;have f7:val 7=.pointer (some ⟨kg,0,none⟩):=congrFun hval 7;have f8:val 8=.pointer (some ⟨kg,1,none⟩):=congrFun hval 8;have f9:val 9=.map (some bs):=congrFun hval 9;have f10:val 10=.pointer (some ⟨ke,2,none⟩):=congrFun hval 10;have f11:val 11=.string ⟨ot.toArray⟩:=congrFun hval 11;have f12:val 12=.tuple #[v8,.int .i64 st8]:=congrFun hval 12;have f13:val 13=.int .i64 st8:=congrFun hval 13
  have f14:val 14=undef:=congrFun hval 14;clear hval;obtain⟨Wd,hWd⟩:∃ f:Nat->World->Prop,f=fun s wc=>(s=0/\wc=w9.drew)\/(s=1/\wc=w8a)\/(s=2/\wc=w8b):=⟨_,rfl⟩
  have HWD0:Wd 0 w9.drew:=by rw[hWd];exact .inl ⟨rfl,rfl⟩
  have HWD1:Wd 1 w8a:=by rw[hWd];exact .inr (.inl ⟨rfl,rfl⟩)
  have HWD2:Wd 2 w8b:=by rw[hWd];exact .inr (.inr ⟨rfl,rfl⟩)
  have HWE0:∀ wc,Wd 0 wc->wc=w9.drew:=by rw[hWd];intro wc h;rcases h with ⟨_,h⟩ | ⟨h,_⟩ | ⟨h,_⟩<;>first | exact h | cases h
  have HWE1:∀ wc,Wd 1 wc->wc=w8a:=by rw[hWd];intro wc h;rcases h with ⟨h,_⟩ | ⟨_,h⟩ | ⟨h,_⟩<;>first | exact h | cases h
  have HWE2:∀ wc,Wd 2 wc->wc=w8b:=by rw[hWd];intro wc h;rcases h with ⟨h,_⟩ | ⟨h,_⟩ | ⟨_,h⟩<;>first | exact h | cases h
  have HBL:∀ s wc,Wd s wc->wc.heap[kg]?=some (.cells #[.map (some bf),.map (some bs),.bool rf,ev] 76 (0,0))/\wc.heap[ke]?=some (.cells #[.int .i64 (k:Nat),.string ⟨nm.toArray⟩,.string ⟨ot.toArray⟩,.bool false,.slice xao xn xq,.slice (some a) ks.length xkc,.int .i64 (ln:Nat),.int .i64 (cl:Nat)] 48 (0,0)):=by
   rw[hWd];intro s wc h;rcases h with ⟨_,rfl⟩ | ⟨_,rfl⟩ | ⟨_,rfl⟩
   ·exact⟨HBg0.out,HBe0.out⟩
   ·exact⟨HBga.out,HBea.out⟩
   exact⟨HBgb.out,HBeb.out⟩
  clear hWd;have HBLh:=h_ HBL;have HWEh:=h_ (And.intro HWE0 (And.intro HWE1 HWE2));have HWDh:=h_ (And.intro HWD0 (And.intro HWD1 HWD2));clear HBL HWE0 HWE1 HWE2 HWD0 HWD1 HWD2 HBg0 HBe0 HBga HBea HBgb HBeb;refine Rel11.region (by kernel_rfl) [[],[0],[0,1],[0,1,2],[],[4],[],[6],[6,7],[6,7,8],[],[10],[0,1,2,3,4,5,6,7,8,9],[0,1,2,3,4,5,6,7,8,9,12],[0,1,2,3,4,5,6,7,8,9,12,13],[0,1,2,3,4,5,6,7,8,9,10,11,12,13,14],[0,1,2,3,4,5,6,7,8,9,10,11,12,13,14,15],[0,1,2,3,4,5,6,7,8,9,10,11,12,13,14,15,16]] 15 (by kernel_rfl) (by kernel_rfl) [12,14] (by kernel_rfl) val Wd HWDh.out.1 ?_ ?_ ?_
  ·intro j o ho hj hcs;have HHJ:=hcs
   match j,hj,ho,hcs with
   | 0,_,ho,_ =>
    simp only[gsz,gsc,Option.some.injEq] at ho;subst ho;refine⟨rfl,fun s wc T hW hT K hK=>?_⟩;obtain⟨hG,hE⟩:=HBLh.out s wc hW;have e0:=hT.pre 0 (by kernel_rfl);simp only[gsa,gsz] at e0;clear hG hE hT hW;refine wp_val (w':=wc) (v:=.pointer (some ⟨kg,0,none⟩)) ?_ (by rw[<-f0];exact hK.out);clear hK;go_simp<;>(try with_reducible rfl)
   | 1,_,ho,_ =>
    simp only[gsz,gsc,Option.some.injEq] at ho;subst ho;refine⟨rfl,fun s wc T hW hT K hK=>?_⟩;obtain⟨hG,hE⟩:=HBLh.out s wc hW;have e73:=hT.tm 0 73 (by rfl) (by rfl);rw[f0] at e73;clear hG hE hT hW;refine wp_val (w':=wc) (v:=.pointer (some ⟨kg,0,none⟩)) ?_ (by rw[<-f1];exact hK.out);clear hK;go_simp<;>(try with_reducible rfl)
   | 2,_,ho,_ =>
    simp only[gsz,gsc,Option.some.injEq] at ho;subst ho;refine⟨rfl,fun s wc T hW hT K hK=>?_⟩;obtain⟨hG,hE⟩:=HBLh.out s wc hW;have e74:=hT.tm 1 74 (by rfl) (by rfl);rw[f1] at e74;clear hG hE hT hW;refine wp_val (w':=wc) (v:=.pointer (some ⟨kg,1,none⟩)) ?_ (by rw[<-f2];exact hK.out);clear hK;go_simp<;>(try with_reducible rfl)
   | 3,_,ho,_ =>
    simp only[gsz,gsc,Option.some.injEq] at ho;subst ho;refine⟨rfl,fun s wc T hW hT K hK=>?_⟩;obtain⟨hG,hE⟩:=HBLh.out s wc hW;have e75:=hT.tm 2 75 (by rfl) (by rfl);rw[f2] at e75;have q0:=cell_at (v:=.map (some bf)) hG 0 rfl;have q1:=cell_at (v:=.map (some bs)) hG 1 rfl;have q2:=cell_at (v:=.bool rf) hG 2 rfl;have q3:=cell_at (v:=ev) hG 3 rfl;clear hG hE hT hW;refine wp_val (w':=wc) (v:=.map (some bs)) ?_ (by rw[<-f3];exact hK.out);clear hK;go_simp<;>(try with_reducible rfl)
   | 4,_,ho,_ =>
    simp only[gsz,gsc,Option.some.injEq] at ho;subst ho;refine⟨rfl,fun s wc T hW hT K hK=>?_⟩;obtain⟨hG,hE⟩:=HBLh.out s wc hW;have e3:=hT.pre 3 (by kernel_rfl);simp only[gsa,gsc,gsz] at e3;clear hG hE hT hW;refine wp_val (w':=wc) (v:=.pointer (some ⟨ke,1,none⟩)) ?_ (by rw[<-f4];exact hK.out);clear hK;go_simp<;>(try with_reducible rfl)
   | 5,_,ho,_ =>
    simp only[gsz,gsc,Option.some.injEq] at ho;subst ho;refine⟨rfl,fun s wc T hW hT K hK=>?_⟩;obtain⟨hG,hE⟩:=HBLh.out s wc hW;have e77:=hT.tm 4 77 (by rfl) (by rfl);rw[f4] at e77;have q0:=cell_at (v:=.int .i64 (k:Nat)) hE 0 rfl;have q1:=cell_at (v:=.string ⟨nm.toArray⟩) hE 1 rfl;have q2:=cell_at (v:=.string ⟨ot.toArray⟩) hE 2 rfl;have q3:=cell_at (v:=.bool false) hE 3 rfl;have q4:=cell_at (v:=.slice xao xn xq) hE 4 rfl;have q5:=cell_at (v:=.slice (some a) ks.length xkc) hE 5 rfl;have q6:=cell_at (v:=.int .i64 (ln:Nat)) hE 6 rfl;have q7:=cell_at (v:=.int .i64 (cl:Nat)) hE 7 rfl;clear hG hE hT hW;refine wp_val (w':=wc) (v:=.string ⟨nm.toArray⟩) ?_ (by rw[<-f5];exact hK.out);clear hK;go_simp<;>(try with_reducible rfl)
   | 6,_,ho,_ =>
    simp only[gsz,gsc,Option.some.injEq] at ho;subst ho;refine⟨rfl,fun s wc T hW hT K hK=>?_⟩;obtain⟨hG,hE⟩:=HBLh.out s wc hW;have e0:=hT.pre 0 (by kernel_rfl);simp only[gsa,gsz] at e0;clear hG hE hT hW;refine wp_val (w':=wc) (v:=.pointer (some ⟨kg,0,none⟩)) ?_ (by rw[<-f6];exact hK.out);clear hK;go_simp<;>(try with_reducible rfl)
   | 7,_,ho,_ =>
    simp only[gsz,gsc,Option.some.injEq] at ho;subst ho;refine⟨rfl,fun s wc T hW hT K hK=>?_⟩;obtain⟨hG,hE⟩:=HBLh.out s wc hW;have e79:=hT.tm 6 79 (by rfl) (by rfl);rw[f6] at e79;clear hG hE hT hW;refine wp_val (w':=wc) (v:=.pointer (some ⟨kg,0,none⟩)) ?_ (by rw[<-f7];exact hK.out);clear hK;go_simp<;>(try with_reducible rfl)
   | 8,_,ho,_ =>
    simp only[gsz,gsc,Option.some.injEq] at ho;subst ho;refine⟨rfl,fun s wc T hW hT K hK=>?_⟩;obtain⟨hG,hE⟩:=HBLh.out s wc hW;have e80:=hT.tm 7 80 (by rfl) (by rfl);rw[f7] at e80;clear hG hE hT hW;refine wp_val (w':=wc) (v:=.pointer (some ⟨kg,1,none⟩)) ?_ (by rw[<-f8];exact hK.out);clear hK;go_simp<;>(try with_reducible rfl)
   | 9,_,ho,_ =>
    simp only[gsz,gsc,Option.some.injEq] at ho;subst ho;refine⟨rfl,fun s wc T hW hT K hK=>?_⟩;obtain⟨hG,hE⟩:=HBLh.out s wc hW;have e81:=hT.tm 8 81 (by rfl) (by rfl);rw[f8] at e81;have q0:=cell_at (v:=.map (some bf)) hG 0 rfl;have q1:=cell_at (v:=.map (some bs)) hG 1 rfl;have q2:=cell_at (v:=.bool rf) hG 2 rfl;have q3:=cell_at (v:=ev) hG 3 rfl;clear hG hE hT hW;refine wp_val (w':=wc) (v:=.map (some bs)) ?_ (by rw[<-f9];exact hK.out);clear hK;go_simp<;>(try with_reducible rfl)
   | 10,_,ho,_ =>
    simp only[gsz,gsc,Option.some.injEq] at ho;subst ho;refine⟨rfl,fun s wc T hW hT K hK=>?_⟩;obtain⟨hG,hE⟩:=HBLh.out s wc hW;have e3:=hT.pre 3 (by kernel_rfl);simp only[gsa,gsc,gsz] at e3;clear hG hE hT hW;refine wp_val (w':=wc) (v:=.pointer (some ⟨ke,2,none⟩)) ?_ (by rw[<-f10];exact hK.out);clear hK;go_simp<;>(try with_reducible rfl)
   | 11,_,ho,_ =>
    simp only[gsz,gsc,Option.some.injEq] at ho;subst ho;refine⟨rfl,fun s wc T hW hT K hK=>?_⟩;obtain⟨hG,hE⟩:=HBLh.out s wc hW;have e83:=hT.tm 10 83 (by rfl) (by rfl);rw[f10] at e83;have q0:=cell_at (v:=.int .i64 (k:Nat)) hE 0 rfl;have q1:=cell_at (v:=.string ⟨nm.toArray⟩) hE 1 rfl;have q2:=cell_at (v:=.string ⟨ot.toArray⟩) hE 2 rfl;have q3:=cell_at (v:=.bool false) hE 3 rfl;have q4:=cell_at (v:=.slice xao xn xq) hE 4 rfl;have q5:=cell_at (v:=.slice (some a) ks.length xkc) hE 5 rfl;have q6:=cell_at (v:=.int .i64 (ln:Nat)) hE 6 rfl;have q7:=cell_at (v:=.int .i64 (cl:Nat)) hE 7 rfl;clear hG hE hT hW;refine wp_val (w':=wc) (v:=.string ⟨ot.toArray⟩) ?_ (by rw[<-f11];exact hK.out);clear hK;go_simp<;>(try with_reducible rfl)
   | 12,_,_,hcs=>exact absurd hcs (by decide)
   | 13,_,ho,_ =>
    simp only[gsz,gsc,Option.some.injEq] at ho;subst ho;refine⟨rfl,fun s wc T hW hT K hK=>?_⟩;obtain⟨hG,hE⟩:=HBLh.out s wc hW;have e85:=hT.tm 12 85 (by rfl) (by rfl);rw[f12] at e85;clear hG hE hT hW;refine wp_val (w':=wc) (v:=.int .i64 st8) ?_ (by rw[<-f13];exact hK.out);clear hK;go_simp<;>(try with_reducible rfl)
   | 14,_,_,hcs=>exact absurd hcs (by decide)
   | j+15,hj,_,_=>exact absurd hj (by omega)
  ·intro i j o hi ho
   match i,hi with
   | 0,hi =>
    simp only[gsz,Option.some.injEq] at hi;subst hi;simp only[gsz,gsc,Option.some.injEq] at ho;subst ho;refine⟨rfl,fun wc T hW hT K hK=>?_⟩;obtain rfl:=HWEh.out.1 wc hW;have e76:=hT.tm 3 76 (by rfl) (by rfl);rw[f3] at e76;have e78:=hT.tm 5 78 (by rfl) (by rfl);rw[f5] at e78;refine wp_val (w':=w8a) (v:=.tuple #[v8,.int .i64 st8]) ?_ (by rw[<-f12];exact hK.out _ HWDh.out.2.1)
    simp[execOp,Act.eval,e76,e78,HRR.out.1,Result.andThen]
   | 1,hi =>
    simp only[gsz,gsc,Option.some.injEq] at hi;subst hi;simp only[gsz,gsc,Option.some.injEq] at ho;subst ho;refine⟨rfl,fun wc T hW hT K hK=>?_⟩;obtain rfl:=HWEh.out.2.1 wc hW;have e76:=hT.tm 3 76 (by rfl) (by rfl);rw[f3] at e76;have e86:=hT.tm 13 86 (by rfl) (by rfl);rw[f13] at e86;refine wp_skp (w':=w8b) ?_ (by rw[<-f14];exact hK.out _ HWDh.out.2.2);have r8b:=HRR.out.2.1
    simp[execOp,Act.eval,e76,e86,r8b,Result.andThen]
   | i+2,hi=>simp at hi
  intro w9 hW9;obtain rfl:=HWEh.out.2.2 w9 hW9;clear hW9 HBLh HWEh HWDh;simp only[R7.fill,t1_,t2_,t3_,t4_,t5_,t6_,t7_,f0,f1,f2,f3,f4,f5,f6,f7,f8,f9,f10,f11,f12,f13,f14];clear f0 f1 f2 f3 f4 f5 f6 f7 f8 f9 f10 f11 f12 f13 f14;obtain⟨r8,r8b,r9,r9b⟩:=HRR.out;clear HRR;refine wpList_plain rfl fun K hK=>wp_val (w':=w8c) (v:=.tuple #[v9,.int .i64 st9]) (by simp[execOp,Act.eval,r9,Result.andThen]) (hK _ _ ?_)
  clear hK;refine wpList_plain rfl fun K hK=>wp_val (w':=w8c) (v:=.int .i64 st9) (by simp[execOp,Act.eval,Act.put,Instr.extract,Result.andThen]) (hK _ _ ?_)
  clear hK;refine wpList_plain rfl fun K hK=>wp_skp (w':=w8d) (by simp[execOp,Act.eval,Act.put,r9b,Result.andThen]) (hK _ _ ?_)
  clear hK r8 r8b r9 r9b;replace HBg:=kG hg HBg HGS.out;replace HBe:=kG hg HBe;replace HF:=h_ (HF.out.trans (Fc.of_b hg kg));replace HC:=h_ (HC.out.turn hg hm9);clear hg hm8 hm9 hg8 hg8b hg9 hg9b hnm1 hnm0;obtain⟨sC,hsC⟩:∃ x:Ks,x=⟨(s1.sc.put nm 0).put ot 2,s1.er⟩:=⟨_,rfl⟩
  rw[<-hsC] at HC;have HSC:=h_ hsC;clear hsC;have HDC:Hid (Dom sC.sc (n+1+1)):=h_ (by rw[HSC.out];exact (HD1.out.put nm 0).put ot 2)
  skip
  go_upto_region 9 with fail
  obtain⟨y2,⟨a2,ha,hy⟩,hU⟩:=HK.out 2 (by rw[HL.out];decide);obtain rfl:a=a2:=by injection ha
  clear ha;have hbw0:=HC.out.bw;obtain⟨z0,z1,z2,z3,z4,z5,z6,z7⟩:=cells8 (w:=w8d) (p:=⟨a.block,a.off+16,none⟩) (y:=y2) (fun q v hv=>by have:=hy q v hv;rw[show (⟨a.block,a.off+16,none⟩:Addr).add q=(a.add ((0+2)*8)).add q from rfl,hbw0.cell (cell_lt this)];exact this);have HU:=h_ hU;clear hy hU hbw0;obtain⟨c0,c1,c2,c3,c4,c5,c6,c7⟩:=cl8 HBe.out;have hI:(2:Int)<((ks.length:Nat):Int):=by rw[HL.out];decide
  go_wp2_with fail
  refine (HKB.out 2 (by rw[HL.out];decide) y2 S w8d kg bf bs sC ev (n+1+1) HU.out (HKS.out 2 (by rw[HL.out];decide)) HC.out HDC.out (by have:=ud_kid (ks:=ks) (j:=2) (by rw[HL.out];decide);have:=HNN.out;omega)).mono ?_;rintro e w10 ⟨rfl,⟨ev,hC⟩,hF⟩;clear c0 c1 c2 c3 c4 c5 c6 c7 z0 z1 z2 z3 z4 z5 z6 z7 hI;replace HBe:=kF hF HBe;replace HF:=h_ (HF.out.trans hF);replace HC:=h_ hC;replace HBg:=h_ hC.blk;clear hC hF;obtain⟨b2,hbb⟩:∃ x,x=(kEx F rf (ks[2]'(by rw[HL.out];decide)) sC).1:=⟨_,rfl⟩
  obtain⟨s2,hss⟩:∃ x,x=(kEx F rf (ks[2]'(by rw[HL.out];decide)) sC).2:=⟨_,rfl⟩
  rw[<-hbb];rw[<-hss] at HC;have HBB2:=h_ hbb;have HSS2:=h_ hss;clear hbb hss;clear HU;go_upto_region 10 with fail
  have hlt_g:=lt_of_block HBg.out;have hlt_e:=lt_of_block HBe.out;refine R7.r0 [[],[0],[0,1],[0,1,2],[],[4],[0,1,2,3,4,5]] 6 ?_;refine R7.cd ?_ (fun T xs wr hA=>?_) ?_
  rotate_left
  ·have e0:=hA.pq 0;simp only[gsa,gsz] at e0;clear hA;go_simp<;>(try with_reducible rfl)
  refine R7.cd ?_ (fun T xs wr hA=>?_) ?_
  rotate_left
  ·have e95:=tr_ (hA.tq 0 95) (hA.fq 0)
   (try simp (disch:=decide) only [R7.mi] at e95)
   clear hA;go_simp<;>(try with_reducible rfl)
  refine R7.cd ?_ (fun T xs wr hA=>?_) ?_
  rotate_left
  ·have e96:=tr_ (hA.tq 1 96) (hA.fq 1)
   (try simp (disch:=decide) only [R7.mi] at e96)
   clear hA;go_simp<;>(try with_reducible rfl)
  refine R7.cd ?_ (fun T xs wr hA=>?_) ?_
  rotate_left
  ·have e97:=tr_ (hA.tq 2 97) (hA.fq 2)
   (try simp (disch:=decide) only [R7.mi] at e97)
   have hBq:wr.heap[kg]?=_:=(hA.bl _ hlt_g (fun q h=>absurd h (Nat.not_lt_zero _))).trans HBg.out;obtain⟨q0,q1,q2,q3⟩:=cl4 hBq;clear hBq;clear hA;go_simp<;>(try with_reducible rfl)
  refine R7.cd ?_ (fun T xs wr hA=>?_) ?_
  rotate_left
  ·have e3:=hA.pq 3;simp only[gsa,gsc,gsz] at e3;clear hA;go_simp<;>(try with_reducible rfl)
  refine R7.cd ?_ (fun T xs wr hA=>?_) ?_
  rotate_left
  ·have e99:=tr_ (hA.tq 4 99) (hA.fq 4)
   (try simp (disch:=decide) only [R7.mi] at e99)
   have hBq:wr.heap[ke]?=_:=(hA.bl _ hlt_e (fun q h=>absurd h (Nat.not_lt_zero _))).trans HBe.out;obtain⟨q0,q1,q2,q3,q4,q5,q6,q7⟩:=cl8 hBq;clear hBq;clear hA;go_simp<;>(try with_reducible rfl)
  refine R7.Chain.done (fun xs w11 hL=>?_);obtain⟨⟨hbe,hbl⟩,hf,-,-⟩:=hL;have f0:xs 0=_:=hf 0 (by decide);have f1:xs 1=_:=hf 1 (by decide);have f2:xs 2=_:=hf 2 (by decide);have f3:xs 3=_:=hf 3 (by decide);have f4:xs 4=_:=hf 4 (by decide);have f5:xs 5=_:=hf 5 (by decide)
  (try simp (disch:=decide) only [R7.mi] at f0 f1 f2 f3 f4 f5)
  have hb:Below w10.heap.size w10 w11:=R7.b0_ hbe;clear hbe hbl hf;refine R7.rest_list (by decide) (by kernel_rfl) ?_;simp only[R7.fill,t1_,t2_,t3_,t4_,t5_,t6_,t7_,f0,f1,f2,f3,f4,f5];clear hlt_g hlt_e f0 f1 f2 f3 f4 f5;replace HBg:=kB hb HBg;replace HBe:=kB hb HBe;replace HC:=h_ (HC.out.below hb);replace HF:=fb_ HF hb;clear hb;go_wp2_with (first | (at_delete;refine wp_drop _ rfl _ _ 74 9 rfl 55 Tryz.underlying9 Tryz.underlying74 bs (scV s2.sc) rfl HC.out.sm nm rfl (nm_ok HNM.out) ?_;intro wy hmz hgz) | fail)
  rw[<-scV_del] at hmz;replace HBg:=kG hgz HBg HGS.out;replace HBe:=kG hgz HBe;replace HF:=h_ (HF.out.trans (Fc.of_b hgz kg));replace HC:=h_ (HC.out.turn hgz hmz);clear hmz hgz;go_upto_region 11 with fail
  have hlt_g:=lt_of_block HBg.out;have hlt_e:=lt_of_block HBe.out;refine R7.r0 [[],[0],[0,1],[0,1,2],[],[4],[0,1,2,3,4,5]] 6 ?_;refine R7.cd ?_ (fun T xs wr hA=>?_) ?_
  rotate_left
  ·have e0:=hA.pq 0;simp only[gsa,gsz] at e0;clear hA;go_simp<;>(try with_reducible rfl)
  refine R7.cd ?_ (fun T xs wr hA=>?_) ?_
  rotate_left
  ·have e101:=tr_ (hA.tq 0 101) (hA.fq 0)
   (try simp (disch:=decide) only [R7.mi] at e101)
   clear hA;go_simp<;>(try with_reducible rfl)
  refine R7.cd ?_ (fun T xs wr hA=>?_) ?_
  rotate_left
  ·have e102:=tr_ (hA.tq 1 102) (hA.fq 1)
   (try simp (disch:=decide) only [R7.mi] at e102)
   clear hA;go_simp<;>(try with_reducible rfl)
  refine R7.cd ?_ (fun T xs wr hA=>?_) ?_
  rotate_left
  ·have e103:=tr_ (hA.tq 2 103) (hA.fq 2)
   (try simp (disch:=decide) only [R7.mi] at e103)
   have hBq:wr.heap[kg]?=_:=(hA.bl _ hlt_g (fun q h=>absurd h (Nat.not_lt_zero _))).trans HBg.out;obtain⟨q0,q1,q2,q3⟩:=cl4 hBq;clear hBq;clear hA;go_simp<;>(try with_reducible rfl)
  refine R7.cd ?_ (fun T xs wr hA=>?_) ?_
  rotate_left
  ·have e3:=hA.pq 3;simp only[gsa,gsc,gsz] at e3;clear hA;go_simp<;>(try with_reducible rfl)
  refine R7.cd ?_ (fun T xs wr hA=>?_) ?_
  rotate_left
  ·have e105:=tr_ (hA.tq 4 105) (hA.fq 4)
   (try simp (disch:=decide) only [R7.mi] at e105)
   have hBq:wr.heap[ke]?=_:=(hA.bl _ hlt_e (fun q h=>absurd h (Nat.not_lt_zero _))).trans HBe.out;obtain⟨q0,q1,q2,q3,q4,q5,q6,q7⟩:=cl8 hBq;clear hBq;clear hA;go_simp<;>(try with_reducible rfl)
  refine R7.Chain.done (fun xs w12 hL=>?_);obtain⟨⟨hbe,hbl⟩,hf,-,-⟩:=hL;have f0:xs 0=_:=hf 0 (by decide);have f1:xs 1=_:=hf 1 (by decide);have f2:xs 2=_:=hf 2 (by decide);have f3:xs 3=_:=hf 3 (by decide);have f4:xs 4=_:=hf 4 (by decide);have f5:xs 5=_:=hf 5 (by decide)
  (try simp (disch:=decide) only [R7.mi] at f0 f1 f2 f3 f4 f5)
  have hb:Below wy.heap.size wy w12:=R7.b0_ hbe;clear hbe hbl hf;refine R7.rest_list (by decide) (by kernel_rfl) ?_;simp only[R7.fill,t1_,t2_,t3_,t4_,t5_,t6_,t7_,f0,f1,f2,f3,f4,f5];clear hlt_g hlt_e f0 f1 f2 f3 f4 f5;replace HBg:=kB hb HBg;replace HBe:=kB hb HBe;replace HC:=h_ (HC.out.below hb);replace HF:=fb_ HF hb;clear hb;unfold iv
  go_wp2_with (first | (at_delete;refine wp_drop _ rfl _ _ 74 9 rfl 55 Tryz.underlying9 Tryz.underlying74 bs (scV (s2.sc.del nm)) rfl HC.out.sm ot rfl (nm_ok HOT.out) ?_;intro wz hmz hgz;have hqe:=kG hgz HBe;have c0:=cell_at (v:=.int .i64 (k:Nat)) hqe.out 0 rfl;have c1:=cell_at (v:=.string ⟨nm.toArray⟩) hqe.out 1 rfl;have c2:=cell_at (v:=.string ⟨ot.toArray⟩) hqe.out 2 rfl;have c3:=cell_at (v:=.bool false) hqe.out 3 rfl;have c4:=cell_at (v:=.slice xao xn xq) hqe.out 4 rfl;have c5:=cell_at (v:=.slice (some a) ks.length xkc) hqe.out 5 rfl;have c6:=cell_at (v:=.int .i64 (ln:Nat)) hqe.out 6 rfl;have c7:=cell_at (v:=.int .i64 (cl:Nat)) hqe.out 7 rfl) | fail)
  rw[<-scV_del] at hmz;replace HBg:=kG hgz HBg HGS.out;replace HBe:=kG hgz HBe;replace HF:=h_ (HF.out.trans (Fc.of_b hgz kg));replace HC:=h_ (HC.out.turn hgz hmz);clear hmz hgz;obtain⟨sE,hsE⟩:∃ x:Ks,x=⟨(s2.sc.del nm).del ot,s2.er⟩:=⟨_,rfl⟩
  rw[<-hsE] at HC;have HSE:=h_ hsE;clear hsE;refine (need_p HC.out ⟨(k:Nat),⟨nm.toArray⟩,⟨ot.toArray⟩,false,xao,xn,xq,some a,ks.length,xkc,(ln:Nat),(cl:Nat)⟩ ln cl rfl rfl (((b1:Nat):Int)==((b2:Nat):Int)) 4).mono ?_;rintro e w13 ⟨rfl,⟨ev,hC⟩,hF⟩;clear hqe c0 c1 c2 c3 c4 c5 c6 c7;replace HBe:=kF hF HBe;replace HF:=h_ (HF.out.trans hF);replace HC:=h_ hC;replace HBg:=h_ hC.blk;clear hC hF;have hbb:(((b1:Nat):Int)==((b2:Nat):Int))=(b1==b2):=by rw[Bool.eq_iff_iff,beq_iff_eq,beq_iff_eq];omega
  rw[hbb] at HC;go_wp2_with fail
  go_ret
  have e:kMatch rf nm ot ln cl (kExs F rf ks) s=(b1,sE.need ln cl (b1==b2) 4):=by
   have hA:(⟨sc,er⟩:Ks).need ln cl ((sc nm).isNone && (sc ot).isNone && nm != ot) 3=sB:=HSB.out.symm;unfold kMatch;simp only[HKF0.out,HKF1.out,HKF2.out,<-HBB0.out,<-HSS0.out,<-HSA.out];rw[hA];simp only[<-HBB1.out,<-HSS1.out,<-HSC.out,<-HBB2.out,<-HSS2.out,<-HSE.out]
  rw[e]
  exact⟨rfl,⟨ev,HC.out⟩,HF.out⟩)
theorem predicate_s {w0 w:World} {kg bf bs:Nat} {Gv:Bs->Option Value} {s:Ks} {rf:Bool} {ev:Value} (h:Ck w0 w kg bf bs Gv s rf ev) (x:X) (u:U) (S:Nat->Prop) (hu:Um w0 S x u) (hb:Bnd u) (F:Fs) (hK:BaseOk F Gv true w0 u) (n:Nat) (hd:Dom s.sc n) (hn:n+2*ud u<=1000000000000) (hA:ArT w0) :
  Calls Tryz.prog 63 #[.pointer (some ⟨kg,0,none⟩),xv x] w fun e w'=>e=.returned (.tuple #[])/\CkP w0 w kg bf bs Gv (kPred F u s) false w':=by
 have HU:=h_ hu;have HBU:=h_ hb;have HKB:=h_ hK;have HD:=h_ hd;have HNN:=h_ hn;have HA:=h_ hA;obtain⟨xk,xnm,xot,xb,xao,xn,xq,xko,xkn,xkc,xln,xcl⟩:=x
 have hl:xln=(u.ln:Nat)/\xcl=(u.cl:Nat):=by
  obtain⟨k,nm,ot,z,ln,cl,ks⟩:=u;rw[Um] at hu;obtain⟨⟨e1,e2,e3,e4,e5,e6⟩,_⟩:=hu;exact⟨e5,e6⟩
 have HLC:=h_ hl;clear hl hu hb hK hd hn hA;simp only[xv];have HC:=h_ h;have HBg:=h_ h.blk;have HF:Hid (Fc w w kg bs):=h_ (Fc.refl _ _ _);clear h;have hgs:kg≠bs:=HC.out.gs;have HGS:=h_ hgs;clear hgs;go_enter Tryz.func63,Tryz.ntmps63
 go_upto_region 1 with fail
 obtain⟨w1,ke,hw,hkk,hb,hs1,HBe⟩:=newb w #[.int .i64 xk,.string xnm,.string xot,.bool xb,.slice xao xn xq,.slice xko xkn xkc,.int .i64 xln,.int .i64 xcl] 48;have hge:=lk_ hkk HBg;have hse:bs<ke:=by rw[hkk];exact HC.out.sm.lt
 have hee:w.heap.size<=ke:=by rw[hkk];exact HF.out.size
 rw[hw,<-hkk];replace HBg:=kB hb HBg;replace HC:=h_ (HC.out.below hb);replace HF:=fb_ HF hb;clear hw hb hkk hs1;obtain⟨q0,q1,q2,q3⟩:=cl4 HBg.out;obtain⟨fq0,fq1,fq2,fq3⟩:=fr4 HBg.out;go_upto_region 2 with fail
 clear q0 fq0 q1 fq1 q2 fq2 q3 fq3;obtain⟨wA,hwA⟩:∃ q,q=w1.setCell ⟨kg,2,none⟩ (.bool true):=⟨_,rfl⟩
 rw[<-hwA];have hg:w1.grownBy wA (some kg):=by rw[hwA];exact grown_set _ kg 2 _
 have hblk:wA.heap[kg]?=some (.cells #[.map (some bf),.map (some bs),.bool true,ev] 76 (0,0)):=by rw[hwA];exact heap_setCell_same _ kg 2 _ _ _ HBg.out
 clear hwA;replace HC:=h_ (HC.out.store (s':=s) hg hblk HC.out.sm HC.out.sB HC.out.ne (HC.out.erG hg));replace HBg:=h_ hblk;replace HBe:=kG hg HBe;replace HF:=h_ (HF.out.trans (Fc.of_g hg bs));clear hg hblk;obtain⟨b0,hbb⟩:∃ x,x=(kEx F true u s).1:=⟨_,rfl⟩
 obtain⟨s0,hss⟩:∃ x,x=(kEx F true u s).2:=⟨_,rfl⟩
 have HBB0:=h_ hbb;have HSS0:=h_ hss;clear hbb hss;obtain⟨val,hval⟩:∃ v:Nat->Value,v=fun j=>match j with | 0=>.pointer (some ⟨kg,0,none⟩) | 1=>.agg #[.int .i64 xk,.string xnm,.string xot,.bool xb,.slice xao xn xq,.slice xko xkn xkc,.int .i64 xln,.int .i64 xcl] | 2=>.pointer (some ⟨kg,0,none⟩) | 3=>.agg #[.int .i64 xk,.string xnm,.string xot,.bool xb,.slice xao xn xq,.slice xko xkn xkc,.int .i64 xln,.int .i64 xcl] | 4=>.int .i64 ((b0:Nat):Int) | 5=>.bool (((b0:Nat):Int)==1) | _=>undef:=⟨_,rfl⟩
 have f0:val 0=.pointer (some ⟨kg,0,none⟩):=congrFun hval 0;have f1:val 1=.agg #[.int .i64 xk,.string xnm,.string xot,.bool xb,.slice xao xn xq,.slice xko xkn xkc,.int .i64 xln,.int .i64 xcl]:=congrFun hval 1;have f2:val 2=.pointer (some ⟨kg,0,none⟩):=congrFun hval 2;have f3:val 3=.agg #[.int .i64 xk,.string xnm,.string xot,.bool xb,.slice xao xn xq,.slice xko xkn xkc,.int .i64 xln,.int .i64 xcl]:=congrFun hval 3;have f4:val 4=.int .i64 ((b0:Nat):Int):=congrFun hval 4;have f5:val 5=.bool (((b0:Nat):Int)==1):=congrFun hval 5;clear hval;obtain⟨Wd,hWd⟩:∃ f:Nat->World->Prop,f=fun s wc=>(s=0/\wc=wA.drew)\/(s=1/\((∃ ev,Ck w0 wc kg bf bs Gv s0 true ev)/\Fc wA wc kg bs)):=⟨_,rfl⟩
 have HWa0:Hid (∀ wc,wc=wA.drew->Wd 0 wc):=h_ (by rw[hWd];intro wc h;exact .inl ⟨rfl,h⟩);have HWb0:Hid (∀ wc,Wd 0 wc->wc=wA.drew):=h_ (by rw[hWd];intro wc h;rcases h with ⟨_,h⟩ | ⟨e,_⟩<;>first | exact h | cases e);have HWa1:Hid (∀ wc,((∃ ev,Ck w0 wc kg bf bs Gv s0 true ev)/\Fc wA wc kg bs)->Wd 1 wc):=h_ (by rw[hWd];intro wc h;exact .inr (⟨rfl,h⟩));have HWb1:Hid (∀ wc,Wd 1 wc->((∃ ev,Ck w0 wc kg bf bs Gv s0 true ev)/\Fc wA wc kg bs)):=h_ (by rw[hWd];intro wc h;rcases h with ⟨e,_⟩ | ⟨_,h⟩<;>first | exact h | cases e)
 have HBLe:Hid (∀ s wc,Wd s wc->wc.heap[ke]?=some (.cells #[.int .i64 xk,.string xnm,.string xot,.bool xb,.slice xao xn xq,.slice xko xkn xkc,.int .i64 xln,.int .i64 xcl] 48 (0,0))):=h_ (by
  rw[hWd];intro s wc h;rcases h with ⟨_,h⟩ | ⟨_,h⟩
  ·subst h;exact HBe.out
  exact (kF h.2 HBe (by omega) (by omega)).out)
 clear hWd;refine Rel11.region (by kernel_rfl) [[],[],[],[],[2,3],[2,3,4],[0,1,2,3,4,5]] 6 (by kernel_rfl) (by kernel_rfl) [4] (by kernel_rfl) val Wd (HWa0.out _ rfl) ?_ ?_ ?_
 ·intro j o ho hj hcs
  match j,hj,ho,hcs with
  | 0,_,ho,_ =>
   simp only[gsz,gsc,Option.some.injEq] at ho;subst ho;refine⟨rfl,fun s wc T hW hT K hK=>?_⟩;have e0:=hT.pre 0 (by kernel_rfl);simp only[gsa,gsz] at e0;clear hT hW;refine wp_val (w':=wc) (v:=.pointer (some ⟨kg,0,none⟩)) ?_ (by rw[<-f0];exact hK.out);clear hK;go_simp<;>(try with_reducible rfl)
  | 1,_,ho,_ =>
   simp only[gsz,gsc,Option.some.injEq] at ho;subst ho;refine⟨rfl,fun s wc T hW hT K hK=>?_⟩;have e3:=hT.pre 3 (by kernel_rfl);simp only[gsa,gsc,gsz] at e3;have hBq:=HBLe.out s wc hW;obtain⟨q0,q1,q2,q3,q4,q5,q6,q7⟩:=cl8 hBq;clear hBq;clear hT hW;refine wp_val (w':=wc) (v:=.agg #[.int .i64 xk,.string xnm,.string xot,.bool xb,.slice xao xn xq,.slice xko xkn xkc,.int .i64 xln,.int .i64 xcl]) ?_ (by rw[<-f1];exact hK.out);clear hK;go_simp<;>(try with_reducible rfl)
  | 2,_,ho,_ =>
   simp only[gsz,gsc,Option.some.injEq] at ho;subst ho;refine⟨rfl,fun s wc T hW hT K hK=>?_⟩;have e0:=hT.pre 0 (by kernel_rfl);simp only[gsa,gsz] at e0;clear hT hW;refine wp_val (w':=wc) (v:=.pointer (some ⟨kg,0,none⟩)) ?_ (by rw[<-f2];exact hK.out);clear hK;go_simp<;>(try with_reducible rfl)
  | 3,_,ho,_ =>
   simp only[gsz,gsc,Option.some.injEq] at ho;subst ho;refine⟨rfl,fun s wc T hW hT K hK=>?_⟩;have e3:=hT.pre 3 (by kernel_rfl);simp only[gsa,gsc,gsz] at e3;have hBq:=HBLe.out s wc hW;obtain⟨q0,q1,q2,q3,q4,q5,q6,q7⟩:=cl8 hBq;clear hBq;clear hT hW;refine wp_val (w':=wc) (v:=.agg #[.int .i64 xk,.string xnm,.string xot,.bool xb,.slice xao xn xq,.slice xko xkn xkc,.int .i64 xln,.int .i64 xcl]) ?_ (by rw[<-f3];exact hK.out);clear hK;go_simp<;>(try with_reducible rfl)
  | 4,_,_,hcs=>exact absurd hcs (by decide)
  | 5,_,ho,_ =>
   simp only[gsz,gsc,Option.some.injEq] at ho;subst ho;refine⟨rfl,fun s wc T hW hT K hK=>?_⟩;have e11:=hT.tm 4 11 (by rfl) (by rfl);rw[f4] at e11;clear hT hW;refine wp_val (w':=wc) (v:=.bool (((b0:Nat):Int)==1)) ?_ (by rw[<-f5];exact hK.out);clear hK;go_simp<;>(try with_reducible rfl)
  | j+6,hj,_,_=>exact absurd hj (by omega)
 ·intro i j o hi ho
  match i,hi with
  | 0,hi =>
   simp only[gsz,gsc,Option.some.injEq] at hi;subst hi;simp only[gsz,gsc,Option.some.injEq] at ho;subst ho;refine⟨rfl,fun wc T hW hT K hK=>?_⟩;have e9:=hT.tm 2 9 (by rfl) (by rfl);rw[f2] at e9;have e10:=hT.tm 3 10 (by rfl) (by rfl);rw[f3] at e10;have hWc:=HWb0.out wc hW;clear hW hT;have hK2:=hK.out;rw[f4] at hK2;replace hK:=h_ hK2;clear hK2;subst hWc;have hdr:Below wA.heap.size wA wA.drew:=(Below.refl _ _).drew;have hcs:=complete_s (HC.out.below hdr) ⟨xk,xnm,xot,xb,xao,xn,xq,xko,xkn,xkc,xln,xcl⟩ u S HU.out HBU.out F HKB.out n HD.out HNN.out HA.out;rw[<-HBB0.out,<-HSS0.out] at hcs;simp only[xv,iv] at hcs;clear hdr;go_simp
   refine hcs.mono ?_;rintro e w' ⟨rfl,hp⟩;exact hK.out _ (HWa1.out _ ⟨hp.1,(Fc.of_below (Below.refl _ _).drew _ _).trans hp.2⟩)
  | i+1,hi=>simp at hi
 intro wx hWx;have hWy:=HWb1.out wx hWx;clear hWx HWa0 HWb0 HWa1 HWb1 HBLe;simp only[R7.fill,t1_,t2_,t3_,t4_,t5_,t6_,t7_,f0,f1,f2,f3,f4,f5];clear f0 f1 f2 f3 f4 f5;obtain⟨⟨ev2,hC⟩,hF⟩:=hWy;replace HC:=h_ hC;replace HBg:=h_ hC.blk;replace HBe:=kF hF HBe;replace HF:=h_ (HF.out.trans hF);clear hC hF
 try clear ev
 obtain⟨ev,hev⟩:∃ x,x=ev2:=⟨_,rfl⟩
 rw[<-hev] at HC HBg;clear hev
 try clear ev2
 go_wp2_with fail
 refine (need_p HC.out ⟨xk,xnm,xot,xb,xao,xn,xq,xko,xkn,xkc,xln,xcl⟩ u.ln u.cl HLC.out.1 HLC.out.2 (((b0:Nat):Int)==1) 4).mono ?_;rintro e w2 ⟨rfl,⟨ev,hC⟩,hF⟩;replace HBe:=kF hF HBe;replace HF:=h_ (HF.out.trans hF);replace HC:=h_ hC;replace HBg:=h_ hC.blk;clear hC hF;rw[nbeq1] at HC;obtain⟨q0,q1,q2,q3⟩:=cl4 HBg.out;obtain⟨fq0,fq1,fq2,fq3⟩:=fr4 HBg.out;go_wp2_with fail
 clear q0 fq0 q1 fq1 q2 fq2 q3 fq3;obtain⟨wB,hwA⟩:∃ q,q=w2.setCell ⟨kg,2,none⟩ (.bool false):=⟨_,rfl⟩
 rw[<-hwA];have hg:w2.grownBy wB (some kg):=by rw[hwA];exact grown_set _ kg 2 _
 have hblk:wB.heap[kg]?=some (.cells #[.map (some bf),.map (some bs),.bool false,ev] 76 (0,0)):=by rw[hwA];exact heap_setCell_same _ kg 2 _ _ _ HBg.out
 clear hwA;have e:kPred F u s=s0.need u.ln u.cl (b0==1) 4:=by unfold kPred;rw[<-HBB0.out,<-HSS0.out]
 rw[e];exact bodyPost_end (results_none Tryz.results63 _ _ _) rfl ⟨rfl,⟨ev,HC.out.store (s':=s0.need u.ln u.cl (b0==1) 4) hg hblk HC.out.sm HC.out.sB HC.out.ne (HC.out.erG hg)⟩,HF.out.trans (Fc.of_g hg bs)⟩
def GvOk (w0:World) (S:Nat->Prop) (Gv:Bs->Option Value) (G:Gfn):Prop:=∀ nm,match G nm with
 | none=>Gv nm=none
 | some f=>∃ v x y,Gv nm=some (.agg (fnC f v x y).toArray)/\PmsAt w0 S v f.ps/\f.ps.length<=100000
theorem fnC_one {f:FnU} {v:Value} {x y:X} (h:v.oneCell'=true):∀ u ∈ fnC f v x y,u.oneCell'=true:=by
 intro u hu;simp only[fnC,List.mem_cons,List.not_mem_nil,or_false] at hu;rcases hu with rfl | rfl | rfl | rfl | rfl | rfl | rfl | rfl | rfl | rfl | rfl | rfl | rfl | rfl | rfl | rfl | rfl | rfl | rfl | rfl | rfl | rfl | rfl | rfl | rfl<;>first | rfl | exact h
theorem pms_nil (w:World) (S:Nat->Prop):PmsAt w S (.slice none 0 0) []:=⟨[],rfl,none,0,rfl,⟨Nat.le_refl _,Nat.zero_le _⟩,fun h=>absurd rfl h,fun i h=>absurd h (Nat.not_lt_zero _)⟩
theorem gv_get {w0:World} {S:Nat->Prop} {Gv:Bs->Option Value} {G:Gfn} (h:GvOk w0 S Gv G) (nm:Bs):∃ (B:List Value) (v:Value) (ps:List PmU) (b:Nat),B.length=25/\(∀ u ∈ B,u.oneCell'=true)/\(Gv nm).getD fnZ=.agg B.toArray/\B.toArray[1]?=some v/\B.toArray[3]?=some (iv b)/\PmsAt w0 S v ps/\ps.length<=100000/\(G.fs nm).getD ([],0)=(ps.map PmU.b,b)/\(Gv nm).isSome=(G.fs nm).isSome:=by
 have hg:=h nm
 cases hn:G nm with
 | none =>
  rw[hn] at hg;simp only at hg;refine⟨[.string ⟨#[]⟩,.slice none 0 0,.string ⟨#[]⟩,.int .i64 0,.bool false,.int .i64 0,.string ⟨#[]⟩,.string ⟨#[]⟩,.bool false,.slice none 0 0,.slice none 0 0,.int .i64 0,.int .i64 0,.int .i64 0,.int .i64 0,.int .i64 0,.string ⟨#[]⟩,.string ⟨#[]⟩,.bool false,.slice none 0 0,.slice none 0 0,.int .i64 0,.int .i64 0,.int .i64 0,.int .i64 0],.slice none 0 0,[],0,rfl,by decide,by rw[hg];rfl,rfl,rfl,pms_nil _ _,Nat.zero_le _,?_,?_⟩
  ·show ((G nm).map sigF).getD ([],0)=_;rw[hn];rfl
  rw[hg];show _=((G nm).map sigF).isSome;rw[hn];rfl
 | some f =>
  rw[hn] at hg;obtain⟨v,x,y,h1,h2,h3⟩:=hg;refine⟨fnC f v x y,v,f.ps,f.res.b,rfl,fnC_one h2.one,by rw[h1];rfl,rfl,rfl,h2,h3,?_,?_⟩
  ·show ((G nm).map sigF).getD ([],0)=_;rw[hn];rfl
  rw[h1];show _=((G nm).map sigF).isSome;rw[hn];rfl
theorem cells13 {w:World} {p:Addr} {q:PmU} {x:X} (h:∀ j v,(pmC q x)[j]?=some v->w.cell? (p.add j)=some v):w.cell? p=some (.string ⟨q.nm.toArray⟩)/\w.cell? ⟨p.block,p.off+1,none⟩=some (.int .i64 (q.b:Nat))/\w.cell? ⟨p.block,p.off+2,none⟩=some (.bool q.kn)/\w.cell? ⟨p.block,p.off+3,none⟩=some (.int .i64 x.k)/\w.cell? ⟨p.block,p.off+4,none⟩=some (.string x.nm)/\w.cell? ⟨p.block,p.off+5,none⟩=some (.string x.ot) /\
  w.cell? ⟨p.block,p.off+6,none⟩=some (.bool x.b)/\w.cell? ⟨p.block,p.off+7,none⟩=some (.slice x.ao x.n x.c)/\w.cell? ⟨p.block,p.off+8,none⟩=some (.slice x.ko x.kn x.kc)/\w.cell? ⟨p.block,p.off+9,none⟩=some (.int .i64 x.ln)/\w.cell? ⟨p.block,p.off+10,none⟩=some (.int .i64 x.cl)/\w.cell? ⟨p.block,p.off+11,none⟩=some (.int .i64 (q.ln:Nat))/\w.cell? ⟨p.block,p.off+12,none⟩=some (.int .i64 (q.cl:Nat)):=
 ⟨by have:=h 0 _ rfl;rw[addr_add0] at this;exact this,h 1 _ rfl,h 2 _ rfl,h 3 _ rfl,h 4 _ rfl,h 5 _ rfl,h 6 _ rfl,h 7 _ rfl,h 8 _ rfl,h 9 _ rfl,h 10 _ rfl,h 11 _ rfl,h 12 _ rfl⟩
def bsE:El Nat where
 e:=55
 n:=1
 f b:=[iv b]
 R _ _ _:=True
 pos:=by decide
 len _:=rfl
 one b:=by
  intro u hu;simp only[List.mem_cons,List.not_mem_nil,or_false] at hu;subst hu;rfl
 keep _ _:=trivial
 mono _ _:=trivial
 lt _:=trivial
 noAt:=by decide
theorem infoBase:(Tryz.prog.info? 55).map (fun i=>(i.zero,i.size,i.bytes))=some (some (.int .i64 0),1,8):=by kernel_rfl
theorem row_lb {w:World} {B:Nat} {S:Nat->Prop} {v:Value} {L:List Nat} (h:bsE.Row w B S v L):LB w v L:=by
 obtain⟨ko,kc,rfl,h1,-,h3⟩:=h.at (S':=fun _=>True) (fun _ _=>trivial) (fun _ _=>trivial);refine⟨ko,kc,rfl,h1,fun i hi=>?_⟩;obtain⟨⟨a,rfl,h4⟩,-⟩:=h3 i hi;refine⟨a,rfl,?_⟩;have:=h4 0 (iv L[i]) rfl;rw[addr_add_add] at this
 simpa [bsE] using this
theorem row_ck {α:Type} {E:El α} {w0 w w':World} {kg bf bs B:Nat} {S:Nat->Prop} {Gv:Bs->Option Value} {s:Ks} {rf:Bool} {ev v:Value} {el:List α} (h:E.Row w B S v el) (hg:w.grownBy w' v.ownBlock) (hB:kg<B) (hB0:w0.heap.size<=B) (hc:Ck w0 w kg bf bs Gv s rf ev):Ck w0 w' kg bf bs Gv s rf ev:=by
 rcases h.1.2 with ⟨e,-⟩ | ⟨q,c0,cur,hv,hBq,hq,-⟩
 ·rw[e] at hg;exact hc.below ⟨hg.os,hg.tape,hg.output,hg.size,fun k hk=>hg.block k hk (fun e=>by cases e)⟩
 have:v.ownBlock=some q:=by rw[hv];rfl
 rw[this] at hg;have:=(h.ge this).1;exact hc.own hq E.noAt (by omega) (by omega) hg
theorem row_fc {α:Type} {E:El α} {we w w':World} {kg bs B:Nat} {S:Nat->Prop} {v:Value} {el:List α} (h:E.Row w B S v el) (hg:w.grownBy w' v.ownBlock) (hB:we.heap.size<=B) (hf:Fc we w kg bs):Fc we w' kg bs:=by
 rcases hv:v.ownBlock with _ | q
 ·rw[hv] at hg;exact hf.trans (Fc.of_below ⟨hg.os,hg.tape,hg.output,hg.size,fun k hk=>hg.block k hk (fun e=>by cases e)⟩ _ _)
 rw[hv] at hg;have:=(h.ge hv).1;exact hf.of_new hg (by omega)
theorem call_s {w0 w:World} {kg bf bs:Nat} {Gv:Bs->Option Value} {s:Ks} {rf:Bool} {ev:Value} (h:Ck w0 w kg bf bs Gv s rf ev) (x:X) (k:Nat) (nm ot:Bs) (z ln cl:Nat) (ks:List U) (S:Nat->Prop) (hu:Um w0 S x (.node k nm ot z ln cl ks)) (hb:Bnd (.node k nm ot z ln cl ks)) (kt:Nat) (ts:List Nat) (hT:w.heap[kt]?=some (.cells (ts.map iv).toArray 55 (0,0))) (hts:ts.length<=maxLen) (n1:kt≠kg) (n2:kt≠bs) (G:Gfn) (SG:Nat->Prop) (hG:GvOk w0 SG Gv G) :
  Calls Tryz.prog 78 #[.pointer (some ⟨kg,0,none⟩),xv x,.slice (some ⟨kt,0,none⟩) ts.length ts.length] w fun e w'=>e=.returned (iv (kCall G.fs rf nm ln cl ts s).1)/\CkP w0 w kg bf bs Gv ((kCall G.fs rf nm ln cl ts s).2) rf w':=by
 rw[Um] at hu;obtain⟨⟨e1,e2,e3,e4,e5,e6⟩,⟨h2,h3⟩,⟨h4,h5,h6⟩,h7⟩:=hu;obtain⟨xk,xnm,xot,xb,xao,xn,xq,xko,xkn,xkc,xln,xcl⟩:=x;simp only at e1 e2 e3 e4 e5 e6 h2 h3 h4 h5 h6 h7;rw[Bnd] at hb;have HNM:Hid (nm.length<=3000):=h_ hb.2.1.1;have HTS:=h_ hts;have HGV:=h_ hG;clear h7 hb hts h2 h3 h5 h6 hG;subst e1 e2 e3 e4 e5 e6;subst h4;simp only[xv];obtain⟨B,v,ps,b,g1,g2,g3,g4,g5,g6,g7,g8,g9⟩:=gv_get HGV.out nm;have HB1:=h_ g1;have HB2:=h_ g2;have HB3:=h_ g3;have HB4:=h_ g4;have HB5:=h_ g5;have HPS:=h_ g6;have HPL:=h_ g7;have HF8:=h_ g8;have HF9:=h_ g9;clear g1 g2 g3 g4 g5 g6 g7 g8 g9;have HC:=h_ h;have HBg:=h_ h.blk;have HF:Hid (Fc w w kg bs):=h_ (Fc.refl _ _ _);clear h;have hgs:kg≠bs:=HC.out.gs;have HGS:=h_ hgs;clear hgs;have HBt:=h_ hT;clear hT;have ht_e:kt<w.heap.size:=lt_of_block HBt.out
 have HTE:=h_ ht_e;clear ht_e;go_enter Tryz.func78,Tryz.ntmps78
 go_upto_region 1 with fail
 obtain⟨w1,ke,hw,hkk,hb,hs1,HBe⟩:=newb w #[.int .i64 (k:Nat),.string ⟨nm.toArray⟩,.string ⟨ot.toArray⟩,.bool false,.slice xao xn xq,.slice xko ks.length xkc,.int .i64 (ln:Nat),.int .i64 (cl:Nat)] 48;have hge:=lk_ hkk HBg;have hse:bs<ke:=by rw[hkk];exact HC.out.sm.lt
 have hee:w.heap.size<=ke:=by rw[hkk];exact HF.out.size
 have ht_e:=lk_ hkk HBt;rw[hw,<-hkk];replace HBg:=kB hb HBg;replace HBt:=kB hb HBt;replace HC:=h_ (HC.out.below hb);replace HF:=fb_ HF hb;clear hw hb hkk hs1;have hlt_g:=lt_of_block HBg.out;have hlt_e:=lt_of_block HBe.out;refine R7.r0 [[],[],[],[2],[2,3],[2,3,4],[2,3,4,5],[0,1,2,3,4,5,6]] 7 ?_;refine R7.cd ?_ (fun T xs wr hA=>?_) ?_
 rotate_left
 ·have e0:=hA.pq 0;simp only[gsa,gsz] at e0;clear hA;go_simp<;>(try with_reducible rfl)
 refine R7.cd ?_ (fun T xs wr hA=>?_) ?_
 rotate_left
 ·have e4:=hA.pq 4;simp only[gsa,gsc,gsz] at e4;have hBq:wr.heap[ke]?=_:=(hA.bl _ hlt_e (fun q h=>absurd h (Nat.not_lt_zero _))).trans HBe.out;obtain⟨q0,q1,q2,q3,q4,q5,q6,q7⟩:=cl8 hBq;clear hBq;clear hA;go_simp<;>(try with_reducible rfl)
 refine R7.cd ?_ (fun T xs wr hA=>?_) ?_
 rotate_left
 ·have e0:=hA.pq 0;simp only[gsa,gsz] at e0;clear hA;go_simp<;>(try with_reducible rfl)
 refine R7.cd ?_ (fun T xs wr hA=>?_) ?_
 rotate_left
 ·have e14:=tr_ (hA.tq 2 14) (hA.fq 2)
  (try simp (disch:=decide) only [R7.mi] at e14)
  clear hA;go_simp<;>(try with_reducible rfl)
 refine R7.cd ?_ (fun T xs wr hA=>?_) ?_
 rotate_left
 ·have e15:=tr_ (hA.tq 3 15) (hA.fq 3)
  (try simp (disch:=decide) only [R7.mi] at e15)
  clear hA;go_simp<;>(try with_reducible rfl)
 refine R7.cd ?_ (fun T xs wr hA=>?_) ?_
 rotate_left
 ·have e16:=tr_ (hA.tq 4 16) (hA.fq 4)
  (try simp (disch:=decide) only [R7.mi] at e16)
  have hBq:wr.heap[kg]?=_:=(hA.bl _ hlt_g (fun q h=>absurd h (Nat.not_lt_zero _))).trans HBg.out;obtain⟨q0,q1,q2,q3⟩:=cl4 hBq;clear hBq;clear hA;go_simp<;>(try with_reducible rfl)
 refine R7.cd ?_ (fun T xs wr hA=>?_) ?_
 rotate_left
 ·have e17:=tr_ (hA.tq 5 17) (hA.fq 5)
  (try simp (disch:=decide) only [R7.mi] at e17)
  clear hA;go_simp<;>(try with_reducible rfl)
 refine R7.Chain.done (fun xs w2 hL=>?_);obtain⟨⟨hbe,hbl⟩,hf,-,-⟩:=hL;have f0:xs 0=_:=hf 0 (by decide);have f1:xs 1=_:=hf 1 (by decide);have f2:xs 2=_:=hf 2 (by decide);have f3:xs 3=_:=hf 3 (by decide);have f4:xs 4=_:=hf 4 (by decide);have f5:xs 5=_:=hf 5 (by decide);have f6:xs 6=_:=hf 6 (by decide)
 (try simp (disch:=decide) only [R7.mi] at f0 f1 f2 f3 f4 f5 f6)
 have hb:Below w1.heap.size w1 w2:=R7.b0_ hbe;clear hbe hbl hf;refine R7.rest_list (by decide) (by kernel_rfl) ?_;simp only[R7.fill,t1_,t2_,t3_,t4_,t5_,t6_,t7_,f0,f1,f2,f3,f4,f5,f6];clear hlt_g hlt_e f0 f1 f2 f3 f4 f5 f6;replace HBg:=kB hb HBg;replace HBt:=kB hb HBt;replace HBe:=kB hb HBe;replace HC:=h_ (HC.out.below hb);replace HF:=fb_ HF hb;clear hb;go_wp2_with fail
 refine (need_p HC.out ⟨(k:Nat),⟨nm.toArray⟩,⟨ot.toArray⟩,false,xao,xn,xq,xko,ks.length,xkc,(ln:Nat),(cl:Nat)⟩ ln cl rfl rfl (!rf) 1).mono ?_;rintro e w3 ⟨rfl,⟨ev,hC⟩,hF⟩;replace HBt:=kF hF HBt;replace HBe:=kF hF HBe;replace HF:=h_ (HF.out.trans hF);replace HC:=h_ hC;replace HBg:=h_ hC.blk;clear hC hF;obtain⟨sA,hsA⟩:∃ x,x=s.need ln cl (!rf) 1:=⟨_,rfl⟩
 rw[<-hsA] at HC;have HSA:=h_ hsA;clear hsA;go_upto_region 2 with fail
 obtain⟨wA,hwA⟩:∃ q,q=w3.drew:=⟨_,rfl⟩
 have hbA:Below w3.heap.size w3 wA:=by rw[hwA];exact (Below.refl _ _).drew
 have HWA:=h_ hwA;clear hwA;replace HBg:=kB hbA HBg;replace HBt:=kB hbA HBt;replace HBe:=kB hbA HBe;replace HC:=h_ (HC.out.below hbA);replace HF:=fb_ HF hbA;clear hbA;obtain⟨wB,kf,hw,hkk,hb,hs1,HBf⟩:=newb wA #[.string ⟨#[]⟩,.slice none 0 0,.string ⟨#[]⟩,.int .i64 0,.bool false,.int .i64 0,.string ⟨#[]⟩,.string ⟨#[]⟩,.bool false,.slice none 0 0,.slice none 0 0,.int .i64 0,.int .i64 0,.int .i64 0,.int .i64 0,.int .i64 0,.string ⟨#[]⟩,.string ⟨#[]⟩,.bool false,.slice none 0 0,.slice none 0 0,.int .i64 0,.int .i64 0,.int .i64 0,.int .i64 0] 59;have hgf:=lk_ hkk HBg;have hsf:bs<kf:=by rw[hkk];exact HC.out.sm.lt
 have hef:w.heap.size<=kf:=by rw[hkk];exact HF.out.size
 have hbff:bf<kf:=by rw[hkk];exact HC.out.fm.lt
 have he_f:=lk_ hkk HBe;have ht_f:=lk_ hkk HBt;have HWB:=h_ hw;have HKK:=h_ hkk;have HBA:=h_ hb;obtain⟨wC,hwC⟩:∃ q,q=wB.setRow kf B.toArray:=⟨_,rfl⟩
 have hgC:wB.grownBy wC (some kf):=by rw[hwC];exact grown_setRow _ _ _
 have HGC:=h_ hgC;have HWC:=h_ hwC;have hBC:wC.heap[kf]?=some (.cells B.toArray 59 (0,0)):=by rw[hwC];exact setRow_heap _ _ _ _ _ _ HBf.out
 have HBC:=h_ hBC;clear hw hkk hb hs1 hwC hgC hBC;obtain⟨val,hval⟩:∃ v:Nat->Value,v=fun j=>match j with | 0=>.pointer (some ⟨kg,0,none⟩) | 1=>.pointer (some ⟨kg,0,none⟩) | 2=>.pointer (some ⟨kg,0,none⟩) | 3=>.map (some bf) | 4=>.pointer (some ⟨ke,1,none⟩) | 5=>.string ⟨nm.toArray⟩ | 6=>.tuple #[.agg B.toArray,.bool (Gv nm).isSome] | 7=>.tuple #[.agg B.toArray,.bool (Gv nm).isSome] | 8=>.agg B.toArray | 9=>.bool (Gv nm).isSome | 10=>.pointer (some ⟨kf,0,none⟩) | 11=>undef | _=>undef:=⟨_,rfl⟩
 have f0:val 0=.pointer (some ⟨kg,0,none⟩):=congrFun hval 0;have f1:val 1=.pointer (some ⟨kg,0,none⟩):=congrFun hval 1;have f2:val 2=.pointer (some ⟨kg,0,none⟩):=congrFun hval 2;have f3:val 3=.map (some bf):=congrFun hval 3;have f4:val 4=.pointer (some ⟨ke,1,none⟩):=congrFun hval 4;have f5:val 5=.string ⟨nm.toArray⟩:=congrFun hval 5;have f6:val 6=.tuple #[.agg B.toArray,.bool (Gv nm).isSome]:=congrFun hval 6;have f7:val 7=.tuple #[.agg B.toArray,.bool (Gv nm).isSome]:=congrFun hval 7;have f8:val 8=.agg B.toArray:=congrFun hval 8;have f9:val 9=.bool (Gv nm).isSome:=congrFun hval 9;have f10:val 10=.pointer (some ⟨kf,0,none⟩):=congrFun hval 10;have f11:val 11=undef:=congrFun hval 11;clear hval
 obtain⟨Wd,hWd⟩:∃ f:Nat->World->Prop,f=fun s wc=>(s=0/\wc=wA)\/(s=1/\wc=wB)\/(s=2/\wc=wC):=⟨_,rfl⟩
 have HWa0:Hid (∀ wc,wc=wA->Wd 0 wc):=h_ (by rw[hWd];intro wc h;exact .inl ⟨rfl,h⟩);have HWb0:Hid (∀ wc,Wd 0 wc->wc=wA):=h_ (by rw[hWd];intro wc h;rcases h with ⟨_,h⟩ | ⟨e,_⟩ | ⟨e,_⟩<;>first | exact h | cases e);have HWa1:Hid (∀ wc,wc=wB->Wd 1 wc):=h_ (by rw[hWd];intro wc h;exact .inr (.inl ⟨rfl,h⟩));have HWb1:Hid (∀ wc,Wd 1 wc->wc=wB):=h_ (by rw[hWd];intro wc h;rcases h with ⟨e,_⟩ | ⟨_,h⟩ | ⟨e,_⟩<;>first | exact h | cases e);have HWa2:Hid (∀ wc,wc=wC->Wd 2 wc):=h_ (by rw[hWd];intro wc h;exact .inr (.inr (⟨rfl,h⟩)));have HWb2:Hid (∀ wc,Wd 2 wc->wc=wC):=h_ (by rw[hWd];intro wc h;rcases h with ⟨e,_⟩ | ⟨e,_⟩ | ⟨_,h⟩<;>first | exact h | cases e)
 have HBLg:Hid (∀ s wc,Wd s wc->wc.heap[kg]?=some (.cells #[.map (some bf),.map (some bs),.bool rf,ev] 76 (0,0))):=h_ (by
  rw[hWd];intro s wc h;rcases h with ⟨_,h⟩ | ⟨_,h⟩ | ⟨_,h⟩
  ·subst h;exact HBg.out
  ·subst h;exact (kB HBA.out HBg).out
  subst h;exact (kG HGC.out (kB HBA.out HBg) (by omega)).out)
 have HBLe:Hid (∀ s wc,Wd s wc->wc.heap[ke]?=some (.cells #[.int .i64 (k:Nat),.string ⟨nm.toArray⟩,.string ⟨ot.toArray⟩,.bool false,.slice xao xn xq,.slice xko ks.length xkc,.int .i64 (ln:Nat),.int .i64 (cl:Nat)] 48 (0,0))):=h_ (by
  rw[hWd];intro s wc h;rcases h with ⟨_,h⟩ | ⟨_,h⟩ | ⟨_,h⟩
  ·subst h;exact HBe.out
  ·subst h;exact (kB HBA.out HBe).out
  subst h;exact (kG HGC.out (kB HBA.out HBe) (by omega)).out)
 have HFCM:Hid (∀ s wc,Wd s wc->MapIs Tryz.prog 9 wc bf Gv):=h_ (by
  rw[hWd];intro s wc h;rcases h with ⟨_,h⟩ | ⟨_,h⟩ | ⟨_,h⟩
  ·subst h;exact HC.out.fm
  ·subst h;exact HC.out.fm.keep (HBA.out.block _ HC.out.fm.lt)
  subst h;exact (HC.out.fm.keep (HBA.out.block _ HC.out.fm.lt)).keep (HGC.out.block _ (by have:=HBA.out.size;have:=HC.out.fm.lt;omega) (fun e=>by injection e with e;omega)))
 clear hWd;refine Rel11.region (by kernel_rfl) [[],[0],[0,1],[0,1,2],[],[4],[0,1,2,3,4,5],[0,1,2,3,4,5,6],[0,1,2,3,4,5,6,7],[0,1,2,3,4,5,6,7],[],[0,1,2,3,4,5,6,7,8,10],[0,1,2,3,4,5,6,7,8,9,10,11]] 12 (by kernel_rfl) (by kernel_rfl) [10,11] (by kernel_rfl) val Wd (HWa0.out _ HWA.out.symm) ?_ ?_ ?_
 ·intro j o ho hj hcs
  match j,hj,ho,hcs with
  | 0,_,ho,_ =>
   simp only[gsz,gsc,Option.some.injEq] at ho;subst ho;refine⟨rfl,fun s wc T hW hT K hK=>?_⟩;have e0:=hT.pre 0 (by kernel_rfl);simp only[gsa,gsz] at e0;clear hT hW;refine wp_val (w':=wc) (v:=.pointer (some ⟨kg,0,none⟩)) ?_ (by rw[<-f0];exact hK.out);clear hK;go_simp<;>(try with_reducible rfl)
  | 1,_,ho,_ =>
   simp only[gsz,gsc,Option.some.injEq] at ho;subst ho;refine⟨rfl,fun s wc T hW hT K hK=>?_⟩;have e21:=hT.tm 0 21 (by rfl) (by rfl);rw[f0] at e21;clear hT hW;refine wp_val (w':=wc) (v:=.pointer (some ⟨kg,0,none⟩)) ?_ (by rw[<-f1];exact hK.out);clear hK;go_simp<;>(try with_reducible rfl)
  | 2,_,ho,_ =>
   simp only[gsz,gsc,Option.some.injEq] at ho;subst ho;refine⟨rfl,fun s wc T hW hT K hK=>?_⟩;have e22:=hT.tm 1 22 (by rfl) (by rfl);rw[f1] at e22;clear hT hW;refine wp_val (w':=wc) (v:=.pointer (some ⟨kg,0,none⟩)) ?_ (by rw[<-f2];exact hK.out);clear hK;go_simp<;>(try with_reducible rfl)
  | 3,_,ho,_ =>
   simp only[gsz,gsc,Option.some.injEq] at ho;subst ho;refine⟨rfl,fun s wc T hW hT K hK=>?_⟩;have e23:=hT.tm 2 23 (by rfl) (by rfl);rw[f2] at e23;have hBq:=HBLg.out s wc hW;obtain⟨q0,q1,q2,q3⟩:=cl4 hBq;clear hBq;clear hT hW;refine wp_val (w':=wc) (v:=.map (some bf)) ?_ (by rw[<-f3];exact hK.out);clear hK;go_simp<;>(try with_reducible rfl)
  | 4,_,ho,_ =>
   simp only[gsz,gsc,Option.some.injEq] at ho;subst ho;refine⟨rfl,fun s wc T hW hT K hK=>?_⟩;have e4:=hT.pre 4 (by kernel_rfl);simp only[gsa,gsc,gsz] at e4;clear hT hW;refine wp_val (w':=wc) (v:=.pointer (some ⟨ke,1,none⟩)) ?_ (by rw[<-f4];exact hK.out);clear hK;go_simp<;>(try with_reducible rfl)
  | 5,_,ho,_ =>
   simp only[gsz,gsc,Option.some.injEq] at ho;subst ho;refine⟨rfl,fun s wc T hW hT K hK=>?_⟩;have e25:=hT.tm 4 25 (by rfl) (by rfl);rw[f4] at e25;have hBq:=HBLe.out s wc hW;obtain⟨q0,q1,q2,q3,q4,q5,q6,q7⟩:=cl8 hBq;clear hBq;clear hT hW;refine wp_val (w':=wc) (v:=.string ⟨nm.toArray⟩) ?_ (by rw[<-f5];exact hK.out);clear hK;go_simp<;>(try with_reducible rfl)
  | 6,_,ho,_ =>
   simp only[gsz,gsc,Option.some.injEq] at ho;subst ho;refine⟨rfl,fun s wc T hW hT K hK=>?_⟩;have e24:=hT.tm 3 24 (by rfl) (by rfl);rw[f3] at e24;have e26:=hT.tm 5 26 (by rfl) (by rfl);rw[f5] at e26;have hlk:=(HFCM.out s wc hW).look_ok Tryz.underlying9 Tryz.underlying73 (zeroF wc) (s:=nm) (nm_ok HNM.out);rw[HB3.out] at hlk;unfold bsv at hlk;clear hT hW;refine wp_val (w':=wc) (v:=.tuple #[.agg B.toArray,.bool (Gv nm).isSome]) ?_ (by rw[<-f6];exact hK.out);clear hK;go_simp<;>(try with_reducible rfl)
  | 7,_,ho,_ =>
   simp only[gsz,gsc,Option.some.injEq] at ho;subst ho;refine⟨rfl,fun s wc T hW hT K hK=>?_⟩;have e27:=hT.tm 6 27 (by rfl) (by rfl);rw[f6] at e27;clear hT hW;refine wp_val (w':=wc) (v:=.tuple #[.agg B.toArray,.bool (Gv nm).isSome]) ?_ (by rw[<-f7];exact hK.out);clear hK;go_simp<;>(try with_reducible rfl)
  | 8,_,ho,_ =>
   simp only[gsz,gsc,Option.some.injEq] at ho;subst ho;refine⟨rfl,fun s wc T hW hT K hK=>?_⟩;have e20:=hT.tm 7 20 (by rfl) (by rfl);rw[f7] at e20;clear hT hW;refine wp_val (w':=wc) (v:=.agg B.toArray) ?_ (by rw[<-f8];exact hK.out);clear hK;go_simp<;>(try with_reducible rfl)
  | 9,_,ho,_ =>
   simp only[gsz,gsc,Option.some.injEq] at ho;subst ho;refine⟨rfl,fun s wc T hW hT K hK=>?_⟩;have e20:=hT.tm 7 20 (by rfl) (by rfl);rw[f7] at e20;clear hT hW;refine wp_val (w':=wc) (v:=.bool (Gv nm).isSome) ?_ (by rw[<-f9];exact hK.out);clear hK;go_simp<;>(try with_reducible rfl)
  | 10,_,_,hcs=>exact absurd hcs (by decide)
  | 11,_,_,hcs=>exact absurd hcs (by decide)
  | j+12,hj,_,_=>exact absurd hj (by omega)
 ·intro i j o hi ho
  match i,hi with
  | 0,hi =>
   simp only[gsz,gsc,Option.some.injEq] at hi;subst hi;simp only[gsz,gsc,Option.some.injEq] at ho;subst ho;refine⟨rfl,fun wc T hW hT K hK=>?_⟩;have hWc:=HWb0.out wc hW;clear hW hT;have hK2:=hK.out;rw[f10] at hK2;replace hK:=h_ hK2;clear hK2;subst hWc;go_simp
   have hk1:=HKK.out;have hk2:=HWB.out;rw[<-hk1,hk2];exact hK.out _ (HWa1.out _ rfl)
  | 1,hi =>
   simp only[gsz,gsc,Option.some.injEq] at hi;subst hi;simp only[gsz,gsc,Option.some.injEq] at ho;subst ho;refine⟨rfl,fun wc T hW hT K hK=>?_⟩;have e7:=hT.tm 10 7 (by rfl) (by rfl);rw[f10] at e7;have e28:=hT.tm 8 28 (by rfl) (by rfl);rw[f8] at e28;have hWc:=HWb1.out wc hW;clear hW hT;have hK2:=hK.out;rw[f11] at hK2;replace hK:=h_ hK2;clear hK2;subst hWc;refine wp_store_row (P:=Tryz.prog) 59 (.tmp 7) (.tmp 28) rfl kf B.toArray (by show T.getD 7 undef=_;rw[Array.getD_eq_getD_getElem?,e7];rfl) (by show T.getD 28 undef=_;rw[Array.getD_eq_getD_getElem?,e28];rfl) 59 _ HBf.out (by rw[List.size_toArray,HB1.out];kernel_rfl) (by rw[show B.toArray.size=25 from by rw[List.size_toArray];exact HB1.out];rfl) (by rw[List.all_toArray];exact List.all_eq_true.2 HB2.out) ?_;exact hK.out _ (HWa2.out _ HWC.out.symm)
  | i+2,hi=>simp at hi
 intro wx hWx;have hWy:=HWb2.out wx hWx;clear hWx HWa0 HWb0 HWa1 HWb1 HWa2 HWb2 HBLg HBLe HFCM;simp only[R7.fill,t1_,t2_,t3_,t4_,t5_,t6_,t7_,f0,f1,f2,f3,f4,f5,f6,f7,f8,f9,f10,f11];clear f0 f1 f2 f3 f4 f5 f6 f7 f8 f9 f10 f11;subst hWy;replace HBg:=kG HGC.out (kB HBA.out HBg) (by omega);replace HBe:=kG HGC.out (kB HBA.out HBe) (by omega);replace HBt:=kG HGC.out (kB HBA.out HBt) (by omega);replace HF:=h_ ((HF.out.trans (Fc.of_below HBA.out kg bs)).of_new HGC.out (by omega));replace HC:=h_ ((HC.out.below HBA.out).own HBf.out (by decide) (by omega) (by have:=HC.out.bw.size;have:=HKK.out;omega) HGC.out);replace HBf:=HBC;clear HBC HGC HBA HWB HWA HWC HKK;obtain⟨c0,c1,c2,c3,c4,c5,c6,c7⟩:=cl8 HBe.out;go_wp2_with fail
 refine (need_p HC.out ⟨(k:Nat),⟨nm.toArray⟩,⟨ot.toArray⟩,false,xao,xn,xq,xko,ks.length,xkc,(ln:Nat),(cl:Nat)⟩ ln cl rfl rfl (Gv nm).isSome 3).mono ?_;rintro e w4 ⟨rfl,⟨ev,hC⟩,hF⟩;clear c0 c1 c2 c3 c4 c5 c6 c7;replace HBt:=kF hF HBt;replace HBe:=kF hF HBe;replace HBf:=kF hF HBf;replace HF:=h_ (HF.out.trans hF);replace HC:=h_ hC;replace HBg:=h_ hC.blk;clear hC hF;obtain⟨sB,hsB⟩:∃ x,x=sA.need ln cl (Gv nm).isSome 3:=⟨_,rfl⟩
 rw[<-hsB] at HC;have HSB:=h_ hsB;clear hsB;have q1:=cell_at (v:=v) HBf.out 1 HB4.out;obtain⟨qs,hqs,hat⟩:=HPS.out;obtain⟨ko,kc,hv,⟨hk1,hk2⟩,-,hel⟩:=hat;have HQS:=h_ hqs;have HEL:=h_ hel;have HQL:Hid (qs.length<=100000):=h_ (by have:=HPL.out;rw[<-HQS.out,List.length_map] at this;exact this);subst hv;clear hqs hel HPS;have hkl:qs.length<=9223372036854775807:=Nat.le_trans hk1 hk2;clear hk1 hk2;go_wp2_with fail
 clear q1;have HRW:Hid (bsE.Row w4 (kf+1) (fun _=>False) (.slice none 0 0) []):=h_ (El.Row.nil _ _ _)
 go_loopw [37,9] (fun i sv wr=>∃ (j:Nat) (ev:Value),i=.int .i64 (j:Nat)/\j<=qs.length/\Hid (bsE.Row wr (kf+1) (fun _=>False) sv ((qs.take j).map (fun q=>q.1.b)))/\Hid (Ck w0 wr kg bf bs Gv sB rf ev)/\Hid (wr.heap[ke]?=some (.cells #[.int .i64 (k:Nat),.string ⟨nm.toArray⟩,.string ⟨ot.toArray⟩,.bool false,.slice xao xn xq,.slice xko ks.length xkc,.int .i64 (ln:Nat),.int .i64 (cl:Nat)] 48 (0,0)))/\Hid (wr.heap[kf]?=some (.cells B.toArray 59 (0,0)))/\Hid (wr.heap[kt]?=some (.cells (ts.map iv).toArray 55 (0,0)))/\Hid (Fc w wr kg bs)) (fun i _ _=>qs.length - (intOf i).toNat)
 case atStart=>exact⟨0,ev,rfl,Nat.zero_le _,HRW,HC,HBe,HBf,HBt,HF⟩
 case round =>
  obtain⟨wl,hwl⟩:∃ q,q=wr:=⟨_,rfl⟩
  subst hwl;clear HRW HC HBe HBf HBt HF HBg
  try clear ev
  obtain⟨j,ev,rfl,hj,HRW,HC,HBe,HBf,HBt,HF⟩:=hrel;have HBg:=h_ HC.out.blk;have hlj:((qs.take j).map (fun q=>q.1.b)).length=j:=by rw[List.length_map,List.length_take];omega
  by_cases hi:j<qs.length
  ·obtain⟨⟨a,rfl,hc⟩,-⟩:=HEL.out j hi;have hbw0:=HC.out.bw;obtain⟨z0,z1,z2,z3,z4,z5,z6,z7,z8,z9,z10,z11,z12⟩:=cells13 (w:=wl) (p:=a.add (j*13)) (q:=qs[j].1) (x:=qs[j].2) (fun q v hv=>by have:=hc q v hv;rw[show (a.add (j*13)).add q=(a.add (j*pmE.n)).add q from rfl,hbw0.cell (cell_lt this)];exact this);obtain⟨pp,hpp⟩:∃ q,q=qs[j]:=⟨_,rfl⟩
   rw[<-hpp] at z0 z1 z2 z3 z4 z5 z6 z7 z8 z9 z10 z11 z12;have HPP:=h_ hpp;clear hpp hc hbw0;have HLJ:=h_ hlj;clear hlj;go_upto_region 8 with fail
   have hfp:kf<wl.heap.size:=lt_of_block HBf.out;clear z0 z1 z2 z3 z4 z5 z6 z7 z8 z9 z10 z11 z12;obtain⟨w5,kp,hw,hkk,hb,hs1,HBp⟩:=newb wl #[.string ⟨pp.1.nm.toArray⟩,.int .i64 (pp.1.b:Nat),.bool pp.1.kn,.int .i64 pp.2.k,.string pp.2.nm,.string pp.2.ot,.bool pp.2.b,.slice pp.2.ao pp.2.n pp.2.c,.slice pp.2.ko pp.2.kn pp.2.kc,.int .i64 pp.2.ln,.int .i64 pp.2.cl,.int .i64 (pp.1.ln:Nat),.int .i64 (pp.1.cl:Nat)] 57;have hgp:=lk_ hkk HBg;have hsp:bs<kp:=by rw[hkk];exact HC.out.sm.lt
   have hep:w.heap.size<=kp:=by rw[hkk];exact HF.out.size
   have ht_p:=lk_ hkk HBt;have he_p:=lk_ hkk HBe;have hf_p:=lk_ hkk HBf;rw[hw,<-hkk];replace HBg:=kB hb HBg;replace HBt:=kB hb HBt;replace HBe:=kB hb HBe;replace HBf:=kB hb HBf;replace HRW:=h_ (HRW.out.below hb);replace HC:=h_ (HC.out.below hb);replace HF:=fb_ HF hb;clear hw hb hkk hs1;obtain⟨c0,c1,c2,c3,c4,c5,c6,c7,c8,c9,c10,c11,c12⟩:=cl13 HBp.out;obtain⟨w6,kn,hw,hkk,hb,hs1,HBn⟩:=newb w5 #[.int .i64 (pp.1.b:Nat)] 55;have hkk2:=hkk.symm;have HBB:=h_ hb;have HKN:=h_ hkk;clear hb hs1 hkk;have hrl:((qs.take j).map (fun q=>q.1.b)).length<=1000000:=by rw[HLJ.out];have:=HQL.out;omega
   have hrw6:=HRW.out.below HBB.out;have HR6:=h_ hrw6;have HRL:=h_ hrl;have HB6:Hid (kf+1<=w6.heap.size):=h_ (by have:=HBB.out.size;have:=lt_of_block HBf.out;omega);clear hrl hrw6;go_wp2_with (first | (at_builtin;refine El.Row.append (E:=bsE) HR6.out rfl (.tmp 41) (.tmp 44) 164 rfl Tryz.underlying164 infoBase rfl (by decide) rfl pp.1.b kn 55 rfl HBn.out trivial HRL.out HB6.out ?_;intro v2 w7 hrow hgw;have HRO:=h_ hrow;have HGW:=h_ hgw;clear hrow hgw) | fail)
   clear c0 c1 c2 c3 c4 c5 c6 c7 c8 c9 c10 c11 c12;clear hw hkk2;replace HBg:=kB HBB.out HBg;replace HBt:=kB HBB.out HBt;replace HBe:=kB HBB.out HBe;replace HBf:=kB HBB.out HBf;replace HBp:=kB HBB.out HBp;replace HRW:=h_ (HRW.out.below HBB.out);replace HC:=h_ (HC.out.below HBB.out);replace HF:=h_ (HF.out.trans (Fc.of_below HBB.out _ _));replace HBe:=HR6.out.kR HGW.out (by omega) HBe;replace HBf:=HR6.out.kR HGW.out (by omega) HBf;replace HBt:=HR6.out.kR HGW.out (by omega) HBt;have hw0f:w0.heap.size<=kf+1:=by have:=HC.out.bw.size;have:=HC.out.gB;omega
   replace HC:=h_ (row_ck HR6.out HGW.out (by omega) hw0f HC.out);replace HF:=h_ (row_fc HR6.out HGW.out (by omega) HF.out);have HRO2:Hid (bsE.Row w7 (kf+1) (fun _=>False) v2 ((qs.take (j+1)).map (fun q=>q.1.b))):=h_ (by rw[List.take_succ_eq_append_getElem hi,List.map_append,List.map_singleton,<-HPP.out];exact HRO.out);go_roundw
   case rel=>exact⟨j+1,ev,by go_num,hi,HRO2,HC,HBe,HBf,HBt,HF⟩
   case measure=>simp[intOf];omega
  have hjj:j=qs.length:=by omega
  subst hjj;rw[List.take_length] at HRW;clear hlj hi;have HLM:Hid (qs.map (fun q=>q.1.b)=ps.map PmU.b):=h_ (by rw[<-HQS.out,List.map_map];rfl);rw[HLM.out] at HRW;have HL:=h_ (row_lb HRW.out);go_upto_region 10 with fail
  have hlt_e:=lt_of_block HBe.out;refine R7.r0 [[],[],[],[],[2,3],[0,1,2,3,4]] 5 ?_;refine R7.cd ?_ (fun T xs wr hA=>?_) ?_
  rotate_left
  ·have e0:=hA.pq 0;simp only[gsa,gsz] at e0;clear hA;go_simp<;>(try with_reducible rfl)
  refine R7.cd ?_ (fun T xs wr hA=>?_) ?_
  rotate_left
  ·have e4:=hA.pq 4;simp only[gsa,gsc,gsz] at e4;have hBq:wr.heap[ke]?=_:=(hA.bl _ hlt_e (fun q h=>absurd h (Nat.not_lt_zero _))).trans HBe.out;obtain⟨q0,q1,q2,q3,q4,q5,q6,q7⟩:=cl8 hBq;clear hBq;clear hA;go_simp<;>(try with_reducible rfl)
  refine R7.cd ?_ (fun T xs wr hA=>?_) ?_
  rotate_left
  ·have e2:=hA.pq 2;simp only[gsa,gsc,gsz] at e2;clear hA;go_simp<;>(try with_reducible rfl)
  refine R7.cd ?_ (fun T xs wr hA=>?_) ?_
  rotate_left
  ·have e9:=hA.pq 9;simp only[gsa,gsc,gsz] at e9;clear hA;go_simp<;>(try with_reducible rfl)
  refine R7.Chain.call (fun xs v w=>v=.bool (decide (ts=ps.map PmU.b))) (fun _ _ _ _ h _=>h) (fun _ _ _ _ _ h _ _=>h) (by rfl) (fun T xs wr hA=>?_) ?_
  ·have hsw:=(hA.be 0 (Nat.zero_le _) (fun _ _=>Nat.zero_le _)).size;have e49:=tr_ (hA.tq 2 49) (hA.fq 2);have e50:=tr_ (hA.tq 3 50) (hA.fq 3)
   (try simp (disch:=decide) only [R7.mi] at e49 e50)
   have hbw:=undrew (hA.be wl.heap.size (Nat.le_refl _) (fun q h=>absurd h (Nat.not_lt_zero _)));have hl1:=lb_block (w:=wr) ((hbw.block _ (lt_of_block HBt.out)).trans HBt.out) HTS.out;have hl2:=HL.out.keep (w':=wr) (fun _ _ _ _ a _ ha=>hbw.block _ ha);have HL1:=h_ hl1;have HL2:=h_ hl2;clear hl1 hl2 hbw;clear hA;refine⟨(by rfl),fun K hK=>?_⟩;go_simp
   refine (equal_s wr _ _ ts (ps.map PmU.b) HL1.out HL2.out).mono ?_;rintro e w' ⟨rfl,hb⟩;exact hK.out _ _ rfl hb
  refine R7.Chain.done (fun xs w5 hL=>?_);obtain⟨⟨hbe,hbl⟩,hf,-,-⟩:=hL;have f0:xs 0=_:=hf 0 (by decide);have f1:xs 1=_:=hf 1 (by decide);have f2:xs 2=_:=hf 2 (by decide);have f3:xs 3=_:=hf 3 (by decide);have f4:xs 4=(.bool (decide (ts=ps.map PmU.b))):=hf 4 (by decide)
  (try simp (disch:=decide) only [R7.mi] at f0 f1 f2 f3)
  have hb:Below wl.heap.size wl w5:=R7.b0_ hbe;clear hbe hbl hf;refine R7.rest_list (by decide) (by kernel_rfl) ?_;simp only[R7.fill,t1_,t2_,t3_,t4_,t5_,t6_,t7_,f0,f1,f2,f3,f4];clear hlt_e f0 f1 f2 f3 f4;replace HBg:=kB hb HBg;replace HBt:=kB hb HBt;replace HBe:=kB hb HBe;replace HBf:=kB hb HBf;replace HC:=h_ (HC.out.below hb);replace HF:=fb_ HF hb;clear hb;go_wp2_with fail
  refine (need_p HC.out ⟨(k:Nat),⟨nm.toArray⟩,⟨ot.toArray⟩,false,xao,xn,xq,xko,ks.length,xkc,(ln:Nat),(cl:Nat)⟩ ln cl rfl rfl (decide (ts=ps.map PmU.b)) 4).mono ?_;rintro e w6 ⟨rfl,⟨ev,hC⟩,hF⟩;replace HBt:=kF hF HBt;replace HBe:=kF hF HBe;replace HBf:=kF hF HBf;replace HF:=h_ (HF.out.trans hF);replace HC:=h_ hC;replace HBg:=h_ hC.blk;clear hC hF;have q3:=cell_at (v:=iv b) HBf.out 3 HB5.out;unfold iv at q3;go_wp2_with fail
  go_ret
  have e:kCall G.fs rf nm ln cl ts s=(b,sB.need ln cl (decide (ts=ps.map PmU.b)) 4):=by
   unfold kCall;simp only[HF8.out,<-HF9.out,<-HSA.out,<-HSB.out]
  rw[e];exact⟨rfl,⟨ev,HC.out⟩,HF.out⟩
theorem kRun_snoc:∀ (fs:List Kf) (f:Kf) (s:Ks),kRun (fs++[f]) s=((kRun fs s).1++[(f (kRun fs s).2).1],(f (kRun fs s).2).2)
 | [],f,s=>rfl
 | g::fs,f,s=>by rw[List.cons_append,kRun,kRun_snoc fs f,kRun];rfl
theorem kExs_len (F:Fs) (rf:Bool):∀ ks:List U,(kExs F rf ks).length=ks.length
 | []=>by rw[kExs];rfl
 | u::us=>by rw[kExs,lsc,kExs_len F rf us,lsc]
theorem kExs_get (F:Fs) (rf:Bool) (ks:List U) (j:Nat) (h:j<ks.length):(kExs F rf ks)[j]'(by rw[kExs_len];exact h)=kEx F rf ks[j]:=by
 have:=kf_kid F rf ks j h;unfold kf at this;rw[List.getElem?_eq_getElem (by rw[kExs_len];exact h)] at this;exact this
theorem kRun_take (F:Fs) (rf:Bool) (ks:List U) (j:Nat) (h:j<ks.length) (s:Ks) {t:List Nat} {q:Ks} (hr:kRun ((kExs F rf ks).take j) s=(t,q)) :
  kRun ((kExs F rf ks).take (j+1)) s=(t++[(kEx F rf ks[j] q).1],(kEx F rf ks[j] q).2):=by
 rw[List.take_succ_eq_append_getElem (by rw[kExs_len];exact h),kRun_snoc,hr,kExs_get F rf ks j h]
theorem set_zeros (t:List Nat) (m b:Nat) (hm:0<m):(t++List.replicate m 0).set t.length b=(t++[b])++List.replicate (m - 1) 0:=by
 obtain⟨q,rfl⟩:∃ q,m=q+1:=⟨m - 1,by omega⟩
 rw[List.set_append_right _ _ (Nat.le_refl _),Nat.sub_self,List.replicate_succ,List.set_cons_zero,List.append_assoc,Nat.add_sub_cancel];rfl
theorem blk_iv {w:World} {g:Nat} {T:TypeId} {l:List Nat} (h:Blk w g .i64 T l):w.heap[g]?=some (.cells (l.map iv).toArray T (0,0)):=h
theorem iv_blk {w:World} {g:Nat} {T:TypeId} {l:List Nat} (h:w.heap[g]?=some (.cells (l.map iv).toArray T (0,0))):Blk w g .i64 T l:=h
theorem choice_m {w0 w:World} {kg bf bs:Nat} {Gv:Bs->Option Value} {s:Ks} {rf:Bool} {ev:Value} (h:Ck w0 w kg bf bs Gv s rf ev) (x:X) (nm:Bs) (ln cl:Nat) (e0:x.nm=⟨nm.toArray⟩) (e1:x.ln=(ln:Nat)) (e2:x.cl=(cl:Nat)) (kt:Nat) (t0 t1 t2:Nat) (hT:w.heap[kt]?=some (.cells #[iv t0,iv t1,iv t2] 55 (0,0))) (n1:kt≠kg) (n2:kt≠bs) (m:Nat) (hm:m=3) :
  Calls Tryz.prog 79 #[.pointer (some ⟨kg,0,none⟩),xv x,.slice (some ⟨kt,0,none⟩) m m] w fun e w'=>e=.returned (iv (kIf rf ln cl [t0,t1,t2] s).1)/\CkP w0 w kg bf bs Gv ((kIf rf ln cl [t0,t1,t2] s).2) rf w':=by
 subst hm;exact choice_s h x nm ln cl e0 e1 e2 kt t0 t1 t2 hT n1 n2
theorem threeB {l:List Nat} (h:l.length=3):∃ a b c,l=[a,b,c]:=by
 match l,h with
 | [a,b,c],_=>exact⟨a,b,c,rfl⟩
theorem twoB {l:List Nat} (h:l.length=2):∃ a b,l=[a,b]:=by
 match l,h with
 | [a,b],_=>exact⟨a,b,rfl⟩
theorem base_s {w0 w:World} {kg bf bs:Nat} {Gv:Bs->Option Value} {s:Ks} {rf:Bool} {ev:Value} (h:Ck w0 w kg bf bs Gv s rf ev) (G:Gfn) (SG:Nat->Prop) (hG:GvOk w0 SG Gv G) (x:X) (u:U) (S:Nat->Prop) (hu:Um w0 S x u) (hb:Bnd u) (hkb:u.ks.length<=1000000) (hK:∀ j (h:j<u.ks.length),BaseOk G.fs Gv rf w0 u.ks[j]) (n:Nat) (hd:Dom s.sc n) (hn:n+2*ud u<=1000000000000) :
  Calls Tryz.prog 50 #[.pointer (some ⟨kg,0,none⟩),xv x] w fun e w'=>e=.returned (iv (kEx G.fs rf u s).1)/\CkP w0 w kg bf bs Gv ((kEx G.fs rf u s).2) rf w':=by
 obtain⟨k,nm,ot,z,ln,cl,ks⟩:=u;have HUU:=h_ hu;have HBU:=h_ hb;rw[Um] at hu;obtain⟨⟨e1,e2,e3,e4,e5,e6⟩,⟨h2,h3⟩,⟨h4,h5,h6⟩,h7⟩:=hu;obtain⟨xk,xnm,xot,xb,xao,xn,xq,xko,xkn,xkc,xln,xcl⟩:=x;simp only at e1 e2 e3 e4 e5 e6 h2 h3 h4 h5 h6 h7;have HK:=h_ (fun j (hj:j<ks.length)=>ums_get 0 j h7 hj);rw[Bnd] at hb;have HNM:Hid (nm.length<=3000):=h_ hb.2.1.1;have HAR:=h_ hb.1;have HKS:=h_ (fun j (hj:j<ks.length)=>bnds_mem hb.2.2.2 (List.getElem_mem hj));have HKB:Hid (∀ j (h:j<ks.length),BaseOk G.fs Gv rf w0 ks[j]):=h_ hK;rw[ud] at hn;have HD:=h_ hd;have HNN:=h_ hn;have HGV:=h_ hG;have hkl:ks.length<=9223372036854775807:=by rw[<-h4];exact Nat.le_trans h5.1 h5.2
 have HKM:Hid (ks.length<=maxLen):=h_ (by rw[<-h4];exact Nat.le_trans h5.1 h5.2);have HKL:Hid (ks.length<=1000000):=h_ hkb;clear h7 hb h2 h3 h5 h6 hK hd hn hG hkb;subst e1 e2 e3 e4 e5 e6;subst h4;simp only[xv];have hke:kEx G.fs rf (.node k nm ot z ln cl ks)=kNode G.fs rf k nm ot ln cl (posU (ks.getD 1 u0)) (kExs G.fs rf ks):=by rw[kEx]
 rw[hke];clear hke;have HC:=h_ h;have HBg:=h_ h.blk;have HF:Hid (Fc w w kg bs):=h_ (Fc.refl _ _ _);clear h;have hgs:kg≠bs:=HC.out.gs;have HGS:=h_ hgs;clear hgs;go_enter Tryz.func50,Tryz.ntmps50
 go_upto_region 1 with fail
 obtain⟨w1,ke,hw,hkk,hb,hs1,HBe⟩:=newb w #[.int .i64 (k:Nat),.string ⟨nm.toArray⟩,.string ⟨ot.toArray⟩,.bool false,.slice xao xn xq,.slice xko ks.length xkc,.int .i64 (ln:Nat),.int .i64 (cl:Nat)] 48;have hge:=lk_ hkk HBg;have hse:bs<ke:=by rw[hkk];exact HC.out.sm.lt
 have hee:w.heap.size<=ke:=by rw[hkk];exact HF.out.size
 rw[hw,<-hkk];replace HBg:=kB hb HBg;replace HC:=h_ (HC.out.below hb);replace HF:=fb_ HF hb;clear hw hb hkk hs1
 by_cases h26:k=26
 ·have q26:(((k:Nat):Int)==26)=true:=by rw[beq_iff_eq];omega
  have H26:=h_ h26;clear h26;obtain⟨c0,c1,c2,c3,c4,c5,c6,c7⟩:=cl8 HBe.out;go_upto_region 3 with fail
  clear q26;go_wp2_with fail
  refine (let_s HC.out ⟨(k:Nat),⟨nm.toArray⟩,⟨ot.toArray⟩,false,xao,xn,xq,xko,ks.length,xkc,(ln:Nat),(cl:Nat)⟩ k nm ot z ln cl ks S HUU.out HBU.out G.fs HKB.out n HD.out HNN.out H26.out).mono ?_;rintro e w2 ⟨rfl,⟨ev,hC⟩,hF⟩;clear c0 c1 c2 c3 c4 c5 c6 c7;replace HBe:=kF hF HBe;replace HF:=h_ (HF.out.trans hF);replace HC:=h_ hC;replace HBg:=h_ hC.blk;clear hC hF;go_wp2_with fail
  go_ret
  have e:kNode G.fs rf k nm ot ln cl (posU (ks.getD 1 u0)) (kExs G.fs rf ks) s=kLet rf nm ln cl (kExs G.fs rf ks) s:=by unfold kNode;rw[if_pos H26.out]
  rw[e];exact⟨rfl,⟨ev,HC.out⟩,HF.out⟩
 by_cases h27:k=27
 ·have q26:(((k:Nat):Int)==26)=false:=by rw[beq_eq_false_iff_ne];omega
  have q27:(((k:Nat):Int)==27)=true:=by rw[beq_iff_eq];omega
  have H27:=h_ h27;clear h27;obtain⟨c0,c1,c2,c3,c4,c5,c6,c7⟩:=cl8 HBe.out;go_upto_region 5 with fail
  clear q26 q27;go_wp2_with fail
  refine (match_s HC.out ⟨(k:Nat),⟨nm.toArray⟩,⟨ot.toArray⟩,false,xao,xn,xq,xko,ks.length,xkc,(ln:Nat),(cl:Nat)⟩ k nm ot z ln cl ks S HUU.out HBU.out G.fs HKB.out n HD.out HNN.out H27.out).mono ?_;rintro e w2 ⟨rfl,⟨ev,hC⟩,hF⟩;clear c0 c1 c2 c3 c4 c5 c6 c7;replace HBe:=kF hF HBe;replace HF:=h_ (HF.out.trans hF);replace HC:=h_ hC;replace HBg:=h_ hC.blk;clear hC hF;go_wp2_with fail
  go_ret
  have e:kNode G.fs rf k nm ot ln cl (posU (ks.getD 1 u0)) (kExs G.fs rf ks) s=kMatch rf nm ot ln cl (kExs G.fs rf ks) s:=by unfold kNode;rw[if_neg h26,if_pos H27.out]
  rw[e];exact⟨rfl,⟨ev,HC.out⟩,HF.out⟩
 by_cases h28:k=28
 ·have q26:(((k:Nat):Int)==26)=false:=by rw[beq_eq_false_iff_ne];omega
  have q27:(((k:Nat):Int)==27)=false:=by rw[beq_eq_false_iff_ne];omega
  have q28:(((k:Nat):Int)==28)=true:=by rw[beq_iff_eq];omega
  have H28:=h_ h28;clear h28;obtain⟨c0,c1,c2,c3,c4,c5,c6,c7⟩:=cl8 HBe.out;go_upto_region 7 with fail
  clear q26 q27 q28;go_wp2_with fail
  refine (assert_s HC.out ⟨(k:Nat),⟨nm.toArray⟩,⟨ot.toArray⟩,false,xao,xn,xq,xko,ks.length,xkc,(ln:Nat),(cl:Nat)⟩ k nm ot z ln cl ks S HUU.out HBU.out G.fs HKB.out n HD.out HNN.out H28.out).mono ?_;rintro e w2 ⟨rfl,⟨ev,hC⟩,hF⟩;clear c0 c1 c2 c3 c4 c5 c6 c7;replace HBe:=kF hF HBe;replace HF:=h_ (HF.out.trans hF);replace HC:=h_ hC;replace HBg:=h_ hC.blk;clear hC hF;go_wp2_with fail
  go_ret
  have e:kNode G.fs rf k nm ot ln cl (posU (ks.getD 1 u0)) (kExs G.fs rf ks) s=kAssert rf ln cl (kExs G.fs rf ks) s:=by unfold kNode;rw[if_neg h26,if_neg h27,if_pos H28.out]
  rw[e];exact⟨rfl,⟨ev,HC.out⟩,HF.out⟩
 have e:kNode G.fs rf k nm ot ln cl (posU (ks.getD 1 u0)) (kExs G.fs rf ks) s=kRest G.fs rf k nm ln cl (posU (ks.getD 1 u0)) (kRun (kExs G.fs rf ks) s).1 (kRun (kExs G.fs rf ks) s).2:=by unfold kNode;rw[if_neg h26,if_neg h27,if_neg h28]
 have HE:=h_ e;clear e;have q26:(((k:Nat):Int)==26)=false:=by rw[beq_eq_false_iff_ne];omega
 have q27:(((k:Nat):Int)==27)=false:=by rw[beq_eq_false_iff_ne];omega
 have q28:(((k:Nat):Int)==28)=false:=by rw[beq_eq_false_iff_ne];omega
 have H678:Hid (k≠26/\k≠27/\k≠28):=h_ ⟨h26,h27,h28⟩;clear h26 h27 h28;obtain⟨c0,c1,c2,c3,c4,c5,c6,c7⟩:=cl8 HBe.out;obtain⟨i0,hi0,hz0,hz1,hz2⟩:=info_parts infoBase;have hkm:=HKL.out;obtain⟨kt,hkt⟩:∃ q,w1.heap.size=q:=⟨_,rfl⟩
 go_wp2_with (first | (at_make;refine wpList_make_blk _ rfl _ _ 164 rfl 55 i0 .i64 Tryz.underlying164 hi0 hz0 hz1 _ _ _ _ ks.length rfl rfl rfl rfl (by omega) (by omega) ?_;intro wT hBT hbT hsT;have hqe:=kB hbT HBe;have d5:=cell_at (v:=.slice xko ks.length xkc) hqe.out 5 rfl;clear hqe) | fail)
 clear hkm q26 q27 q28;clear d5;rw[hkt] at hBT;have hgt:kg<kt:=by rw[<-hkt];exact lt_of_block HBg.out
 have hst:bs<kt:=by rw[<-hkt];exact HC.out.sm.lt
 have het:w.heap.size<=kt:=by rw[<-hkt];exact HF.out.size
 have he_t:ke<kt:=by rw[<-hkt];exact lt_of_block HBe.out
 clear c0 c1 c2 c3 c4 c5 c6 c7;replace HBg:=kB hbT HBg;replace HBe:=kB hbT HBe;replace HC:=h_ (HC.out.below hbT);replace HF:=fb_ HF hbT;have HBt:Hid (wT.heap[kt]?=some (.cells ((List.replicate ks.length 0).map iv).toArray 55 (0,0))):=h_ (blk_iv hBT);have HW0:Hid (w0.heap.size<=kt):=h_ (by have:=HC.out.bw.size;have:=HC.out.gB;omega);clear hBT hbT hsT hkt
 go_loopw [32] (fun i wr=>∃ (j:Nat) (ev:Value) (sj:Ks) (tj:List Nat),i=.int .i64 (j:Nat)/\j<=ks.length/\Hid (tj.length=j)/\Hid (kRun ((kExs G.fs rf ks).take j) s=(tj,sj))/\Hid (Dom sj.sc n)/\Hid (Ck w0 wr kg bf bs Gv sj rf ev)/\Hid (wr.heap[ke]?=some (.cells #[.int .i64 (k:Nat),.string ⟨nm.toArray⟩,.string ⟨ot.toArray⟩,.bool false,.slice xao xn xq,.slice xko ks.length xkc,.int .i64 (ln:Nat),.int .i64 (cl:Nat)] 48 (0,0)))/\Hid (wr.heap[kt]?=some (.cells ((tj++List.replicate (ks.length - j) 0).map iv).toArray 55 (0,0)))/\Hid (Fc w wr kg bs)) (fun i _=>ks.length - (intOf i).toNat)
 case atStart=>exact⟨0,ev,s,[],rfl,Nat.zero_le _,h_ rfl,h_ rfl,HD,HC,HBe,HBt,HF⟩
 case round =>
  obtain⟨wl,hwl⟩:∃ q,q=wr:=⟨_,rfl⟩
  subst hwl;clear HC HBe HBt HF HBg
  try clear ev
  obtain⟨j,ev,sj,tj,rfl,hj,HTL,HRN,HDJ,HC,HBe,HBt,HF⟩:=hrel;have HBg:=h_ HC.out.blk
  by_cases hi:j<ks.length
  ·obtain⟨y,⟨a,rfl,hy⟩,hU⟩:=HK.out j hi;have hbw0:=HC.out.bw;obtain⟨z0,z1,z2,z3,z4,z5,z6,z7⟩:=cells8 (w:=wl) (p:=a.add (j*8)) (y:=y) (fun q v hv=>by have:=hy q v hv;rw[Nat.zero_add] at this;rw[hbw0.cell (cell_lt this)];exact this);have HU:=h_ hU;clear hy hU hbw0;obtain⟨c0,c1,c2,c3,c4,c5,c6,c7⟩:=cl8 HBe.out;go_upto_region 12 with fail
   have het2:kt<wl.heap.size:=lt_of_block HBt.out;clear c0 c1 c2 c3 c4 c5 c6 c7 z0 z1 z2 z3 z4 z5 z6 z7;obtain⟨w2,kd,hw,hkk,hb,hs1,HBd⟩:=newb wl #[.int .i64 y.k,.string y.nm,.string y.ot,.bool y.b,.slice y.ao y.n y.c,.slice y.ko y.kn y.kc,.int .i64 y.ln,.int .i64 y.cl] 48;have hgd:=lk_ hkk HBg;have hsd:bs<kd:=by rw[hkk];exact HC.out.sm.lt
   have hed:w.heap.size<=kd:=by rw[hkk];exact HF.out.size
   have he_d:=lk_ hkk HBe;have ht_d:=lk_ hkk HBt;rw[hw,<-hkk];replace HBg:=kB hb HBg;replace HBe:=kB hb HBe;replace HBt:=kB hb HBt;replace HC:=h_ (HC.out.below hb);replace HF:=fb_ HF hb;clear hw hb hkk hs1;obtain⟨d0,d1,d2,d3,d4,d5,d6,d7⟩:=cl8 HBd.out;have qt:w2.cell? ⟨kt,j,none⟩=some (.int .i64 (nth (tj++List.replicate (ks.length - j) 0) j)):=(iv_blk HBt.out).cell (by rw[lsa,HTL.out,List.length_replicate];omega);go_wp2_with fail
   refine (HKB.out j hi y S w2 kg bf bs sj ev n HU.out (HKS.out j hi) HC.out HDJ.out (by have:=ud_kid (ks:=ks) (j:=j) hi;have:=HNN.out;omega)).mono ?_;rintro e w3 ⟨rfl,⟨ev,hC⟩,hF⟩;clear d0 d1 d2 d3 d4 d5 d6 d7 qt;replace HBe:=kF hF HBe;replace HBt:=kF hF HBt;replace HBd:=kF hF HBd;replace HF:=h_ (HF.out.trans hF);replace HC:=h_ hC;replace HBg:=h_ hC.blk;clear hC hF;obtain⟨bj,hbj⟩:∃ x,x=(kEx G.fs rf ks[j] sj).1:=⟨_,rfl⟩
   obtain⟨sk,hsk⟩:∃ x,x=(kEx G.fs rf ks[j] sj).2:=⟨_,rfl⟩
   rw[<-hbj];rw[<-hsk] at HC;have HBJ:=h_ hbj;have HSK:=h_ hsk;clear hbj hsk;have hql:j<(tj++List.replicate (ks.length - j) 0).length:=by rw[lsa,HTL.out,List.length_replicate];omega
   have qt:w3.cell? ⟨kt,j,none⟩=some (.int .i64 (nth (tj++List.replicate (ks.length - j) 0) j)):=(iv_blk HBt.out).cell hql;have ft:w3.frozen? ⟨kt,j,none⟩=false:=(iv_blk HBt.out).frozen j;unfold iv;go_wp2_with fail
   obtain⟨wS,hwS⟩:∃ q,q=w3.setCell ⟨kt,j,none⟩ (.int .i64 (bj:Nat)):=⟨_,rfl⟩
   rw[<-hwS];have hg:w3.grownBy wS (some kt):=by rw[hwS];exact grown_set _ kt j _
   have hB2:=(iv_blk HBt.out).set j bj _ rfl;rw[<-hwS] at hB2;have hset:(tj++List.replicate (ks.length - j) 0).set j bj=(tj++[bj])++List.replicate (ks.length - (j+1)) 0:=by have h1:=set_zeros tj (ks.length - j) bj (by omega);rw[HTL.out] at h1;rw[h1,Nat.sub_sub]
   rw[hset] at hB2;clear hset qt ft hwS;replace HC:=h_ (HC.out.own HBt.out (by decide) (by omega) HW0.out hg);replace HBe:=kG hg HBe;replace HF:=h_ (HF.out.of_new hg het);have HB2:=h_ (blk_iv hB2);clear hg hB2;have HTL2:Hid ((tj++[bj]).length=j+1):=h_ (by rw[lsa,HTL.out];rfl);have HRN2:Hid (kRun ((kExs G.fs rf ks).take (j+1)) s=(tj++[bj],sk)):=h_ (by rw[HBJ.out,HSK.out];exact kRun_take G.fs rf ks j hi s HRN.out);have HDK:Hid (Dom sk.sc n):=h_ (by rw[HSK.out];exact HDJ.out.sub (kdm_b G.fs rf _ sj));go_roundw
   case rel=>exact⟨j+1,ev,sk,tj++[bj],by go_num,hi,HTL2,HRN2,HDK,HC,HBe,HB2,HF⟩
   case measure=>simp[intOf];omega
  have hjj:j=ks.length:=by omega
  subst hjj;have hrn:=HRN.out;rw[List.take_of_length_le (by rw[kExs_len];exact Nat.le_refl _)] at hrn;have HRN2:=h_ hrn;clear hrn;rw[Nat.sub_self,List.replicate_zero,List.append_nil] at HBt;have htm:tj.length<=maxLen:=by rw[HTL.out];exact HKM.out
  have HTM:=h_ htm;clear htm hi HRN
  by_cases h3:k=3
  ·have q3:(((k:Nat):Int)==3)=true:=by rw[beq_iff_eq];omega
   have H3:=h_ h3;clear h3;obtain⟨c0,c1,c2,c3,c4,c5,c6,c7⟩:=cl8 HBe.out;go_upto_region 16 with fail
   clear q3;go_wp2_with fail
   refine (variable_s HC.out ⟨(k:Nat),⟨nm.toArray⟩,⟨ot.toArray⟩,false,xao,xn,xq,xko,ks.length,xkc,(ln:Nat),(cl:Nat)⟩ nm ln cl rfl rfl rfl (nm_ok HNM.out)).mono ?_;rintro e w2 ⟨rfl,⟨ev,hC⟩,hF⟩;clear c0 c1 c2 c3 c4 c5 c6 c7;replace HBe:=kF hF HBe;replace HBt:=kF hF HBt;replace HF:=h_ (HF.out.trans hF);replace HC:=h_ hC;replace HBg:=h_ hC.blk;clear hC hF;go_wp2_with fail
   go_ret
   have e:kRest G.fs rf k nm ln cl (posU (ks.getD 1 u0)) tj sj=kVar nm ln cl sj:=by unfold kRest;rw[if_pos H3.out]
   rw[(HE.out.trans (show _=kRest G.fs rf k nm ln cl (posU (ks.getD 1 u0)) tj sj by rw[HRN2.out])).trans e];exact⟨rfl,⟨ev,HC.out⟩,HF.out⟩
  by_cases h24:k=24
  ·have hcs:=call_s HC.out ⟨(k:Nat),⟨nm.toArray⟩,⟨ot.toArray⟩,false,xao,xn,xq,xko,ks.length,xkc,(ln:Nat),(cl:Nat)⟩ k nm ot z ln cl ks S HUU.out HBU.out kt tj HBt.out HTM.out (by omega) (by omega) G SG HGV.out;rw[HTL.out] at hcs;have HCS:=h_ hcs;clear hcs;have q3:(((k:Nat):Int)==3)=false:=by rw[beq_eq_false_iff_ne];omega
   have q24:(((k:Nat):Int)==24)=true:=by rw[beq_iff_eq];omega
   have H24:=h_ h24;clear h24;obtain⟨c0,c1,c2,c3,c4,c5,c6,c7⟩:=cl8 HBe.out;go_upto_region 18 with fail
   clear q3 q24;go_wp2_with fail
   refine (HCS.out).mono ?_;rintro e w2 ⟨rfl,⟨ev,hC⟩,hF⟩;clear c0 c1 c2 c3 c4 c5 c6 c7;replace HBe:=kF hF HBe;replace HBt:=kF hF HBt;replace HF:=h_ (HF.out.trans hF);replace HC:=h_ hC;replace HBg:=h_ hC.blk;clear hC hF;go_wp2_with fail
   go_ret
   have e:kRest G.fs rf k nm ln cl (posU (ks.getD 1 u0)) tj sj=kCall G.fs rf nm ln cl tj sj:=by unfold kRest;rw[if_neg h3,if_pos H24.out]
   rw[(HE.out.trans (show _=kRest G.fs rf k nm ln cl (posU (ks.getD 1 u0)) tj sj by rw[HRN2.out])).trans e];exact⟨rfl,⟨ev,HC.out⟩,HF.out⟩
  by_cases h25:k=25
  ·obtain⟨t0,t1,t2,ht⟩   := threeB (l:=tj) (by rw[HTL.out];rcases HAR.out.2 with h | h;omega;rw[h,h25];rfl);have hl3:ks.length=3:=by rw[<-HTL.out,ht];rfl
   rw[ht] at HBt;have hcs:=choice_m HC.out ⟨(k:Nat),⟨nm.toArray⟩,⟨ot.toArray⟩,false,xao,xn,xq,xko,ks.length,xkc,(ln:Nat),(cl:Nat)⟩ nm ln cl rfl rfl rfl kt t0 t1 t2 HBt.out (by omega) (by omega) ks.length hl3;have HCS:=h_ hcs;have HT3:=h_ ht;have HL3:=h_ hl3;clear hcs ht hl3;have q3:(((k:Nat):Int)==3)=false:=by rw[beq_eq_false_iff_ne];omega
   have q24:(((k:Nat):Int)==24)=false:=by rw[beq_eq_false_iff_ne];omega
   have q25:(((k:Nat):Int)==25)=true:=by rw[beq_iff_eq];omega
   have H25:=h_ h25;clear h25;obtain⟨c0,c1,c2,c3,c4,c5,c6,c7⟩:=cl8 HBe.out;go_upto_region 20 with fail
   clear q3 q24 q25;go_wp2_with fail
   refine (HCS.out).mono ?_;rintro e w2 ⟨rfl,⟨ev,hC⟩,hF⟩;clear c0 c1 c2 c3 c4 c5 c6 c7;replace HBe:=kF hF HBe;replace HBt:=kF hF HBt;replace HF:=h_ (HF.out.trans hF);replace HC:=h_ hC;replace HBg:=h_ hC.blk;clear hC hF;go_wp2_with fail
   go_ret
   have e:kRest G.fs rf k nm ln cl (posU (ks.getD 1 u0)) tj sj=kIf rf ln cl [t0,t1,t2] sj:=by rw[HT3.out];unfold kRest;rw[if_neg h3,if_neg h24,if_pos H25.out]
   rw[(HE.out.trans (show _=kRest G.fs rf k nm ln cl (posU (ks.getD 1 u0)) tj sj by rw[HRN2.out])).trans e];exact⟨rfl,⟨ev,HC.out⟩,HF.out⟩
  by_cases h15:k=15
  ·obtain⟨t0,t1,ht⟩:=twoB (l:=tj) (by rw[HTL.out];rcases HAR.out.2 with h | h;omega;rw[h,h15];rfl);have hl3:ks.length=2:=by rw[<-HTL.out,ht];rfl
   rw[ht] at HBt;have HT3:=h_ ht;have HL3:=h_ hl3;clear ht hl3;replace HBt:Hid (wl.heap[kt]?=some (.cells #[.int .i64 (t0:Nat),.int .i64 (t1:Nat)] 55 (0,0))):=HBt;have q3:(((k:Nat):Int)==3)=false:=by rw[beq_eq_false_iff_ne];omega
   have q24:(((k:Nat):Int)==24)=false:=by rw[beq_eq_false_iff_ne];omega
   have q25:(((k:Nat):Int)==25)=false:=by rw[beq_eq_false_iff_ne];omega
   have q15:(((k:Nat):Int)==15)=true:=by rw[beq_iff_eq];omega
   have H15:=h_ h15;clear h15;obtain⟨c0,c1,c2,c3,c4,c5,c6,c7⟩:=cl8 HBe.out;go_upto_region 23 with fail
   clear q3 q24 q25 q15;clear c0 c1 c2 c3 c4 c5 c6 c7;rw[HL3.out];have hlt_e:=lt_of_block HBe.out;have hlt_t:=lt_of_block HBt.out;refine R7.r0 [[],[],[],[2],[2,3],[],[5],[5,6],[2,3,4,5,6,7],[0,1,2,3,4,5,6,7,8]] 9 ?_;refine R7.cd ?_ (fun T xs wr hA=>?_) ?_
   rotate_left
   ·have e0:=hA.pq 0;simp only[gsa,gsz] at e0;clear hA;go_simp<;>(try with_reducible rfl)
   refine R7.cd ?_ (fun T xs wr hA=>?_) ?_
   rotate_left
   ·have e3:=hA.pq 3;simp only[gsa,gsc,gsz] at e3;have hBq:wr.heap[ke]?=_:=(hA.bl _ hlt_e (fun q h=>absurd h (Nat.not_lt_zero _))).trans HBe.out;obtain⟨q0,q1,q2,q3,q4,q5,q6,q7⟩:=cl8 hBq;clear hBq;clear hA;go_simp<;>(try with_reducible rfl)
   refine R7.cd ?_ (fun T xs wr hA=>?_) ?_
   rotate_left
   ·have e5:=hA.pq 5;simp only[gsa,gsc,gsz] at e5;clear hA;go_simp<;>(try with_reducible rfl)
   refine R7.cd ?_ (fun T xs wr hA=>?_) ?_
   rotate_left
   ·have e68:=tr_ (hA.tq 2 68) (hA.fq 2)
    (try simp (disch:=decide) only [R7.mi] at e68)
    clear hA;go_simp<;>(try with_reducible rfl)
   refine R7.cd ?_ (fun T xs wr hA=>?_) ?_
   rotate_left
   ·have e69:=tr_ (hA.tq 3 69) (hA.fq 3)
    (try simp (disch:=decide) only [R7.mi] at e69)
    have hBq:wr.heap[kt]?=_:=(hA.bl _ hlt_t (fun q h=>absurd h (Nat.not_lt_zero _))).trans HBt.out;obtain⟨q0,q1⟩:=cl2 hBq;clear hBq;clear hA;go_simp<;>(try with_reducible rfl)
   refine R7.cd ?_ (fun T xs wr hA=>?_) ?_
   rotate_left
   ·have e5:=hA.pq 5;simp only[gsa,gsc,gsz] at e5;clear hA;go_simp<;>(try with_reducible rfl)
   refine R7.cd ?_ (fun T xs wr hA=>?_) ?_
   rotate_left
   ·have e71:=tr_ (hA.tq 5 71) (hA.fq 5)
    (try simp (disch:=decide) only [R7.mi] at e71)
    clear hA;go_simp<;>(try with_reducible rfl)
   refine R7.cd ?_ (fun T xs wr hA=>?_) ?_
   rotate_left
   ·have e72:=tr_ (hA.tq 6 72) (hA.fq 6)
    (try simp (disch:=decide) only [R7.mi] at e72)
    have hBq:wr.heap[kt]?=_:=(hA.bl _ hlt_t (fun q h=>absurd h (Nat.not_lt_zero _))).trans HBt.out;obtain⟨q0,q1⟩:=cl2 hBq;clear hBq;clear hA;go_simp<;>(try with_reducible rfl)
   refine R7.cd ?_ (fun T xs wr hA=>?_) ?_
   rotate_left
   ·have e70:=tr_ (hA.tq 4 70) (hA.fq 4);have e73:=tr_ (hA.tq 7 73) (hA.fq 7)
    (try simp (disch:=decide) only [R7.mi] at e70 e73)
    clear hA;go_simp<;>(try with_reducible rfl)
   refine R7.Chain.done (fun xs w2 hL=>?_);obtain⟨⟨hbe,hbl⟩,hf,-,-⟩:=hL;have f0:xs 0=_:=hf 0 (by decide);have f1:xs 1=_:=hf 1 (by decide);have f2:xs 2=_:=hf 2 (by decide);have f3:xs 3=_:=hf 3 (by decide);have f4:xs 4=_:=hf 4 (by decide);have f5:xs 5=_:=hf 5 (by decide);have f6:xs 6=_:=hf 6 (by decide);have f7:xs 7=_:=hf 7 (by decide);have f8:xs 8=_:=hf 8 (by decide)
   (try simp (disch:=decide) only [R7.mi] at f0 f1 f2 f3 f4 f5 f6 f7 f8)
   have hb:Below wl.heap.size wl w2:=R7.b0_ hbe;clear hbe hbl hf;refine R7.rest_list (by decide) (by kernel_rfl) ?_;simp only[R7.fill,t1_,t2_,t3_,t4_,t5_,t6_,t7_,f0,f1,f2,f3,f4,f5,f6,f7,f8];clear hlt_e hlt_t f0 f1 f2 f3 f4 f5 f6 f7 f8;replace HBg:=kB hb HBg;replace HBe:=kB hb HBe;replace HBt:=kB hb HBt;replace HC:=h_ (HC.out.below hb);replace HF:=fb_ HF hb;clear hb;go_wp2_with fail
   refine (need_p HC.out ⟨(k:Nat),⟨nm.toArray⟩,⟨ot.toArray⟩,false,xao,xn,xq,xko,ks.length,xkc,(ln:Nat),(cl:Nat)⟩ ln cl rfl rfl (((t0:Nat):Int)==((t1:Nat):Int)) 4).mono ?_;rintro e w3 ⟨rfl,⟨ev,hC⟩,hF⟩;replace HBe:=kF hF HBe;replace HBt:=kF hF HBt;replace HF:=h_ (HF.out.trans hF);replace HC:=h_ hC;replace HBg:=h_ hC.blk;clear hC hF;rw[nbeq] at HC;go_wp2_with fail
   go_ret
   have e:kRest G.fs rf k nm ln cl (posU (ks.getD 1 u0)) tj sj=kEq ln cl [t0,t1] sj:=by rw[HT3.out];unfold kRest;rw[if_neg h3,if_neg h24,if_neg h25,if_pos (by have:=H15.out;omega)]
   rw[(HE.out.trans (show _=kRest G.fs rf k nm ln cl (posU (ks.getD 1 u0)) tj sj by rw[HRN2.out])).trans e];exact⟨rfl,⟨ev,HC.out⟩,HF.out⟩
  by_cases h16:k=16
  ·obtain⟨t0,t1,ht⟩:=twoB (l:=tj) (by rw[HTL.out];rcases HAR.out.2 with h | h;omega;rw[h,h16];rfl);have hl3:ks.length=2:=by rw[<-HTL.out,ht];rfl
   rw[ht] at HBt;have HT3:=h_ ht;have HL3:=h_ hl3;clear ht hl3;replace HBt:Hid (wl.heap[kt]?=some (.cells #[.int .i64 (t0:Nat),.int .i64 (t1:Nat)] 55 (0,0))):=HBt;have q3:(((k:Nat):Int)==3)=false:=by rw[beq_eq_false_iff_ne];omega
   have q24:(((k:Nat):Int)==24)=false:=by rw[beq_eq_false_iff_ne];omega
   have q25:(((k:Nat):Int)==25)=false:=by rw[beq_eq_false_iff_ne];omega
   have q15:(((k:Nat):Int)==15)=false:=by rw[beq_eq_false_iff_ne];omega
   have q16:(((k:Nat):Int)==16)=true:=by rw[beq_iff_eq];omega
   have H16:=h_ h16;clear h16;obtain⟨c0,c1,c2,c3,c4,c5,c6,c7⟩:=cl8 HBe.out;go_upto_region 23 with fail
   clear q3 q24 q25 q15 q16;clear c0 c1 c2 c3 c4 c5 c6 c7;rw[HL3.out];have hlt_e:=lt_of_block HBe.out;have hlt_t:=lt_of_block HBt.out;refine R7.r0 [[],[],[],[2],[2,3],[],[5],[5,6],[2,3,4,5,6,7],[0,1,2,3,4,5,6,7,8]] 9 ?_;refine R7.cd ?_ (fun T xs wr hA=>?_) ?_
   rotate_left
   ·have e0:=hA.pq 0;simp only[gsa,gsz] at e0;clear hA;go_simp<;>(try with_reducible rfl)
   refine R7.cd ?_ (fun T xs wr hA=>?_) ?_
   rotate_left
   ·have e3:=hA.pq 3;simp only[gsa,gsc,gsz] at e3;have hBq:wr.heap[ke]?=_:=(hA.bl _ hlt_e (fun q h=>absurd h (Nat.not_lt_zero _))).trans HBe.out;obtain⟨q0,q1,q2,q3,q4,q5,q6,q7⟩:=cl8 hBq;clear hBq;clear hA;go_simp<;>(try with_reducible rfl)
   refine R7.cd ?_ (fun T xs wr hA=>?_) ?_
   rotate_left
   ·have e5:=hA.pq 5;simp only[gsa,gsc,gsz] at e5;clear hA;go_simp<;>(try with_reducible rfl)
   refine R7.cd ?_ (fun T xs wr hA=>?_) ?_
   rotate_left
   ·have e68:=tr_ (hA.tq 2 68) (hA.fq 2)
    (try simp (disch:=decide) only [R7.mi] at e68)
    clear hA;go_simp<;>(try with_reducible rfl)
   refine R7.cd ?_ (fun T xs wr hA=>?_) ?_
   rotate_left
   ·have e69:=tr_ (hA.tq 3 69) (hA.fq 3)
    (try simp (disch:=decide) only [R7.mi] at e69)
    have hBq:wr.heap[kt]?=_:=(hA.bl _ hlt_t (fun q h=>absurd h (Nat.not_lt_zero _))).trans HBt.out;obtain⟨q0,q1⟩:=cl2 hBq;clear hBq;clear hA;go_simp<;>(try with_reducible rfl)
   refine R7.cd ?_ (fun T xs wr hA=>?_) ?_
   rotate_left
   ·have e5:=hA.pq 5;simp only[gsa,gsc,gsz] at e5;clear hA;go_simp<;>(try with_reducible rfl)
   refine R7.cd ?_ (fun T xs wr hA=>?_) ?_
   rotate_left
   ·have e71:=tr_ (hA.tq 5 71) (hA.fq 5)
    (try simp (disch:=decide) only [R7.mi] at e71)
    clear hA;go_simp<;>(try with_reducible rfl)
   refine R7.cd ?_ (fun T xs wr hA=>?_) ?_
   rotate_left
   ·have e72:=tr_ (hA.tq 6 72) (hA.fq 6)
    (try simp (disch:=decide) only [R7.mi] at e72)
    have hBq:wr.heap[kt]?=_:=(hA.bl _ hlt_t (fun q h=>absurd h (Nat.not_lt_zero _))).trans HBt.out;obtain⟨q0,q1⟩:=cl2 hBq;clear hBq;clear hA;go_simp<;>(try with_reducible rfl)
   refine R7.cd ?_ (fun T xs wr hA=>?_) ?_
   rotate_left
   ·have e70:=tr_ (hA.tq 4 70) (hA.fq 4);have e73:=tr_ (hA.tq 7 73) (hA.fq 7)
    (try simp (disch:=decide) only [R7.mi] at e70 e73)
    clear hA;go_simp<;>(try with_reducible rfl)
   refine R7.Chain.done (fun xs w2 hL=>?_);obtain⟨⟨hbe,hbl⟩,hf,-,-⟩:=hL;have f0:xs 0=_:=hf 0 (by decide);have f1:xs 1=_:=hf 1 (by decide);have f2:xs 2=_:=hf 2 (by decide);have f3:xs 3=_:=hf 3 (by decide);have f4:xs 4=_:=hf 4 (by decide);have f5:xs 5=_:=hf 5 (by decide);have f6:xs 6=_:=hf 6 (by decide);have f7:xs 7=_:=hf 7 (by decide);have f8:xs 8=_:=hf 8 (by decide)
   (try simp (disch:=decide) only [R7.mi] at f0 f1 f2 f3 f4 f5 f6 f7 f8)
   have hb:Below wl.heap.size wl w2:=R7.b0_ hbe;clear hbe hbl hf;refine R7.rest_list (by decide) (by kernel_rfl) ?_;simp only[R7.fill,t1_,t2_,t3_,t4_,t5_,t6_,t7_,f0,f1,f2,f3,f4,f5,f6,f7,f8];clear hlt_e hlt_t f0 f1 f2 f3 f4 f5 f6 f7 f8;replace HBg:=kB hb HBg;replace HBe:=kB hb HBe;replace HBt:=kB hb HBt;replace HC:=h_ (HC.out.below hb);replace HF:=fb_ HF hb;clear hb;go_wp2_with fail
   refine (need_p HC.out ⟨(k:Nat),⟨nm.toArray⟩,⟨ot.toArray⟩,false,xao,xn,xq,xko,ks.length,xkc,(ln:Nat),(cl:Nat)⟩ ln cl rfl rfl (((t0:Nat):Int)==((t1:Nat):Int)) 4).mono ?_;rintro e w3 ⟨rfl,⟨ev,hC⟩,hF⟩;replace HBe:=kF hF HBe;replace HBt:=kF hF HBt;replace HF:=h_ (HF.out.trans hF);replace HC:=h_ hC;replace HBg:=h_ hC.blk;clear hC hF;rw[nbeq] at HC;go_wp2_with fail
   go_ret
   have e:kRest G.fs rf k nm ln cl (posU (ks.getD 1 u0)) tj sj=kEq ln cl [t0,t1] sj:=by rw[HT3.out];unfold kRest;rw[if_neg h3,if_neg h24,if_neg h25,if_pos (by have:=H16.out;omega)]
   rw[(HE.out.trans (show _=kRest G.fs rf k nm ln cl (posU (ks.getD 1 u0)) tj sj by rw[HRN2.out])).trans e];exact⟨rfl,⟨ev,HC.out⟩,HF.out⟩
  have hcs:=operation_s HC.out ⟨(k:Nat),⟨nm.toArray⟩,⟨ot.toArray⟩,false,xao,xn,xq,xko,ks.length,xkc,(ln:Nat),(cl:Nat)⟩ k nm ot z ln cl ks S HUU.out HBU.out kt tj HBt.out HTM.out (by omega) (by omega);rw[HTL.out] at hcs;have HCS:=h_ hcs;clear hcs;have q3:(((k:Nat):Int)==3)=false:=by rw[beq_eq_false_iff_ne];omega
  have q24:(((k:Nat):Int)==24)=false:=by rw[beq_eq_false_iff_ne];omega
  have q25:(((k:Nat):Int)==25)=false:=by rw[beq_eq_false_iff_ne];omega
  have q15:(((k:Nat):Int)==15)=false:=by rw[beq_eq_false_iff_ne];omega
  have q16:(((k:Nat):Int)==16)=false:=by rw[beq_eq_false_iff_ne];omega
  obtain⟨c0,c1,c2,c3,c4,c5,c6,c7⟩:=cl8 HBe.out;go_upto_region 25 with fail
  clear q3 q24 q25 q15 q16;go_wp2_with fail
  refine (HCS.out).mono ?_;rintro e w2 ⟨rfl,⟨ev,hC⟩,hF⟩;clear c0 c1 c2 c3 c4 c5 c6 c7;replace HBe:=kF hF HBe;replace HBt:=kF hF HBt;replace HF:=h_ (HF.out.trans hF);replace HC:=h_ hC;replace HBg:=h_ hC.blk;clear hC hF;go_wp2_with fail
  go_ret
  have e:kRest G.fs rf k nm ln cl (posU (ks.getD 1 u0)) tj sj=kOp rf k ln cl (posU (ks.getD 1 u0)) tj sj:=by unfold kRest;rw[if_neg h3,if_neg h24,if_neg h25,if_neg (by omega)]
  rw[(HE.out.trans (show _=kRest G.fs rf k nm ln cl (posU (ks.getD 1 u0)) tj sj by rw[HRN2.out])).trans e];exact⟨rfl,⟨ev,HC.out⟩,HF.out⟩
end Go.Proofs.YtpclhpfcbjgokaaGreatDoor
namespace Go.Proofs.YtpclhpfcbjgokaaGreatDoor
set_option maxRecDepth 100000
set_option linter.unusedVariables false
mutual
def uw:U->Nat
 | .node _ _ _ _ _ _ ks=>max ks.length (uws ks)
def uws:List U->Nat
 | []=>0
 | t::ts=>max (uw t) (uws ts)
end
theorem uw_prt (k:Nat) (t:Tok) (ks:List U):uw (prt k t ks)=max ks.length (uws ks):=by unfold prt;rw[uw]
theorem uw_nmd (k:Nat) (t:Tok) (ks:List U):uw (nmd k t ks)=max ks.length (uws ks):=by unfold nmd;rw[uw]
theorem uw_u0:uw u0=0:=by unfold u0;rw[uw,uws];rfl
theorem uws1 (a:U):uws [a]=uw a:=by rw[uws,uws];omega
theorem uws2 (a b:U):uws [a,b]=max (uw a) (uw b):=by rw[uws,uws1]
theorem uws3 (a b c:U):uws [a,b,c]=max (uw a) (max (uw b) (uw c)):=by rw[uws,uws2]
theorem uws_app (a b:List U):uws (a++b)=max (uws a) (uws b):=by
 induction a with
 | nil=>rw[List.nil_append,uws];omega
 | cons x a ih=>rw[List.cons_append,uws,uws,ih];omega
theorem uws_mem {us:List U} {u:U} (h:u ∈ us):uw u<=uws us:=by
 induction us with
 | nil=>cases h
 | cons x us ih =>
  rw[uws];rcases List.mem_cons.1 h with rfl | h
  ·omega
  have:=ih h;omega
theorem uw_len (u:U):u.ks.length<=uw u:=by obtain⟨k,nm,ot,z,ln,cl,ks⟩:=u;rw[uw];show ks.length<=_;omega
theorem uw_kid (u:U) {j:Nat} (h:j<u.ks.length):uw u.ks[j]<=uw u:=by obtain⟨k,nm,ot,z,ln,cl,ks⟩:=u;rw[uw];have:=uws_mem (List.getElem_mem (l:=ks) h);show uw ks[j]<=_;omega
theorem c_uw (n:Nat):(∀ s x,cExpr n s=some x->uw x.1<=n+3)/\(∀ s x,cLet n s=some x->uw x.1<=n+3)/\(∀ s x,cIf n s=some x->uw x.1<=n+3)/\(∀ s x,cMatch n s=some x->uw x.1<=n+3)/\(∀ s x,cAssert n s=some x->uw x.1<=n+3) /\
  (∀ l s x,cBin n l s=some x->uw x.1<=n+3)/\(∀ l e v s x,cLoop n l e v s=some x->uw x.1<=max (uw e) (n+3))/\(∀ s x,cOne n s=some x->uw x.1<=n+3)/\(∀ s x,cAtom n s=some x->uw x.1<=n+3)/\(∀ s x,cArgs n s=some x->uws x.1<=n+3/\x.1.length<=n+1)/\(∀ l s x,cMore n l s=some x->uws x.1<=max (uws l) (n+3)/\x.1.length<=l.length+n):=by
 induction n with
 | zero=>refine⟨?_,?_,?_,?_,?_,?_,?_,?_,?_,?_,?_⟩<;>intros<;>simp_all [cExpr,cLet,cIf,cMatch,cAssert,cBin,cLoop,cOne,cAtom,cArgs,cMore]
 | succ n ih =>
  obtain⟨i1,i2,i3,i4,i5,i6,i7,i8,i9,i10,i11⟩:=ih;refine⟨?_,?_,?_,?_,?_,?_,?_,?_,?_,?_,?_⟩
  ·intro s x h;rw[cExpr] at h
   split at h;have:=i2 _ _ h;omega
   split at h;have:=i3 _ _ h;omega
   split at h;have:=i4 _ _ h;omega
   split at h;have:=i5 _ _ h;omega
   have:=i6 _ _ _ h;omega
  ·intro s x h;rw[cLet] at h;simp only[Option.bind_eq_some_iff] at h;obtain⟨r1,h1,r2,h2,h3⟩:=h;injection h3 with h3;subst h3;have a1:=i1 _ _ h1;have a2:=i1 _ _ h2;simp only[uw,uws2,lsc,lsn];omega
  ·intro s x h;rw[cIf] at h;simp only[Option.bind_eq_some_iff] at h;obtain⟨r1,h1,r2,h2,r3,h3,h4⟩:=h;injection h4 with h4;subst h4;have a1:=i1 _ _ h1;have a2:=i1 _ _ h2;have a3:=i1 _ _ h3;simp only[uw_prt,uws3,lsc,lsn];omega
  ·intro s x h;rw[cMatch] at h;simp only[Option.bind_eq_some_iff] at h;obtain⟨r1,h1,r2,h2,r3,h3,h4⟩:=h;injection h4 with h4;subst h4;have a1:=i1 _ _ h1;have a2:=i1 _ _ h2;have a3:=i1 _ _ h3;simp only[uw,uws3,lsc,lsn];omega
  ·intro s x h;rw[cAssert] at h;simp only[Option.bind_eq_some_iff] at h;obtain⟨r1,h1,r2,h2,h3⟩:=h;injection h3 with h3;subst h3;have a1:=i1 _ _ h1;have a2:=i1 _ _ h2;simp only[uw_prt,uws2,lsc,lsn];omega
  ·intro l s x h;rw[cBin,Option.bind_eq_some_iff] at h;obtain⟨r1,h1,h2⟩:=h;have a1:=i8 _ _ h1;have a2:=i7 _ _ _ _ _ h2
   omega
  ·intro l e v s x h;rw[cLoop] at h
   split at h
   ·injection h with h;subst h;simp only;omega
   split at h
   ·injection h with h;subst h;simp only;omega
   rw[Option.bind_eq_some_iff] at h;obtain⟨r1,h1,h2⟩:=h;have a1:=i6 _ _ _ h1;have a2:=i7 _ _ _ _ _ h2;simp only[uw_prt,uws2,lsc,lsn] at a2
   omega
  ·intro s x h;rw[cOne] at h
   split at h
   ·have:=i9 _ _ h;omega
   rw[Option.bind_eq_some_iff] at h;obtain⟨r1,h1,h2⟩:=h;injection h2 with h2;subst h2;have a1:=i8 _ _ h1;simp only[uw_prt,uws1,lsc,lsn];omega
  ·intro s x h;rw[cAtom] at h
   repeat' split at h
   all_goals first
    | (injection h with h;subst h;simp only[uw,uws,uw_prt,uw_nmd,uw_u0,lsn];omega)
    | (
      rw[Option.bind_eq_some_iff] at h;obtain⟨r1,h1,h2⟩:=h;injection h2 with h2;subst h2
      first
       | (have a1:=i10 _ _ h1;simp only[uw_nmd];omega)
       | (have a1:=i1 _ _ h1;simp only;omega))
  ·intro s x h;rw[cArgs] at h
   split at h
   ·injection h with h;subst h;simp only[uws,lsn];omega
   rw[Option.bind_eq_some_iff] at h;obtain⟨r1,h1,h2⟩:=h;have a1:=i1 _ _ h1;have a2:=i11 _ _ _ h2;rw[uws1,List.length_singleton] at a2
   omega
  intro l s x h;rw[cMore] at h
  split at h
  ·rw[Option.bind_eq_some_iff] at h;obtain⟨r1,h1,h2⟩:=h;have a1:=i1 _ _ h1;have a2:=i11 _ _ _ h2;rw[uws_app,uws1,lsa,List.length_singleton] at a2
   omega
  injection h with h;subst h;simp only;omega
def PmW (d:Nat) (p:PmU):Prop:=uw p.ref<=d
def QlW (d:Nat) (q:QlU):Prop:=uw q.body<=d
def FnW (d:Nat) (f:FnU):Prop:=(∀ p ∈ f.ps,PmW d p)/\PmW d f.res/\uw f.body<=d
def PgW (d:Nat) (p:PgU):Prop:=(∀ q ∈ p.qs,QlW d q)/\(∀ f ∈ p.fs,FnW d f)
theorem all_uw {n:Nat} {s:St} {x:U × St} (h:cAll n s=some x):uw x.1<=n+3:=by
 unfold cAll at h;rw[Option.bind_eq_some_iff] at h;obtain⟨r,h1,h2⟩:=h;injection h2 with h2;subst h2;have:=(c_uw n).1 _ _ h1;simp only;omega
theorem ref_uw {n:Nat} {p:PmU} {s:St} {x:PmU × St} (hp:PmW (n+3) p) (h:cRef n p s=some x):PmW (n+3) x.1:=by
 unfold cRef at h
 split at h
 ·rw[Option.bind_eq_some_iff] at h;obtain⟨r,h1,h2⟩:=h;injection h2 with h2;subst h2;exact all_uw h1
 injection h with h;subst h;exact hp
theorem typ_uw (n:Nat) (nm:Bs) (t:Tok) (b:Nat):PmW (n+3) (typ nm t b):=by show uw u0<=_;rw[uw_u0];omega
theorem fpar_uw {n:Nat} {l:List PmU} {s:St} {x:List PmU × St} (hl:∀ p ∈ l,PmW (n+3) p) (h:cFPar n l s=some x):∀ p ∈ x.1,PmW (n+3) p:=by
 unfold cFPar at h;rw[Option.bind_eq_some_iff] at h;obtain⟨r,h1,h2⟩:=h;injection h2 with h2;subst h2;exact all_snoc hl (ref_uw (typ_uw n _ _ _) h1)
theorem fmore_uw {n:Nat}:∀ {m:Nat} {l:List PmU} {s:St} {x:List PmU × St},(∀ p ∈ l,PmW (n+3) p)->cFMore m n l s=some x->∀ p ∈ x.1,PmW (n+3) p
 | 0,_,_,_,_,h=>by rw[cFMore] at h;cases h
 | m+1,l,s,x,hl,h=>by
  rw[cFMore] at h
  split at h
  ·rw[Option.bind_eq_some_iff] at h;obtain⟨r,h1,h2⟩:=h;exact fmore_uw (fpar_uw hl h1) h2
  injection h with h;subst h;exact hl
theorem fpars_uw {m n:Nat} {s:St} {x:List PmU × St} (h:cFPars m n s=some x):∀ p ∈ x.1,PmW (n+3) p:=by
 unfold cFPars at h
 split at h
 ·injection h with h;subst h;intro p hp;cases hp
 rw[Option.bind_eq_some_iff] at h;obtain⟨r,h1,h2⟩:=h;exact fmore_uw (fpar_uw (by intro p hp;cases hp) h1) h2
theorem qual_uw {m n k:Nat} {s:St} {x:QlU × St} (h:cQual m n k s=some x):QlW (n+3) x.1:=by
 unfold cQual at h;simp only[Option.bind_eq_some_iff] at h;obtain⟨r,h1,y,h2,h3⟩:=h;injection h3 with h3;subst h3;exact all_uw h2
theorem fun_uw {m n k:Nat} {s:St} {x:FnU × St} (h:cFun m n k s=some x):FnW (n+3) x.1:=by
 unfold cFun at h;simp only[Option.bind_eq_some_iff] at h;obtain⟨r,h1,t,h2,y,h3,h4⟩:=h;injection h4 with h4;subst h4;exact⟨fpars_uw h1,ref_uw (typ_uw n _ _ _) h2,all_uw h3⟩
theorem prog_uw {n:Nat}:∀ {m:Nat} {p:PgU} {s:St} {x:PgU × St},PgW (n+3) p->cProg m n p s=some x->PgW (n+3) x.1
 | 0,_,_,_,_,h=>by rw[cProg] at h;cases h
 | m+1,p,s,x,hp,h=>by
  rw[cProg] at h
  split at h
  ·rw[Option.bind_eq_some_iff] at h;obtain⟨r,h1,h2⟩:=h;exact prog_uw (p:=⟨p.qs++[r.1],p.fs⟩) ⟨all_snoc hp.1 (qual_uw h1),hp.2⟩ h2
  split at h
  ·rw[Option.bind_eq_some_iff] at h;obtain⟨r,h1,h2⟩:=h;exact prog_uw (p:=⟨p.qs,p.fs++[r.1]⟩) ⟨hp.1,all_snoc hp.2 (fun_uw h1)⟩ h2
  injection h with h;subst h;exact hp
theorem qmore_cnt:∀ {m:Nat} {l:List PmU} {s:St} {x:List PmU × St},cQMore m l s=some x->x.1.length<=l.length+m
 | 0,_,_,_,h=>by rw[cQMore] at h;cases h
 | m+1,l,s,x,h=>by
  rw[cQMore] at h
  split at h
  ·have:=qmore_cnt h;rw[lsa,List.length_singleton] at this;omega
  injection h with h;subst h;simp only;omega
theorem fmore_cnt {n:Nat}:∀ {m:Nat} {l:List PmU} {s:St} {x:List PmU × St},cFMore m n l s=some x->x.1.length<=l.length+m
 | 0,_,_,_,h=>by rw[cFMore] at h;cases h
 | m+1,l,s,x,h=>by
  rw[cFMore] at h
  split at h
  ·rw[Option.bind_eq_some_iff] at h;obtain⟨r,h1,h2⟩:=h;have:=fmore_cnt h2;unfold cFPar at h1;rw[Option.bind_eq_some_iff] at h1;obtain⟨q,h3,h4⟩:=h1;injection h4 with h4;subst h4;simp only[lsa,List.length_singleton] at this;omega
  injection h with h;subst h;simp only;omega
theorem fpars_cnt {m n:Nat} {s:St} {x:List PmU × St} (h:cFPars m n s=some x):x.1.length<=m+1:=by
 unfold cFPars at h
 split at h
 ·injection h with h;subst h;simp only[lsn];omega
 rw[Option.bind_eq_some_iff] at h;obtain⟨r,h1,h2⟩:=h;have:=fmore_cnt h2;unfold cFPar at h1;rw[Option.bind_eq_some_iff] at h1;obtain⟨q,h3,h4⟩:=h1;injection h4 with h4;subst h4;simp only[List.nil_append,List.length_singleton] at this;omega
def PgN (d:Nat) (p:PgU):Prop:=(∀ q ∈ p.qs,q.ps.length<=d)/\(∀ f ∈ p.fs,f.ps.length<=d)
theorem prog_cnt {n d:Nat}:∀ {m:Nat} {p:PgU} {s:St} {x:PgU × St},m+1<=d->PgN d p->cProg m n p s=some x->PgN d x.1/\x.1.qs.length+x.1.fs.length<=p.qs.length+p.fs.length+m
 | 0,_,_,_,_,_,h=>by rw[cProg] at h;cases h
 | m+1,p,s,x,hd,hp,h=>by
  rw[cProg] at h
  split at h
  ·rw[Option.bind_eq_some_iff] at h;obtain⟨r,h1,h2⟩:=h;unfold cQual at h1;simp only[Option.bind_eq_some_iff] at h1;obtain⟨a,h3,y,h4,h5⟩:=h1;injection h5 with h5;subst h5;have hc:=qmore_cnt h3;have:=prog_cnt (d:=d) (p:=⟨p.qs++[_],p.fs⟩) (by omega) ⟨all_snoc hp.1 (by simp only[List.length_singleton] at hc ⊢;omega),hp.2⟩ h2;refine⟨this.1,?_⟩;have:=this.2;simp only[lsa,List.length_singleton] at this;omega
  split at h
  ·rw[Option.bind_eq_some_iff] at h;obtain⟨r,h1,h2⟩:=h;unfold cFun at h1;simp only[Option.bind_eq_some_iff] at h1;obtain⟨a,h3,t,h4,y,h5,h6⟩:=h1;injection h6 with h6;subst h6;have hc:=fpars_cnt h3;have:=prog_cnt (d:=d) (p:=⟨p.qs,p.fs++[_]⟩) (by omega) ⟨hp.1,all_snoc hp.2 (by simp only;omega)⟩ h2;refine⟨this.1,?_⟩;have:=this.2;simp only[lsa,List.length_singleton] at this;omega
  injection h with h;subst h;exact⟨hp,by simp only;omega⟩
end Go.Proofs.YtpclhpfcbjgokaaGreatDoor
namespace Go.Proofs.YtpclhpfcbjgokaaGreatDoor
open Go.RowKit Go.Maps
set_option maxRecDepth 100000
set_option linter.unusedVariables false
set_option linter.unusedSimpArgs false
theorem clone_s (b:Nat) (m:Bs->Option Value) (w:World) (h:MapIs Tryz.prog 9 w b m) :
  Calls Tryz.prog 88 #[.map (some b)] w fun e w'=>e=.returned (.map (some w.heap.size))/\MapIs Tryz.prog 9 w' w.heap.size m/\Below w.heap.size w w'/\w.heap.size<w'.heap.size:=by
 obtain⟨es,clock,hb,hc⟩:=h.copy;have HCP:=h_ hc;clear hc;have hq:=fun w=>run_eql_map_nil_sl (P:=Tryz.prog) w 74 _ _ (some b) Tryz.underlying74
 have hx:=fun args w=>run_callFunc_extern (P:=Tryz.prog) (f:=102) (fn:=Tryz.f102) (e:=Extern.MapsClone.clone) (by kernel_rfl) (by kernel_rfl) (by kernel_rfl) (by kernel_rfl) (by kernel_rfl) args w
 have HX:=h_ hx;clear hx;go_enter Tryz.func88,Tryz.ntmps88
 go_wp2
 rw[HX.out,run_maps_clone_sl w 74 hb];simp only[Result.andThen];rw[Oper.upon_value]
 go_wp2
 rw[run_typeAssert_map_sl _ 74 _ _ _ _ Tryz.underlying74];simp only[Result.andThen];rw[Oper.upon_value]
 go_wp2
 go_ret
 exact⟨rfl,HCP.out _ (heap_alloc_last w _),(Below.refl _ _).alloc (Nat.le_refl _) _,by simp⟩
theorem fc_inner {a b c:World} {g s t:Nat} (h:Fc a b g s) (k:Fc b c g t) (ht:a.heap.size<=t):Fc a c g s:=
 ⟨k.os.trans h.os,k.tape.trans h.tape,k.output.trans h.output,Nat.le_trans h.size k.size,fun i hi h1 h2=>(k.block i (Nat.lt_of_lt_of_le hi h.size) h1 (by omega)).trans (h.block i hi h1 h2)⟩
theorem known_s {w0 w:World} {kg bf bs:Nat} {Gv:Bs->Option Value} {s:Ks} {ev:Value} (h:Ck w0 w kg bf bs Gv s false ev) (p:PmU) (x:X) (S:Nat->Prop) (hu:Um w0 S x p.ref) (hb:Bnd p.ref) (F:Fs) (hK:BaseOk F Gv true w0 p.ref) (n:Nat) (hd:Dom s.sc n) (hn:n+1+2*ud p.ref<=1000000000000) (hA:ArT w0) :
  Calls Tryz.prog 64 #[.pointer (some ⟨kg,0,none⟩),pmV p x] w fun e w'=>e=.returned (.tuple #[])/\CkP w0 w kg bf bs Gv (kKnown F p s) false w':=by
 have HU:=h_ hu;have HBU:=h_ hb;have HKB:=h_ hK;have HD:=h_ hd;have HNN:=h_ hn;have HA:=h_ hA;clear hu hb hK hd hn hA;unfold pmV;have HC:=h_ h;have HBg:=h_ h.blk;have HF:Hid (Fc w w kg bs):=h_ (Fc.refl _ _ _);clear h;have hgs:kg≠bs:=HC.out.gs;have HGS:=h_ hgs;have HGO:=HGS;have HSB:=h_ HC.out.sB;have HNE:=h_ HC.out.ne;clear hgs;go_enter Tryz.func64,Tryz.ntmps64
 go_upto_region 1 with fail
 obtain⟨w1,ke,hw,hkk,hb,hs1,HBe⟩:=newb w #[.string ⟨p.nm.toArray⟩,.int .i64 (p.b:Nat),.bool p.kn,.int .i64 x.k,.string x.nm,.string x.ot,.bool x.b,.slice x.ao x.n x.c,.slice x.ko x.kn x.kc,.int .i64 x.ln,.int .i64 x.cl,.int .i64 (p.ln:Nat),.int .i64 (p.cl:Nat)] 57;have hge:=lk_ hkk HBg;have hse:bs<ke:=by rw[hkk];exact HC.out.sm.lt
 have hee:w.heap.size<=ke:=by rw[hkk];exact HF.out.size
 rw[hw,<-hkk];replace HBg:=kB hb HBg;replace HC:=h_ (HC.out.below hb);replace HF:=fb_ HF hb;clear hw hb hkk hs1
 cases hkn:p.kn with
 | false =>
  rw[hkn] at HBe;obtain⟨c0,c1,c2,c3,c4,c5,c6,c7,c8,c9,c10,c11,c12⟩:=cl13 HBe.out;go_wp2_with fail
  have e:kKnown F p s=s:=by unfold kKnown;rw[hkn];rfl
  rw[e];exact bodyPost_ret (results_none Tryz.results64 _ _ _) rfl ⟨rfl,⟨ev,HC.out⟩,HF.out⟩
 | true =>
  rw[hkn] at HBe;obtain⟨g0,g1,g2,g3⟩:=cl4 HBg.out;obtain⟨fg0,fg1,fg2,fg3⟩:=fr4 HBg.out;obtain⟨c0,c1,c2,c3,c4,c5,c6,c7,c8,c9,c10,c11,c12⟩:=cl13 HBe.out;go_wp2_with fail
  refine (clone_s bs (scV s.sc) w1 HC.out.sm).mono ?_;rintro e wK ⟨rfl,hm,hb,hlt⟩;clear g0 fg0 g1 fg1 g2 fg2 g3 fg3 c0 c1 c2 c3 c4 c5 c6 c7 c8 c9 c10 c11 c12;obtain⟨bo,hbo⟩:∃ q,q=bs:=⟨_,rfl⟩
  subst hbo;obtain⟨bs,hbs⟩:∃ q,q=w1.heap.size:=⟨_,rfl⟩
  rw[<-hbs] at hm hlt;rw[<-hbs];have hgb:kg<bs:=by rw[hbs];exact lt_of_block HBg.out
  have hbb:bo<bs:=by rw[hbs];exact HC.out.sm.lt
  have hfb:bf<bs:=by rw[hbs];exact HC.out.fm.lt
  have heb:ke<bs:=by rw[hbs];exact lt_of_block HBe.out
  have hwb:w.heap.size<=bs:=by rw[hbs];exact HF.out.size
  have hw0b:w0.heap.size<=bs:=by rw[hbs];exact HC.out.bw.size
  replace HBg:=kB hb HBg;replace HBe:=kB hb HBe;replace HC:=h_ (HC.out.below hb);replace HF:=fb_ HF hb;have HMO:=h_ HC.out.sm;have HFO:=HF;have HKL:Hid (bs<wK.heap.size):=h_ hlt;clear hb hbs hlt;have hm2:=hm;have HM2:=h_ hm2;clear hm2;clear HF;have HF:Hid (Fc wK wK kg bs):=h_ (Fc.refl _ _ _);obtain⟨g0,g1,g2,g3⟩:=cl4 HBg.out;obtain⟨fg0,fg1,fg2,fg3⟩:=fr4 HBg.out;go_upto_region 4 with fail
  obtain⟨wL,hwA⟩:∃ q,q=wK.setCell ⟨kg,1,none⟩ (.map (some bs)):=⟨_,rfl⟩
  rw[<-hwA];have hg:wK.grownBy wL (some kg):=by rw[hwA];exact grown_set _ kg 1 _
  have hblk:wL.heap[kg]?=some (.cells #[.map (some bf),.map (some bs),.bool false,ev] 76 (0,0)):=by rw[hwA];exact heap_setCell_same _ kg 1 _ _ _ HBg.out
  clear hwA;clear g0 fg0 g1 fg1 g2 fg2 g3 fg3;replace HC:=h_ (HC.out.store (bs':=bs) (s':=s) hg hblk hm hw0b (by omega) (HC.out.erG hg));replace HBg:=h_ hblk;replace HBe:=kG hg HBe;replace HF:=h_ (HF.out.trans (Fc.of_g hg bs));clear hg hblk;clear hm;have HGS2:=h_ HC.out.gs;clear HGS;have HGS:=HGS2;clear HGS2;have hlt_g:=lt_of_block HBg.out;have hlt_e:=lt_of_block HBe.out;refine R7.r0 [[],[0],[0,1],[0,1,2],[],[4],[0,1,2,3,4,5]] 6 ?_;refine R7.cd ?_ (fun T xs wr hA=>?_) ?_
  rotate_left
  ·have e0:=hA.pq 0;simp only[gsa,gsz] at e0;clear hA;go_simp<;>(try with_reducible rfl)
  refine R7.cd ?_ (fun T xs wr hA=>?_) ?_
  rotate_left
  ·have e17:=tr_ (hA.tq 0 17) (hA.fq 0)
   (try simp (disch:=decide) only [R7.mi] at e17)
   clear hA;go_simp<;>(try with_reducible rfl)
  refine R7.cd ?_ (fun T xs wr hA=>?_) ?_
  rotate_left
  ·have e18:=tr_ (hA.tq 1 18) (hA.fq 1)
   (try simp (disch:=decide) only [R7.mi] at e18)
   clear hA;go_simp<;>(try with_reducible rfl)
  refine R7.cd ?_ (fun T xs wr hA=>?_) ?_
  rotate_left
  ·have e19:=tr_ (hA.tq 2 19) (hA.fq 2)
   (try simp (disch:=decide) only [R7.mi] at e19)
   have hBq:wr.heap[kg]?=_:=(hA.bl _ hlt_g (fun q h=>absurd h (Nat.not_lt_zero _))).trans HBg.out;obtain⟨q0,q1,q2,q3⟩:=cl4 hBq;clear hBq;clear hA;go_simp<;>(try with_reducible rfl)
  refine R7.cd ?_ (fun T xs wr hA=>?_) ?_
  rotate_left
  ·have e3:=hA.pq 3;simp only[gsa,gsc,gsz] at e3;clear hA;go_simp<;>(try with_reducible rfl)
  refine R7.cd ?_ (fun T xs wr hA=>?_) ?_
  rotate_left
  ·have e21:=tr_ (hA.tq 4 21) (hA.fq 4)
   (try simp (disch:=decide) only [R7.mi] at e21)
   have hBq:wr.heap[ke]?=_:=(hA.bl _ hlt_e (fun q h=>absurd h (Nat.not_lt_zero _))).trans HBe.out;obtain⟨q0,q1,q2,q3,q4,q5,q6,q7,q8,q9,q10,q11,q12⟩:=cl13 hBq;clear hBq;clear hA;go_simp<;>(try with_reducible rfl)
  refine R7.Chain.done (fun xs w2 hL=>?_);obtain⟨⟨hbe,hbl⟩,hf,-,-⟩:=hL;have f0:xs 0=_:=hf 0 (by decide);have f1:xs 1=_:=hf 1 (by decide);have f2:xs 2=_:=hf 2 (by decide);have f3:xs 3=_:=hf 3 (by decide);have f4:xs 4=_:=hf 4 (by decide);have f5:xs 5=_:=hf 5 (by decide)
  (try simp (disch:=decide) only [R7.mi] at f0 f1 f2 f3 f4 f5)
  have hb:Below wL.heap.size wL w2:=R7.b0_ hbe;clear hbe hbl hf;refine R7.rest_list (by decide) (by kernel_rfl) ?_;simp only[R7.fill,t1_,t2_,t3_,t4_,t5_,t6_,t7_,f0,f1,f2,f3,f4,f5];clear hlt_g hlt_e f0 f1 f2 f3 f4 f5;replace HBg:=kB hb HBg;replace HBe:=kB hb HBe;replace HC:=h_ (HC.out.below hb);replace HF:=fb_ HF hb;clear hb;go_upto_region 5 with (first | (at_mapUpdate;refine wp_update _ rfl _ _ _ 74 rfl 9 55 Tryz.underlying9 Tryz.underlying74 bs (scV s.sc) rfl HC.out.sm (domV HD.out) (Nat.lt_of_le_of_lt (by have:=HNN.out;omega) big_ok) wV rfl (by decide) (iv p.b) rfl ?_;intro wz hmz hgz) | fail)
  rw[<-scV_put] at hmz;replace HBg:=kG hgz HBg HGS.out;replace HBe:=kG hgz HBe;replace HF:=h_ (HF.out.trans (Fc.of_b hgz kg));replace HC:=h_ (HC.out.turn hgz hmz);clear hgz hmz;have HD1:=h_ (HD.out.put wV p.b);obtain⟨c0,c1,c2,c3,c4,c5,c6,c7,c8,c9,c10,c11,c12⟩:=cl13 HBe.out;go_wp2_with fail
  refine (predicate_s HC.out x p.ref S HU.out HBU.out F HKB.out (n+1) HD1.out HNN.out HA.out).mono ?_;rintro e w3 ⟨rfl,⟨ev,hC⟩,hF⟩;clear c0 c1 c2 c3 c4 c5 c6 c7 c8 c9 c10 c11 c12;replace HBe:=kF hF HBe;replace HF:=h_ (HF.out.trans hF);replace HC:=h_ hC;replace HBg:=h_ hC.blk;clear hC hF;obtain⟨g0,g1,g2,g3⟩:=cl4 HBg.out;obtain⟨fg0,fg1,fg2,fg3⟩:=fr4 HBg.out;go_wp2_with fail
  obtain⟨wM,hwA⟩:∃ q,q=w3.setCell ⟨kg,1,none⟩ (.map (some bo)):=⟨_,rfl⟩
  rw[<-hwA];have hg:w3.grownBy wM (some kg):=by rw[hwA];exact grown_set _ kg 1 _
  have hblk:wM.heap[kg]?=some (.cells #[.map (some bf),.map (some bo),.bool false,ev] 76 (0,0)):=by rw[hwA];exact heap_setCell_same _ kg 1 _ _ _ HBg.out
  clear hwA;obtain⟨sp,hsp⟩:∃ x,x=kPred F p.ref ⟨s.sc.put wV p.b,s.er⟩:=⟨_,rfl⟩
  rw[<-hsp] at HC;have HSP:=h_ hsp;clear hsp;have hbo:bo≠kg:=fun e=>HGO.out e.symm
  have hmo:=HMO.out.keep (HF.out.block bo HMO.out.lt hbo (by omega));have hfin:=HC.out.store (bs':=bo) (s':=⟨s.sc,sp.er⟩) hg hblk hmo HSB.out HNE.out (HC.out.erG hg);have hff:=HF.out.trans (Fc.of_g hg bs);have e:kKnown F p s=⟨s.sc,sp.er⟩:=by unfold kKnown;rw[hkn,HSP.out];rfl
  rw[e];exact bodyPost_end (results_none Tryz.results64 _ _ _) rfl ⟨rfl,⟨ev,hfin⟩,fc_inner HFO.out hff hwb⟩
end Go.Proofs.YtpclhpfcbjgokaaGreatDoor
