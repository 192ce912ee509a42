/-
 Joined texts: ScR,ScS,ScU,ScV,ScW,ScX,SsI.
-/
import Derived.Shelf.SlMaps.Clone
import Derived.Laws.ResultCell
import Derived.Test.YtkocdbgmckdcpaaGreatDoorJScopeSites5
import Derived.Test.YtkocdbgmckdcpaaGreatDoorJScopeSites6
import Derived.Test.YtkocdbgmckdcpaaGreatDoorJScopeSites8
set_option maxHeartbeats 32000000
namespace Go.Proofs.YtkocdbgmckdcpaaGreatDoor
open Go.RowKit Go.Maps
set_option maxRecDepth 100000
set_option linter.unusedVariables false
set_option linter.unusedSimpArgs false
theorem kRun_snoc:∀ (fs:List Kf) (f:Kf) (s:Ks),kRun (fs++[f]) s=((kRun fs s).1++[(f (kRun fs s).2).1],(f (kRun fs s).2).2)
 | [],f,s=>rfl
 | g::fs,f,s=>by rw[List.cons_append,kRun,kRun_snoc fs f,kRun];rfl
theorem kExs_len (F:Fs) (rf:Bool):∀ ks:List U,(kExs F rf ks).length=ks.length
 | []=>by rw[kExs];rfl
 | u::us=>by rw[kExs,lsc,kExs_len F rf us,lsc]
theorem kExs_get (F:Fs) (rf:Bool) (ks:List U) (j:Nat) (h:j<ks.length):(kExs F rf ks)[j]'(by rw[kExs_len];exact h)=kEx F rf ks[j]:=by
 have:=kf_kid F rf ks j h;unfold kf at this;rw[List.getElem?_eq_getElem (by rw[kExs_len];exact h)] at this;exact this
theorem kRun_take (F:Fs) (rf:Bool) (ks:List U) (j:Nat) (h:j<ks.length) (s:Ks) {t:List Nat} {q:Ks} (hr:kRun ((kExs F rf ks).take j) s=(t,q)) :
  kRun ((kExs F rf ks).take (j+1)) s=(t++[(kEx F rf ks[j] q).1],(kEx F rf ks[j] q).2):=by
 rw[List.take_succ_eq_append_getElem (by rw[kExs_len];exact h),kRun_snoc,hr,kExs_get F rf ks j h]
theorem set_zeros (t:List Nat) (m b:Nat) (hm:0<m):(t++List.replicate m 0).set t.length b=(t++[b])++List.replicate (m - 1) 0:=by
 obtain⟨q,rfl⟩:∃ q,m=q+1:=⟨m - 1,by omega⟩
 rw[List.set_append_right _ _ (Nat.le_refl _),Nat.sub_self,List.replicate_succ,List.set_cons_zero,List.append_assoc,Nat.add_sub_cancel];rfl
theorem blk_iv {w:World} {g:Nat} {T:TypeId} {l:List Nat} (h:Blk w g .i64 T l):w.heap[g]?=some (.cells (l.map iv).toArray T (0,0)):=h
theorem iv_blk {w:World} {g:Nat} {T:TypeId} {l:List Nat} (h:w.heap[g]?=some (.cells (l.map iv).toArray T (0,0))):Blk w g .i64 T l:=h
theorem choice_m {w0 w:World} {kg bf bs:Nat} {Gv:Bs->Option Value} {s:Ks} {rf:Bool} {ev:Value} (h:Ck w0 w kg bf bs Gv s rf ev) (x:X) (nm:Bs) (ln cl:Nat) (e0:x.nm=⟨nm.toArray⟩) (e1:x.ln=(ln:Nat)) (e2:x.cl=(cl:Nat)) (kt:Nat) (t0 t1 t2:Nat) (hT:w.heap[kt]?=some (.cells #[iv t0,iv t1,iv t2] 39 (0,0))) (n1:kt≠kg) (n2:kt≠bs) (m:Nat) (hm:m=3) :
  Calls Tryz.prog 137 #[.pointer (some ⟨kg,0,none⟩),xv x,.slice (some ⟨kt,0,none⟩) m m] w fun e w'=>e=.returned (iv (kIf rf ln cl [t0,t1,t2] s).1)/\CkP w0 w kg bf bs Gv ((kIf rf ln cl [t0,t1,t2] s).2) rf w':=by
 subst hm;exact choice_s h x nm ln cl e0 e1 e2 kt t0 t1 t2 hT n1 n2
theorem threeB {l:List Nat} (h:l.length=3):∃ a b c,l=[a,b,c]:=by
 match l,h with
 | [a,b,c],_=>exact⟨a,b,c,rfl⟩
theorem twoB {l:List Nat} (h:l.length=2):∃ a b,l=[a,b]:=by
 match l,h with
 | [a,b],_=>exact⟨a,b,rfl⟩
theorem base_s {w0 w:World} {kg bf bs:Nat} {Gv:Bs->Option Value} {s:Ks} {rf:Bool} {ev:Value} (h:Ck w0 w kg bf bs Gv s rf ev) (G:Gfn) (SG:Nat->Prop) (hG:GvOk w0 SG Gv G) (x:X) (u:U) (S:Nat->Prop) (hu:Um w0 S x u) (hb:Bnd u) (hkb:u.ks.length<=1000000) (hK:∀ j (h:j<u.ks.length),BaseOk G.fs Gv rf w0 u.ks[j]) (n:Nat) (hd:Dom s.sc n) (hn:n+2*ud u<=1000000000000) :
  Calls Tryz.prog 113 #[.pointer (some ⟨kg,0,none⟩),xv x] w fun e w'=>e=.returned (iv (kEx G.fs rf u s).1)/\CkP w0 w kg bf bs Gv ((kEx G.fs rf u s).2) rf w':=by
 obtain⟨k,nm,ot,z,ln,cl,ks⟩:=u;have HUU:=h_ hu;have HBU:=h_ hb;rw[Um] at hu;obtain⟨⟨e1,e2,e3,e4,e5,e6⟩,⟨h2,h3⟩,⟨h4,h5,h6⟩,h7⟩:=hu;obtain⟨xk,xnm,xot,xb,xao,xn,xq,xko,xkn,xkc,xln,xcl⟩:=x;simp only at e1 e2 e3 e4 e5 e6 h2 h3 h4 h5 h6 h7;have HK:=h_ (fun j (hj:j<ks.length)=>ums_get 0 j h7 hj);rw[Bnd] at hb;have HNM:Hid (nm.length<=3000):=h_ hb.2.1.1;have HAR:=h_ hb.1;have HKS:=h_ (fun j (hj:j<ks.length)=>bnds_mem hb.2.2.2 (List.getElem_mem hj));have HKB:Hid (∀ j (h:j<ks.length),BaseOk G.fs Gv rf w0 ks[j]):=h_ hK;rw[ud] at hn;have HD:=h_ hd;have HNN:=h_ hn;have HGV:=h_ hG;have hkl:ks.length<=9223372036854775807:=by rw[<-h4];exact Nat.le_trans h5.1 h5.2
 have HKM:Hid (ks.length<=maxLen):=h_ (by rw[<-h4];exact Nat.le_trans h5.1 h5.2);have HKL:Hid (ks.length<=1000000):=h_ hkb;clear h7 hb h2 h3 h5 h6 hK hd hn hG hkb;subst e1 e2 e3 e4 e5 e6;subst h4;simp only[xv];have hke:kEx G.fs rf (.node k nm ot z ln cl ks)=kNode G.fs rf k nm ot ln cl (posU (ks.getD 1 u0)) (kExs G.fs rf ks):=by rw[kEx]
 rw[hke];clear hke;have HC:=h_ h;have HBg:=h_ h.blk;have HF:Hid (Fc w w kg bs):=h_ (Fc.refl _ _ _);clear h;have hgs:kg≠bs:=HC.out.gs;have HGS:=h_ hgs;clear hgs;go_enter Tryz.func113,Tryz.ntmps113
 go_upto_region 1 with fail
 obtain⟨w1,ke,hw,hkk,hb,hs1,HBe⟩:=newb w #[.int .i64 (k:Nat),.string ⟨nm.toArray⟩,.string ⟨ot.toArray⟩,.bool false,.slice xao xn xq,.slice xko ks.length xkc,.int .i64 (ln:Nat),.int .i64 (cl:Nat)] 46;have hge:=lk_ hkk HBg;have hse:bs<ke:=by rw[hkk];exact HC.out.sm.lt
 have hee:w.heap.size<=ke:=by rw[hkk];exact HF.out.size
 rw[hw,<-hkk];replace HBg:=kB hb HBg;replace HC:=h_ (HC.out.below hb);replace HF:=fb_ HF hb;clear hw hb hkk hs1
 by_cases h26:k=26
 ·have q26:(((k:Nat):Int)==26)=true:=by rw[beq_iff_eq];omega
  have H26:=h_ h26;clear h26;obtain⟨c0,c1,c2,c3,c4,c5,c6,c7⟩:=cl8 HBe.out;go_upto_region 3 with fail
  clear q26;go_wp2_with fail
  refine (let_s HC.out ⟨(k:Nat),⟨nm.toArray⟩,⟨ot.toArray⟩,false,xao,xn,xq,xko,ks.length,xkc,(ln:Nat),(cl:Nat)⟩ k nm ot z ln cl ks S HUU.out HBU.out G.fs HKB.out n HD.out HNN.out H26.out).mono ?_;rintro e w2 ⟨rfl,⟨ev,hC⟩,hF⟩;clear c0 c1 c2 c3 c4 c5 c6 c7;replace HBe:=kF hF HBe;replace HF:=h_ (HF.out.trans hF);replace HC:=h_ hC;replace HBg:=h_ hC.blk;clear hC hF;go_wp2_with fail
  go_ret
  have e:kNode G.fs rf k nm ot ln cl (posU (ks.getD 1 u0)) (kExs G.fs rf ks) s=kLet rf nm ln cl (kExs G.fs rf ks) s:=by unfold kNode;rw[if_pos H26.out]
  rw[e];exact⟨rfl,⟨ev,HC.out⟩,HF.out⟩
 by_cases h27:k=27
 ·have q26:(((k:Nat):Int)==26)=false:=by rw[beq_eq_false_iff_ne];omega
  have q27:(((k:Nat):Int)==27)=true:=by rw[beq_iff_eq];omega
  have H27:=h_ h27;clear h27;obtain⟨c0,c1,c2,c3,c4,c5,c6,c7⟩:=cl8 HBe.out;go_upto_region 5 with fail
  clear q26 q27;go_wp2_with fail
  refine (match_s HC.out ⟨(k:Nat),⟨nm.toArray⟩,⟨ot.toArray⟩,false,xao,xn,xq,xko,ks.length,xkc,(ln:Nat),(cl:Nat)⟩ k nm ot z ln cl ks S HUU.out HBU.out G.fs HKB.out n HD.out HNN.out H27.out).mono ?_;rintro e w2 ⟨rfl,⟨ev,hC⟩,hF⟩;clear c0 c1 c2 c3 c4 c5 c6 c7;replace HBe:=kF hF HBe;replace HF:=h_ (HF.out.trans hF);replace HC:=h_ hC;replace HBg:=h_ hC.blk;clear hC hF;go_wp2_with fail
  go_ret
  have e:kNode G.fs rf k nm ot ln cl (posU (ks.getD 1 u0)) (kExs G.fs rf ks) s=kMatch rf nm ot ln cl (kExs G.fs rf ks) s:=by unfold kNode;rw[if_neg h26,if_pos H27.out]
  rw[e];exact⟨rfl,⟨ev,HC.out⟩,HF.out⟩
 by_cases h28:k=28
 ·have q26:(((k:Nat):Int)==26)=false:=by rw[beq_eq_false_iff_ne];omega
  have q27:(((k:Nat):Int)==27)=false:=by rw[beq_eq_false_iff_ne];omega
  have q28:(((k:Nat):Int)==28)=true:=by rw[beq_iff_eq];omega
  have H28:=h_ h28;clear h28;obtain⟨c0,c1,c2,c3,c4,c5,c6,c7⟩:=cl8 HBe.out;go_upto_region 7 with fail
  clear q26 q27 q28;go_wp2_with fail
  refine (assert_s HC.out ⟨(k:Nat),⟨nm.toArray⟩,⟨ot.toArray⟩,false,xao,xn,xq,xko,ks.length,xkc,(ln:Nat),(cl:Nat)⟩ k nm ot z ln cl ks S HUU.out HBU.out G.fs HKB.out n HD.out HNN.out H28.out).mono ?_;rintro e w2 ⟨rfl,⟨ev,hC⟩,hF⟩;clear c0 c1 c2 c3 c4 c5 c6 c7;replace HBe:=kF hF HBe;replace HF:=h_ (HF.out.trans hF);replace HC:=h_ hC;replace HBg:=h_ hC.blk;clear hC hF;go_wp2_with fail
  go_ret
  have e:kNode G.fs rf k nm ot ln cl (posU (ks.getD 1 u0)) (kExs G.fs rf ks) s=kAssert rf ln cl (kExs G.fs rf ks) s:=by unfold kNode;rw[if_neg h26,if_neg h27,if_pos H28.out]
  rw[e];exact⟨rfl,⟨ev,HC.out⟩,HF.out⟩
 have e:kNode G.fs rf k nm ot ln cl (posU (ks.getD 1 u0)) (kExs G.fs rf ks) s=kRest G.fs rf k nm ln cl (posU (ks.getD 1 u0)) (kRun (kExs G.fs rf ks) s).1 (kRun (kExs G.fs rf ks) s).2:=by unfold kNode;rw[if_neg h26,if_neg h27,if_neg h28]
 have HE:=h_ e;clear e;have q26:(((k:Nat):Int)==26)=false:=by rw[beq_eq_false_iff_ne];omega
 have q27:(((k:Nat):Int)==27)=false:=by rw[beq_eq_false_iff_ne];omega
 have q28:(((k:Nat):Int)==28)=false:=by rw[beq_eq_false_iff_ne];omega
 have H678:Hid (k≠26/\k≠27/\k≠28):=h_ ⟨h26,h27,h28⟩;clear h26 h27 h28;obtain⟨c0,c1,c2,c3,c4,c5,c6,c7⟩:=cl8 HBe.out;obtain⟨i0,hi0,hz0,hz1,hz2⟩:=info_parts infoBase;have hkm:=HKL.out;obtain⟨kt,hkt⟩:∃ q,w1.heap.size=q:=⟨_,rfl⟩
 go_wp2_with (first | (at_make;refine wpList_make_blk _ rfl _ _ 212 rfl 39 i0 .i64 Tryz.underlying212 hi0 hz0 hz1 _ _ _ _ ks.length rfl rfl rfl rfl (by omega) (by omega) ?_;intro wT hBT hbT hsT;have hqe:=kB hbT HBe;have d5:=cell_at (v:=.slice xko ks.length xkc) hqe.out 5 rfl;clear hqe) | fail)
 clear hkm q26 q27 q28;clear d5;rw[hkt] at hBT;have hgt:kg<kt:=by rw[<-hkt];exact lt_of_block HBg.out
 have hst:bs<kt:=by rw[<-hkt];exact HC.out.sm.lt
 have het:w.heap.size<=kt:=by rw[<-hkt];exact HF.out.size
 have he_t:ke<kt:=by rw[<-hkt];exact lt_of_block HBe.out
 clear c0 c1 c2 c3 c4 c5 c6 c7;replace HBg:=kB hbT HBg;replace HBe:=kB hbT HBe;replace HC:=h_ (HC.out.below hbT);replace HF:=fb_ HF hbT;have HBt:Hid (wT.heap[kt]?=some (.cells ((List.replicate ks.length 0).map iv).toArray 39 (0,0))):=h_ (blk_iv hBT);have HW0:Hid (w0.heap.size<=kt):=h_ (by have:=HC.out.bw.size;have:=HC.out.gB;omega);clear hBT hbT hsT hkt
 go_loopw [32] (fun i wr=>∃ (j:Nat) (ev:Value) (sj:Ks) (tj:List Nat),i=.int .i64 (j:Nat)/\j<=ks.length/\Hid (tj.length=j)/\Hid (kRun ((kExs G.fs rf ks).take j) s=(tj,sj))/\Hid (Dom sj.sc n)/\Hid (Ck w0 wr kg bf bs Gv sj rf ev)/\Hid (wr.heap[ke]?=some (.cells #[.int .i64 (k:Nat),.string ⟨nm.toArray⟩,.string ⟨ot.toArray⟩,.bool false,.slice xao xn xq,.slice xko ks.length xkc,.int .i64 (ln:Nat),.int .i64 (cl:Nat)] 46 (0,0)))/\Hid (wr.heap[kt]?=some (.cells ((tj++List.replicate (ks.length - j) 0).map iv).toArray 39 (0,0)))/\Hid (Fc w wr kg bs)) (fun i _=>ks.length - (intOf i).toNat)
 case atStart=>exact⟨0,ev,s,[],rfl,Nat.zero_le _,h_ rfl,h_ rfl,HD,HC,HBe,HBt,HF⟩
 case round =>
  obtain⟨wl,hwl⟩:∃ q,q=wr:=⟨_,rfl⟩
  subst hwl;clear HC HBe HBt HF HBg
  try clear ev
  obtain⟨j,ev,sj,tj,rfl,hj,HTL,HRN,HDJ,HC,HBe,HBt,HF⟩:=hrel;have HBg:=h_ HC.out.blk
  by_cases hi:j<ks.length
  ·obtain⟨y,⟨a,rfl,hy⟩,hU⟩:=HK.out j hi;have hbw0:=HC.out.bw;obtain⟨z0,z1,z2,z3,z4,z5,z6,z7⟩:=cells8 (w:=wl) (p:=a.add (j*8)) (y:=y) (fun q v hv=>by have:=hy q v hv;rw[Nat.zero_add] at this;rw[hbw0.cell (cell_lt this)];exact this);have HU:=h_ hU;clear hy hU hbw0;obtain⟨c0,c1,c2,c3,c4,c5,c6,c7⟩:=cl8 HBe.out;go_upto_region 12 with fail
   have het2:kt<wl.heap.size:=lt_of_block HBt.out;clear c0 c1 c2 c3 c4 c5 c6 c7 z0 z1 z2 z3 z4 z5 z6 z7;obtain⟨w2,kd,hw,hkk,hb,hs1,HBd⟩:=newb wl #[.int .i64 y.k,.string y.nm,.string y.ot,.bool y.b,.slice y.ao y.n y.c,.slice y.ko y.kn y.kc,.int .i64 y.ln,.int .i64 y.cl] 46;have hgd:=lk_ hkk HBg;have hsd:bs<kd:=by rw[hkk];exact HC.out.sm.lt
   have hed:w.heap.size<=kd:=by rw[hkk];exact HF.out.size
   have he_d:=lk_ hkk HBe;have ht_d:=lk_ hkk HBt;rw[hw,<-hkk];replace HBg:=kB hb HBg;replace HBe:=kB hb HBe;replace HBt:=kB hb HBt;replace HC:=h_ (HC.out.below hb);replace HF:=fb_ HF hb;clear hw hb hkk hs1;obtain⟨d0,d1,d2,d3,d4,d5,d6,d7⟩:=cl8 HBd.out;have qt:w2.cell? ⟨kt,j,none⟩=some (.int .i64 (nth (tj++List.replicate (ks.length - j) 0) j)):=(iv_blk HBt.out).cell (by rw[lsa,HTL.out,List.length_replicate];omega);go_wp2_with fail
   refine (HKB.out j hi y S w2 kg bf bs sj ev n HU.out (HKS.out j hi) HC.out HDJ.out (by have:=ud_kid (ks:=ks) (j:=j) hi;have:=HNN.out;omega)).mono ?_;rintro e w3 ⟨rfl,⟨ev,hC⟩,hF⟩;clear d0 d1 d2 d3 d4 d5 d6 d7 qt;replace HBe:=kF hF HBe;replace HBt:=kF hF HBt;replace HBd:=kF hF HBd;replace HF:=h_ (HF.out.trans hF);replace HC:=h_ hC;replace HBg:=h_ hC.blk;clear hC hF;obtain⟨bj,hbj⟩:∃ x,x=(kEx G.fs rf ks[j] sj).1:=⟨_,rfl⟩
   obtain⟨sk,hsk⟩:∃ x,x=(kEx G.fs rf ks[j] sj).2:=⟨_,rfl⟩
   rw[<-hbj];rw[<-hsk] at HC;have HBJ:=h_ hbj;have HSK:=h_ hsk;clear hbj hsk;have hql:j<(tj++List.replicate (ks.length - j) 0).length:=by rw[lsa,HTL.out,List.length_replicate];omega
   have qt:w3.cell? ⟨kt,j,none⟩=some (.int .i64 (nth (tj++List.replicate (ks.length - j) 0) j)):=(iv_blk HBt.out).cell hql;have ft:w3.frozen? ⟨kt,j,none⟩=false:=(iv_blk HBt.out).frozen j;unfold iv;go_wp2_with fail
   obtain⟨wS,hwS⟩:∃ q,q=w3.setCell ⟨kt,j,none⟩ (.int .i64 (bj:Nat)):=⟨_,rfl⟩
   rw[<-hwS];have hg:w3.grownBy wS (some kt):=by rw[hwS];exact grown_set _ kt j _
   have hB2:=(iv_blk HBt.out).set j bj _ rfl;rw[<-hwS] at hB2;have hset:(tj++List.replicate (ks.length - j) 0).set j bj=(tj++[bj])++List.replicate (ks.length - (j+1)) 0:=by have h1:=set_zeros tj (ks.length - j) bj (by omega);rw[HTL.out] at h1;rw[h1,Nat.sub_sub]
   rw[hset] at hB2;clear hset qt ft hwS;replace HC:=h_ (HC.out.own HBt.out (by decide) (by omega) HW0.out hg);replace HBe:=kG hg HBe;replace HF:=h_ (HF.out.of_new hg het);have HB2:=h_ (blk_iv hB2);clear hg hB2;have HTL2:Hid ((tj++[bj]).length=j+1):=h_ (by rw[lsa,HTL.out];rfl);have HRN2:Hid (kRun ((kExs G.fs rf ks).take (j+1)) s=(tj++[bj],sk)):=h_ (by rw[HBJ.out,HSK.out];exact kRun_take G.fs rf ks j hi s HRN.out);have HDK:Hid (Dom sk.sc n):=h_ (by rw[HSK.out];exact HDJ.out.sub (kdm_b G.fs rf _ sj));go_roundw
   case rel=>exact⟨j+1,ev,sk,tj++[bj],by go_num,hi,HTL2,HRN2,HDK,HC,HBe,HB2,HF⟩
   case measure=>simp[intOf];omega
  have hjj:j=ks.length:=by omega
  subst hjj;have hrn:=HRN.out;rw[List.take_of_length_le (by rw[kExs_len];exact Nat.le_refl _)] at hrn;have HRN2:=h_ hrn;clear hrn;rw[Nat.sub_self,List.replicate_zero,List.append_nil] at HBt;have htm:tj.length<=maxLen:=by rw[HTL.out];exact HKM.out
  have HTM:=h_ htm;clear htm hi HRN
  by_cases h3:k=3
  ·have q3:(((k:Nat):Int)==3)=true:=by rw[beq_iff_eq];omega
   have H3:=h_ h3;clear h3;obtain⟨c0,c1,c2,c3,c4,c5,c6,c7⟩:=cl8 HBe.out;go_upto_region 16 with fail
   clear q3;go_wp2_with fail
   refine (variable_s HC.out ⟨(k:Nat),⟨nm.toArray⟩,⟨ot.toArray⟩,false,xao,xn,xq,xko,ks.length,xkc,(ln:Nat),(cl:Nat)⟩ nm ln cl rfl rfl rfl (nm_ok HNM.out)).mono ?_;rintro e w2 ⟨rfl,⟨ev,hC⟩,hF⟩;clear c0 c1 c2 c3 c4 c5 c6 c7;replace HBe:=kF hF HBe;replace HBt:=kF hF HBt;replace HF:=h_ (HF.out.trans hF);replace HC:=h_ hC;replace HBg:=h_ hC.blk;clear hC hF;go_wp2_with fail
   go_ret
   have e:kRest G.fs rf k nm ln cl (posU (ks.getD 1 u0)) tj sj=kVar nm ln cl sj:=by unfold kRest;rw[if_pos H3.out]
   rw[(HE.out.trans (show _=kRest G.fs rf k nm ln cl (posU (ks.getD 1 u0)) tj sj by rw[HRN2.out])).trans e];exact⟨rfl,⟨ev,HC.out⟩,HF.out⟩
  by_cases h24:k=24
  ·have hcs:=call_s HC.out ⟨(k:Nat),⟨nm.toArray⟩,⟨ot.toArray⟩,false,xao,xn,xq,xko,ks.length,xkc,(ln:Nat),(cl:Nat)⟩ k nm ot z ln cl ks S HUU.out HBU.out kt tj HBt.out HTM.out (by omega) (by omega) G SG HGV.out;rw[HTL.out] at hcs;have HCS:=h_ hcs;clear hcs;have q3:(((k:Nat):Int)==3)=false:=by rw[beq_eq_false_iff_ne];omega
   have q24:(((k:Nat):Int)==24)=true:=by rw[beq_iff_eq];omega
   have H24:=h_ h24;clear h24;obtain⟨c0,c1,c2,c3,c4,c5,c6,c7⟩:=cl8 HBe.out;go_upto_region 18 with fail
   clear q3 q24;go_wp2_with fail
   refine (HCS.out).mono ?_;rintro e w2 ⟨rfl,⟨ev,hC⟩,hF⟩;clear c0 c1 c2 c3 c4 c5 c6 c7;replace HBe:=kF hF HBe;replace HBt:=kF hF HBt;replace HF:=h_ (HF.out.trans hF);replace HC:=h_ hC;replace HBg:=h_ hC.blk;clear hC hF;go_wp2_with fail
   go_ret
   have e:kRest G.fs rf k nm ln cl (posU (ks.getD 1 u0)) tj sj=kCall G.fs rf nm ln cl tj sj:=by unfold kRest;rw[if_neg h3,if_pos H24.out]
   rw[(HE.out.trans (show _=kRest G.fs rf k nm ln cl (posU (ks.getD 1 u0)) tj sj by rw[HRN2.out])).trans e];exact⟨rfl,⟨ev,HC.out⟩,HF.out⟩
  by_cases h25:k=25
  ·obtain⟨t0,t1,t2,ht⟩   := threeB (l:=tj) (by rw[HTL.out];rcases HAR.out.2 with h | h;omega;rw[h,h25];rfl);have hl3:ks.length=3:=by rw[<-HTL.out,ht];rfl
   rw[ht] at HBt;have hcs:=choice_m HC.out ⟨(k:Nat),⟨nm.toArray⟩,⟨ot.toArray⟩,false,xao,xn,xq,xko,ks.length,xkc,(ln:Nat),(cl:Nat)⟩ nm ln cl rfl rfl rfl kt t0 t1 t2 HBt.out (by omega) (by omega) ks.length hl3;have HCS:=h_ hcs;have HT3:=h_ ht;have HL3:=h_ hl3;clear hcs ht hl3;have q3:(((k:Nat):Int)==3)=false:=by rw[beq_eq_false_iff_ne];omega
   have q24:(((k:Nat):Int)==24)=false:=by rw[beq_eq_false_iff_ne];omega
   have q25:(((k:Nat):Int)==25)=true:=by rw[beq_iff_eq];omega
   have H25:=h_ h25;clear h25;obtain⟨c0,c1,c2,c3,c4,c5,c6,c7⟩:=cl8 HBe.out;go_upto_region 20 with fail
   clear q3 q24 q25;go_wp2_with fail
   refine (HCS.out).mono ?_;rintro e w2 ⟨rfl,⟨ev,hC⟩,hF⟩;clear c0 c1 c2 c3 c4 c5 c6 c7;replace HBe:=kF hF HBe;replace HBt:=kF hF HBt;replace HF:=h_ (HF.out.trans hF);replace HC:=h_ hC;replace HBg:=h_ hC.blk;clear hC hF;go_wp2_with fail
   go_ret
   have e:kRest G.fs rf k nm ln cl (posU (ks.getD 1 u0)) tj sj=kIf rf ln cl [t0,t1,t2] sj:=by rw[HT3.out];unfold kRest;rw[if_neg h3,if_neg h24,if_pos H25.out]
   rw[(HE.out.trans (show _=kRest G.fs rf k nm ln cl (posU (ks.getD 1 u0)) tj sj by rw[HRN2.out])).trans e];exact⟨rfl,⟨ev,HC.out⟩,HF.out⟩
  by_cases h15:k=15
  ·obtain⟨t0,t1,ht⟩:=twoB (l:=tj) (by rw[HTL.out];rcases HAR.out.2 with h | h;omega;rw[h,h15];rfl);have hl3:ks.length=2:=by rw[<-HTL.out,ht];rfl
   rw[ht] at HBt;have HT3:=h_ ht;have HL3:=h_ hl3;clear ht hl3;replace HBt:Hid (wl.heap[kt]?=some (.cells #[.int .i64 (t0:Nat),.int .i64 (t1:Nat)] 39 (0,0))):=HBt;have q3:(((k:Nat):Int)==3)=false:=by rw[beq_eq_false_iff_ne];omega
   have q24:(((k:Nat):Int)==24)=false:=by rw[beq_eq_false_iff_ne];omega
   have q25:(((k:Nat):Int)==25)=false:=by rw[beq_eq_false_iff_ne];omega
   have q15:(((k:Nat):Int)==15)=true:=by rw[beq_iff_eq];omega
   have H15:=h_ h15;clear h15;obtain⟨c0,c1,c2,c3,c4,c5,c6,c7⟩:=cl8 HBe.out;go_upto_region 23 with fail
   clear q3 q24 q25 q15;clear c0 c1 c2 c3 c4 c5 c6 c7;rw[HL3.out];have hlt_e:=lt_of_block HBe.out;have hlt_t:=lt_of_block HBt.out;refine R7.r0 [[],[],[],[2],[2,3],[],[5],[5,6],[2,3,4,5,6,7],[0,1,2,3,4,5,6,7,8]] 9 ?_;refine R7.cd ?_ (fun T xs wr hA=>?_) ?_
   rotate_left
   ·have e0:=hA.pq 0;simp only[gsa,gsz] at e0;clear hA;go_simp<;>(try with_reducible rfl)
   refine R7.cd ?_ (fun T xs wr hA=>?_) ?_
   rotate_left
   ·have e3:=hA.pq 3;simp only[gsa,gsc,gsz] at e3;have hBq:wr.heap[ke]?=_:=(hA.bl _ hlt_e (fun q h=>absurd h (Nat.not_lt_zero _))).trans HBe.out;obtain⟨q0,q1,q2,q3,q4,q5,q6,q7⟩:=cl8 hBq;clear hBq;clear hA;go_simp<;>(try with_reducible rfl)
   refine R7.cd ?_ (fun T xs wr hA=>?_) ?_
   rotate_left
   ·have e5:=hA.pq 5;simp only[gsa,gsc,gsz] at e5;clear hA;go_simp<;>(try with_reducible rfl)
   refine R7.cd ?_ (fun T xs wr hA=>?_) ?_
   rotate_left
   ·have e68:=tr_ (hA.tq 2 68) (hA.fq 2)
    (try simp (disch:=decide) only [R7.mi] at e68)
    clear hA;go_simp<;>(try with_reducible rfl)
   refine R7.cd ?_ (fun T xs wr hA=>?_) ?_
   rotate_left
   ·have e69:=tr_ (hA.tq 3 69) (hA.fq 3)
    (try simp (disch:=decide) only [R7.mi] at e69)
    have hBq:wr.heap[kt]?=_:=(hA.bl _ hlt_t (fun q h=>absurd h (Nat.not_lt_zero _))).trans HBt.out;obtain⟨q0,q1⟩:=cl2 hBq;clear hBq;clear hA;go_simp<;>(try with_reducible rfl)
   refine R7.cd ?_ (fun T xs wr hA=>?_) ?_
   rotate_left
   ·have e5:=hA.pq 5;simp only[gsa,gsc,gsz] at e5;clear hA;go_simp<;>(try with_reducible rfl)
   refine R7.cd ?_ (fun T xs wr hA=>?_) ?_
   rotate_left
   ·have e71:=tr_ (hA.tq 5 71) (hA.fq 5)
    (try simp (disch:=decide) only [R7.mi] at e71)
    clear hA;go_simp<;>(try with_reducible rfl)
   refine R7.cd ?_ (fun T xs wr hA=>?_) ?_
   rotate_left
   ·have e72:=tr_ (hA.tq 6 72) (hA.fq 6)
    (try simp (disch:=decide) only [R7.mi] at e72)
    have hBq:wr.heap[kt]?=_:=(hA.bl _ hlt_t (fun q h=>absurd h (Nat.not_lt_zero _))).trans HBt.out;obtain⟨q0,q1⟩:=cl2 hBq;clear hBq;clear hA;go_simp<;>(try with_reducible rfl)
   refine R7.cd ?_ (fun T xs wr hA=>?_) ?_
   rotate_left
   ·have e70:=tr_ (hA.tq 4 70) (hA.fq 4);have e73:=tr_ (hA.tq 7 73) (hA.fq 7)
    (try simp (disch:=decide) only [R7.mi] at e70 e73)
    clear hA;go_simp<;>(try with_reducible rfl)
   refine R7.Chain.done (fun xs w2 hL=>?_);obtain⟨⟨hbe,hbl⟩,hf,-,-⟩:=hL;have f0:xs 0=_:=hf 0 (by decide);have f1:xs 1=_:=hf 1 (by decide);have f2:xs 2=_:=hf 2 (by decide);have f3:xs 3=_:=hf 3 (by decide);have f4:xs 4=_:=hf 4 (by decide);have f5:xs 5=_:=hf 5 (by decide);have f6:xs 6=_:=hf 6 (by decide);have f7:xs 7=_:=hf 7 (by decide);have f8:xs 8=_:=hf 8 (by decide)
   (try simp (disch:=decide) only [R7.mi] at f0 f1 f2 f3 f4 f5 f6 f7 f8)
   have hb:Below wl.heap.size wl w2:=R7.b0_ hbe;clear hbe hbl hf;refine R7.rest_list (by decide) (by kernel_rfl) ?_;simp only[R7.fill,t1_,t2_,t3_,t4_,t5_,t6_,t7_,f0,f1,f2,f3,f4,f5,f6,f7,f8];clear hlt_e hlt_t f0 f1 f2 f3 f4 f5 f6 f7 f8;replace HBg:=kB hb HBg;replace HBe:=kB hb HBe;replace HBt:=kB hb HBt;replace HC:=h_ (HC.out.below hb);replace HF:=fb_ HF hb;clear hb;go_wp2_with fail
   refine (need_p HC.out ⟨(k:Nat),⟨nm.toArray⟩,⟨ot.toArray⟩,false,xao,xn,xq,xko,ks.length,xkc,(ln:Nat),(cl:Nat)⟩ ln cl rfl rfl (((t0:Nat):Int)==((t1:Nat):Int)) 4).mono ?_;rintro e w3 ⟨rfl,⟨ev,hC⟩,hF⟩;replace HBe:=kF hF HBe;replace HBt:=kF hF HBt;replace HF:=h_ (HF.out.trans hF);replace HC:=h_ hC;replace HBg:=h_ hC.blk;clear hC hF;rw[nbeq] at HC;go_wp2_with fail
   go_ret
   have e:kRest G.fs rf k nm ln cl (posU (ks.getD 1 u0)) tj sj=kEq ln cl [t0,t1] sj:=by rw[HT3.out];unfold kRest;rw[if_neg h3,if_neg h24,if_neg h25,if_pos (by have:=H15.out;omega)]
   rw[(HE.out.trans (show _=kRest G.fs rf k nm ln cl (posU (ks.getD 1 u0)) tj sj by rw[HRN2.out])).trans e];exact⟨rfl,⟨ev,HC.out⟩,HF.out⟩
  by_cases h16:k=16
  ·obtain⟨t0,t1,ht⟩:=twoB (l:=tj) (by rw[HTL.out];rcases HAR.out.2 with h | h;omega;rw[h,h16];rfl);have hl3:ks.length=2:=by rw[<-HTL.out,ht];rfl
   rw[ht] at HBt;have HT3:=h_ ht;have HL3:=h_ hl3;clear ht hl3;replace HBt:Hid (wl.heap[kt]?=some (.cells #[.int .i64 (t0:Nat),.int .i64 (t1:Nat)] 39 (0,0))):=HBt;have q3:(((k:Nat):Int)==3)=false:=by rw[beq_eq_false_iff_ne];omega
   have q24:(((k:Nat):Int)==24)=false:=by rw[beq_eq_false_iff_ne];omega
   have q25:(((k:Nat):Int)==25)=false:=by rw[beq_eq_false_iff_ne];omega
   have q15:(((k:Nat):Int)==15)=false:=by rw[beq_eq_false_iff_ne];omega
   have q16:(((k:Nat):Int)==16)=true:=by rw[beq_iff_eq];omega
   have H16:=h_ h16;clear h16;obtain⟨c0,c1,c2,c3,c4,c5,c6,c7⟩:=cl8 HBe.out;go_upto_region 23 with fail
   clear q3 q24 q25 q15 q16;clear c0 c1 c2 c3 c4 c5 c6 c7;rw[HL3.out];have hlt_e:=lt_of_block HBe.out;have hlt_t:=lt_of_block HBt.out;refine R7.r0 [[],[],[],[2],[2,3],[],[5],[5,6],[2,3,4,5,6,7],[0,1,2,3,4,5,6,7,8]] 9 ?_;refine R7.cd ?_ (fun T xs wr hA=>?_) ?_
   rotate_left
   ·have e0:=hA.pq 0;simp only[gsa,gsz] at e0;clear hA;go_simp<;>(try with_reducible rfl)
   refine R7.cd ?_ (fun T xs wr hA=>?_) ?_
   rotate_left
   ·have e3:=hA.pq 3;simp only[gsa,gsc,gsz] at e3;have hBq:wr.heap[ke]?=_:=(hA.bl _ hlt_e (fun q h=>absurd h (Nat.not_lt_zero _))).trans HBe.out;obtain⟨q0,q1,q2,q3,q4,q5,q6,q7⟩:=cl8 hBq;clear hBq;clear hA;go_simp<;>(try with_reducible rfl)
   refine R7.cd ?_ (fun T xs wr hA=>?_) ?_
   rotate_left
   ·have e5:=hA.pq 5;simp only[gsa,gsc,gsz] at e5;clear hA;go_simp<;>(try with_reducible rfl)
   refine R7.cd ?_ (fun T xs wr hA=>?_) ?_
   rotate_left
   ·have e68:=tr_ (hA.tq 2 68) (hA.fq 2)
    (try simp (disch:=decide) only [R7.mi] at e68)
    clear hA;go_simp<;>(try with_reducible rfl)
   refine R7.cd ?_ (fun T xs wr hA=>?_) ?_
   rotate_left
   ·have e69:=tr_ (hA.tq 3 69) (hA.fq 3)
    (try simp (disch:=decide) only [R7.mi] at e69)
    have hBq:wr.heap[kt]?=_:=(hA.bl _ hlt_t (fun q h=>absurd h (Nat.not_lt_zero _))).trans HBt.out;obtain⟨q0,q1⟩:=cl2 hBq;clear hBq;clear hA;go_simp<;>(try with_reducible rfl)
   refine R7.cd ?_ (fun T xs wr hA=>?_) ?_
   rotate_left
   ·have e5:=hA.pq 5;simp only[gsa,gsc,gsz] at e5;clear hA;go_simp<;>(try with_reducible rfl)
   refine R7.cd ?_ (fun T xs wr hA=>?_) ?_
   rotate_left
   ·have e71:=tr_ (hA.tq 5 71) (hA.fq 5)
    (try simp (disch:=decide) only [R7.mi] at e71)
    clear hA;go_simp<;>(try with_reducible rfl)
   refine R7.cd ?_ (fun T xs wr hA=>?_) ?_
   rotate_left
   ·have e72:=tr_ (hA.tq 6 72) (hA.fq 6)
    (try simp (disch:=decide) only [R7.mi] at e72)
    have hBq:wr.heap[kt]?=_:=(hA.bl _ hlt_t (fun q h=>absurd h (Nat.not_lt_zero _))).trans HBt.out;obtain⟨q0,q1⟩:=cl2 hBq;clear hBq;clear hA;go_simp<;>(try with_reducible rfl)
   refine R7.cd ?_ (fun T xs wr hA=>?_) ?_
   rotate_left
   ·have e70:=tr_ (hA.tq 4 70) (hA.fq 4);have e73:=tr_ (hA.tq 7 73) (hA.fq 7)
    (try simp (disch:=decide) only [R7.mi] at e70 e73)
    clear hA;go_simp<;>(try with_reducible rfl)
   refine R7.Chain.done (fun xs w2 hL=>?_);obtain⟨⟨hbe,hbl⟩,hf,-,-⟩:=hL;have f0:xs 0=_:=hf 0 (by decide);have f1:xs 1=_:=hf 1 (by decide);have f2:xs 2=_:=hf 2 (by decide);have f3:xs 3=_:=hf 3 (by decide);have f4:xs 4=_:=hf 4 (by decide);have f5:xs 5=_:=hf 5 (by decide);have f6:xs 6=_:=hf 6 (by decide);have f7:xs 7=_:=hf 7 (by decide);have f8:xs 8=_:=hf 8 (by decide)
   (try simp (disch:=decide) only [R7.mi] at f0 f1 f2 f3 f4 f5 f6 f7 f8)
   have hb:Below wl.heap.size wl w2:=R7.b0_ hbe;clear hbe hbl hf;refine R7.rest_list (by decide) (by kernel_rfl) ?_;simp only[R7.fill,t1_,t2_,t3_,t4_,t5_,t6_,t7_,f0,f1,f2,f3,f4,f5,f6,f7,f8];clear hlt_e hlt_t f0 f1 f2 f3 f4 f5 f6 f7 f8;replace HBg:=kB hb HBg;replace HBe:=kB hb HBe;replace HBt:=kB hb HBt;replace HC:=h_ (HC.out.below hb);replace HF:=fb_ HF hb;clear hb;go_wp2_with fail
   refine (need_p HC.out ⟨(k:Nat),⟨nm.toArray⟩,⟨ot.toArray⟩,false,xao,xn,xq,xko,ks.length,xkc,(ln:Nat),(cl:Nat)⟩ ln cl rfl rfl (((t0:Nat):Int)==((t1:Nat):Int)) 4).mono ?_;rintro e w3 ⟨rfl,⟨ev,hC⟩,hF⟩;replace HBe:=kF hF HBe;replace HBt:=kF hF HBt;replace HF:=h_ (HF.out.trans hF);replace HC:=h_ hC;replace HBg:=h_ hC.blk;clear hC hF;rw[nbeq] at HC;go_wp2_with fail
   go_ret
   have e:kRest G.fs rf k nm ln cl (posU (ks.getD 1 u0)) tj sj=kEq ln cl [t0,t1] sj:=by rw[HT3.out];unfold kRest;rw[if_neg h3,if_neg h24,if_neg h25,if_pos (by have:=H16.out;omega)]
   rw[(HE.out.trans (show _=kRest G.fs rf k nm ln cl (posU (ks.getD 1 u0)) tj sj by rw[HRN2.out])).trans e];exact⟨rfl,⟨ev,HC.out⟩,HF.out⟩
  have hcs:=operation_s HC.out ⟨(k:Nat),⟨nm.toArray⟩,⟨ot.toArray⟩,false,xao,xn,xq,xko,ks.length,xkc,(ln:Nat),(cl:Nat)⟩ k nm ot z ln cl ks S HUU.out HBU.out kt tj HBt.out HTM.out (by omega) (by omega);rw[HTL.out] at hcs;have HCS:=h_ hcs;clear hcs;have q3:(((k:Nat):Int)==3)=false:=by rw[beq_eq_false_iff_ne];omega
  have q24:(((k:Nat):Int)==24)=false:=by rw[beq_eq_false_iff_ne];omega
  have q25:(((k:Nat):Int)==25)=false:=by rw[beq_eq_false_iff_ne];omega
  have q15:(((k:Nat):Int)==15)=false:=by rw[beq_eq_false_iff_ne];omega
  have q16:(((k:Nat):Int)==16)=false:=by rw[beq_eq_false_iff_ne];omega
  obtain⟨c0,c1,c2,c3,c4,c5,c6,c7⟩:=cl8 HBe.out;go_upto_region 25 with fail
  clear q3 q24 q25 q15 q16;go_wp2_with fail
  refine (HCS.out).mono ?_;rintro e w2 ⟨rfl,⟨ev,hC⟩,hF⟩;clear c0 c1 c2 c3 c4 c5 c6 c7;replace HBe:=kF hF HBe;replace HBt:=kF hF HBt;replace HF:=h_ (HF.out.trans hF);replace HC:=h_ hC;replace HBg:=h_ hC.blk;clear hC hF;go_wp2_with fail
  go_ret
  have e:kRest G.fs rf k nm ln cl (posU (ks.getD 1 u0)) tj sj=kOp rf k ln cl (posU (ks.getD 1 u0)) tj sj:=by unfold kRest;rw[if_neg h3,if_neg h24,if_neg h25,if_neg (by omega)]
  rw[(HE.out.trans (show _=kRest G.fs rf k nm ln cl (posU (ks.getD 1 u0)) tj sj by rw[HRN2.out])).trans e];exact⟨rfl,⟨ev,HC.out⟩,HF.out⟩
end Go.Proofs.YtkocdbgmckdcpaaGreatDoor
namespace Go.Proofs.YtkocdbgmckdcpaaGreatDoor
set_option maxRecDepth 100000
set_option linter.unusedVariables false
mutual
def uw:U->Nat
 | .node _ _ _ _ _ _ ks=>max ks.length (uws ks)
def uws:List U->Nat
 | []=>0
 | t::ts=>max (uw t) (uws ts)
end
theorem uw_prt (k:Nat) (t:Tok) (ks:List U):uw (prt k t ks)=max ks.length (uws ks):=by unfold prt;rw[uw]
theorem uw_nmd (k:Nat) (t:Tok) (ks:List U):uw (nmd k t ks)=max ks.length (uws ks):=by unfold nmd;rw[uw]
theorem uw_u0:uw u0=0:=by unfold u0;rw[uw,uws];rfl
theorem uws1 (a:U):uws [a]=uw a:=by rw[uws,uws];omega
theorem uws2 (a b:U):uws [a,b]=max (uw a) (uw b):=by rw[uws,uws1]
theorem uws3 (a b c:U):uws [a,b,c]=max (uw a) (max (uw b) (uw c)):=by rw[uws,uws2]
theorem uws_app (a b:List U):uws (a++b)=max (uws a) (uws b):=by
 induction a with
 | nil=>rw[List.nil_append,uws];omega
 | cons x a ih=>rw[List.cons_append,uws,uws,ih];omega
theorem uws_mem {us:List U} {u:U} (h:u ∈ us):uw u<=uws us:=by
 induction us with
 | nil=>cases h
 | cons x us ih =>
  rw[uws];rcases List.mem_cons.1 h with rfl | h
  ·omega
  have:=ih h;omega
theorem uw_len (u:U):u.ks.length<=uw u:=by obtain⟨k,nm,ot,z,ln,cl,ks⟩:=u;rw[uw];show ks.length<=_;omega
theorem uw_kid (u:U) {j:Nat} (h:j<u.ks.length):uw u.ks[j]<=uw u:=by obtain⟨k,nm,ot,z,ln,cl,ks⟩:=u;rw[uw];have:=uws_mem (List.getElem_mem (l:=ks) h);show uw ks[j]<=_;omega
theorem c_uw (n:Nat):(∀ s x,cExpr n s=some x->uw x.1<=n+3)/\(∀ s x,cLet n s=some x->uw x.1<=n+3)/\(∀ s x,cIf n s=some x->uw x.1<=n+3)/\(∀ s x,cMatch n s=some x->uw x.1<=n+3)/\(∀ s x,cAssert n s=some x->uw x.1<=n+3) /\
  (∀ l s x,cBin n l s=some x->uw x.1<=n+3)/\(∀ l e v s x,cLoop n l e v s=some x->uw x.1<=max (uw e) (n+3))/\(∀ s x,cOne n s=some x->uw x.1<=n+3)/\(∀ s x,cAtom n s=some x->uw x.1<=n+3)/\(∀ s x,cArgs n s=some x->uws x.1<=n+3/\x.1.length<=n+1)/\(∀ l s x,cMore n l s=some x->uws x.1<=max (uws l) (n+3)/\x.1.length<=l.length+n):=by
 induction n with
 | zero=>refine⟨?_,?_,?_,?_,?_,?_,?_,?_,?_,?_,?_⟩<;>intros<;>simp_all [cExpr,cLet,cIf,cMatch,cAssert,cBin,cLoop,cOne,cAtom,cArgs,cMore]
 | succ n ih =>
  obtain⟨i1,i2,i3,i4,i5,i6,i7,i8,i9,i10,i11⟩:=ih;refine⟨?_,?_,?_,?_,?_,?_,?_,?_,?_,?_,?_⟩
  ·intro s x h;rw[cExpr] at h
   split at h;have:=i2 _ _ h;omega
   split at h;have:=i3 _ _ h;omega
   split at h;have:=i4 _ _ h;omega
   split at h;have:=i5 _ _ h;omega
   have:=i6 _ _ _ h;omega
  ·intro s x h;rw[cLet] at h;simp only[Option.bind_eq_some_iff] at h;obtain⟨r1,h1,r2,h2,h3⟩:=h;injection h3 with h3;subst h3;have a1:=i1 _ _ h1;have a2:=i1 _ _ h2;simp only[uw,uws2,lsc,lsn];omega
  ·intro s x h;rw[cIf] at h;simp only[Option.bind_eq_some_iff] at h;obtain⟨r1,h1,r2,h2,r3,h3,h4⟩:=h;injection h4 with h4;subst h4;have a1:=i1 _ _ h1;have a2:=i1 _ _ h2;have a3:=i1 _ _ h3;simp only[uw_prt,uws3,lsc,lsn];omega
  ·intro s x h;rw[cMatch] at h;simp only[Option.bind_eq_some_iff] at h;obtain⟨r1,h1,r2,h2,r3,h3,h4⟩:=h;injection h4 with h4;subst h4;have a1:=i1 _ _ h1;have a2:=i1 _ _ h2;have a3:=i1 _ _ h3;simp only[uw,uws3,lsc,lsn];omega
  ·intro s x h;rw[cAssert] at h;simp only[Option.bind_eq_some_iff] at h;obtain⟨r1,h1,r2,h2,h3⟩:=h;injection h3 with h3;subst h3;have a1:=i1 _ _ h1;have a2:=i1 _ _ h2;simp only[uw_prt,uws2,lsc,lsn];omega
  ·intro l s x h;rw[cBin,Option.bind_eq_some_iff] at h;obtain⟨r1,h1,h2⟩:=h;have a1:=i8 _ _ h1;have a2:=i7 _ _ _ _ _ h2
   omega
  ·intro l e v s x h;rw[cLoop] at h
   split at h
   ·injection h with h;subst h;simp only;omega
   split at h
   ·injection h with h;subst h;simp only;omega
   rw[Option.bind_eq_some_iff] at h;obtain⟨r1,h1,h2⟩:=h;have a1:=i6 _ _ _ h1;have a2:=i7 _ _ _ _ _ h2;simp only[uw_prt,uws2,lsc,lsn] at a2
   omega
  ·intro s x h;rw[cOne] at h
   split at h
   ·have:=i9 _ _ h;omega
   rw[Option.bind_eq_some_iff] at h;obtain⟨r1,h1,h2⟩:=h;injection h2 with h2;subst h2;have a1:=i8 _ _ h1;simp only[uw_prt,uws1,lsc,lsn];omega
  ·intro s x h;rw[cAtom] at h
   repeat' split at h
   all_goals first
    | (injection h with h;subst h;simp only[uw,uws,uw_prt,uw_nmd,uw_u0,lsn];omega)
    | (
      rw[Option.bind_eq_some_iff] at h;obtain⟨r1,h1,h2⟩:=h;injection h2 with h2;subst h2
      first
       | (have a1:=i10 _ _ h1;simp only[uw_nmd];omega)
       | (have a1:=i1 _ _ h1;simp only;omega))
  ·intro s x h;rw[cArgs] at h
   split at h
   ·injection h with h;subst h;simp only[uws,lsn];omega
   rw[Option.bind_eq_some_iff] at h;obtain⟨r1,h1,h2⟩:=h;have a1:=i1 _ _ h1;have a2:=i11 _ _ _ h2;rw[uws1,List.length_singleton] at a2
   omega
  intro l s x h;rw[cMore] at h
  split at h
  ·rw[Option.bind_eq_some_iff] at h;obtain⟨r1,h1,h2⟩:=h;have a1:=i1 _ _ h1;have a2:=i11 _ _ _ h2;rw[uws_app,uws1,lsa,List.length_singleton] at a2
   omega
  injection h with h;subst h;simp only;omega
def PmWd (d:Nat) (p:PmU):Prop:=uw p.ref<=d
def QlWd (d:Nat) (q:QlU):Prop:=uw q.body<=d
def FnWd (d:Nat) (f:FnU):Prop:=(∀ p ∈ f.ps,PmWd d p)/\PmWd d f.res/\uw f.body<=d
def PgWd (d:Nat) (p:PgU):Prop:=(∀ q ∈ p.qs,QlWd d q)/\(∀ f ∈ p.fs,FnWd d f)
theorem all_uw {n:Nat} {s:St} {x:U × St} (h:cAll n s=some x):uw x.1<=n+3:=by
 unfold cAll at h;rw[Option.bind_eq_some_iff] at h;obtain⟨r,h1,h2⟩:=h;injection h2 with h2;subst h2;have:=(c_uw n).1 _ _ h1;simp only;omega
theorem ref_uw {n:Nat} {p:PmU} {s:St} {x:PmU × St} (hp:PmWd (n+3) p) (h:cRef n p s=some x):PmWd (n+3) x.1:=by
 unfold cRef at h
 split at h
 ·rw[Option.bind_eq_some_iff] at h;obtain⟨r,h1,h2⟩:=h;injection h2 with h2;subst h2;exact all_uw h1
 injection h with h;subst h;exact hp
theorem typ_uw (n:Nat) (nm:Bs) (t:Tok) (b:Nat):PmWd (n+3) (typ nm t b):=by show uw u0<=_;rw[uw_u0];omega
theorem fpar_uw {n:Nat} {l:List PmU} {s:St} {x:List PmU × St} (hl:∀ p ∈ l,PmWd (n+3) p) (h:cFPar n l s=some x):∀ p ∈ x.1,PmWd (n+3) p:=by
 unfold cFPar at h;rw[Option.bind_eq_some_iff] at h;obtain⟨r,h1,h2⟩:=h;injection h2 with h2;subst h2;exact all_snoc hl (ref_uw (typ_uw n _ _ _) h1)
theorem fmore_uw {n:Nat}:∀ {m:Nat} {l:List PmU} {s:St} {x:List PmU × St},(∀ p ∈ l,PmWd (n+3) p)->cFMore m n l s=some x->∀ p ∈ x.1,PmWd (n+3) p
 | 0,_,_,_,_,h=>by rw[cFMore] at h;cases h
 | m+1,l,s,x,hl,h=>by
  rw[cFMore] at h
  split at h
  ·rw[Option.bind_eq_some_iff] at h;obtain⟨r,h1,h2⟩:=h;exact fmore_uw (fpar_uw hl h1) h2
  injection h with h;subst h;exact hl
theorem fpars_uw {m n:Nat} {s:St} {x:List PmU × St} (h:cFPars m n s=some x):∀ p ∈ x.1,PmWd (n+3) p:=by
 unfold cFPars at h
 split at h
 ·injection h with h;subst h;intro p hp;cases hp
 rw[Option.bind_eq_some_iff] at h;obtain⟨r,h1,h2⟩:=h;exact fmore_uw (fpar_uw (by intro p hp;cases hp) h1) h2
theorem qual_uw {m n k:Nat} {s:St} {x:QlU × St} (h:cQual m n k s=some x):QlWd (n+3) x.1:=by
 unfold cQual at h;simp only[Option.bind_eq_some_iff] at h;obtain⟨r,h1,y,h2,h3⟩:=h;injection h3 with h3;subst h3;exact all_uw h2
theorem fun_uw {m n k:Nat} {s:St} {x:FnU × St} (h:cFun m n k s=some x):FnWd (n+3) x.1:=by
 unfold cFun at h;simp only[Option.bind_eq_some_iff] at h;obtain⟨r,h1,t,h2,y,h3,h4⟩:=h;injection h4 with h4;subst h4;exact⟨fpars_uw h1,ref_uw (typ_uw n _ _ _) h2,all_uw h3⟩
theorem prog_uw {n:Nat}:∀ {m:Nat} {p:PgU} {s:St} {x:PgU × St},PgWd (n+3) p->cProg m n p s=some x->PgWd (n+3) x.1
 | 0,_,_,_,_,h=>by rw[cProg] at h;cases h
 | m+1,p,s,x,hp,h=>by
  rw[cProg] at h
  split at h
  ·rw[Option.bind_eq_some_iff] at h;obtain⟨r,h1,h2⟩:=h;exact prog_uw (p:=⟨p.qs++[r.1],p.fs⟩) ⟨all_snoc hp.1 (qual_uw h1),hp.2⟩ h2
  split at h
  ·rw[Option.bind_eq_some_iff] at h;obtain⟨r,h1,h2⟩:=h;exact prog_uw (p:=⟨p.qs,p.fs++[r.1]⟩) ⟨hp.1,all_snoc hp.2 (fun_uw h1)⟩ h2
  injection h with h;subst h;exact hp
theorem qmore_cnt:∀ {m:Nat} {l:List PmU} {s:St} {x:List PmU × St},cQMore m l s=some x->x.1.length<=l.length+m
 | 0,_,_,_,h=>by rw[cQMore] at h;cases h
 | m+1,l,s,x,h=>by
  rw[cQMore] at h
  split at h
  ·have:=qmore_cnt h;rw[lsa,List.length_singleton] at this;omega
  injection h with h;subst h;simp only;omega
theorem fmore_cnt {n:Nat}:∀ {m:Nat} {l:List PmU} {s:St} {x:List PmU × St},cFMore m n l s=some x->x.1.length<=l.length+m
 | 0,_,_,_,h=>by rw[cFMore] at h;cases h
 | m+1,l,s,x,h=>by
  rw[cFMore] at h
  split at h
  ·rw[Option.bind_eq_some_iff] at h;obtain⟨r,h1,h2⟩:=h;have:=fmore_cnt h2;unfold cFPar at h1;rw[Option.bind_eq_some_iff] at h1;obtain⟨q,h3,h4⟩:=h1;injection h4 with h4;subst h4;simp only[lsa,List.length_singleton] at this;omega
  injection h with h;subst h;simp only;omega
theorem fpars_cnt {m n:Nat} {s:St} {x:List PmU × St} (h:cFPars m n s=some x):x.1.length<=m+1:=by
 unfold cFPars at h
 split at h
 ·injection h with h;subst h;simp only[lsn];omega
 rw[Option.bind_eq_some_iff] at h;obtain⟨r,h1,h2⟩:=h;have:=fmore_cnt h2;unfold cFPar at h1;rw[Option.bind_eq_some_iff] at h1;obtain⟨q,h3,h4⟩:=h1;injection h4 with h4;subst h4;simp only[List.nil_append,List.length_singleton] at this;omega
def PgN (d:Nat) (p:PgU):Prop:=(∀ q ∈ p.qs,q.ps.length<=d)/\(∀ f ∈ p.fs,f.ps.length<=d)
theorem prog_cnt {n d:Nat}:∀ {m:Nat} {p:PgU} {s:St} {x:PgU × St},m+1<=d->PgN d p->cProg m n p s=some x->PgN d x.1/\x.1.qs.length+x.1.fs.length<=p.qs.length+p.fs.length+m
 | 0,_,_,_,_,_,h=>by rw[cProg] at h;cases h
 | m+1,p,s,x,hd,hp,h=>by
  rw[cProg] at h
  split at h
  ·rw[Option.bind_eq_some_iff] at h;obtain⟨r,h1,h2⟩:=h;unfold cQual at h1;simp only[Option.bind_eq_some_iff] at h1;obtain⟨a,h3,y,h4,h5⟩:=h1;injection h5 with h5;subst h5;have hc:=qmore_cnt h3;have:=prog_cnt (d:=d) (p:=⟨p.qs++[_],p.fs⟩) (by omega) ⟨all_snoc hp.1 (by simp only[List.length_singleton] at hc ⊢;omega),hp.2⟩ h2;refine⟨this.1,?_⟩;have:=this.2;simp only[lsa,List.length_singleton] at this;omega
  split at h
  ·rw[Option.bind_eq_some_iff] at h;obtain⟨r,h1,h2⟩:=h;unfold cFun at h1;simp only[Option.bind_eq_some_iff] at h1;obtain⟨a,h3,t,h4,y,h5,h6⟩:=h1;injection h6 with h6;subst h6;have hc:=fpars_cnt h3;have:=prog_cnt (d:=d) (p:=⟨p.qs,p.fs++[_]⟩) (by omega) ⟨hp.1,all_snoc hp.2 (by simp only;omega)⟩ h2;refine⟨this.1,?_⟩;have:=this.2;simp only[lsa,List.length_singleton] at this;omega
  injection h with h;subst h;exact⟨hp,by simp only;omega⟩
end Go.Proofs.YtkocdbgmckdcpaaGreatDoor
namespace Go.Proofs.YtkocdbgmckdcpaaGreatDoor
open Go.RowKit Go.Maps
set_option maxRecDepth 100000
set_option linter.unusedVariables false
set_option linter.unusedSimpArgs false
theorem clone_s (b:Nat) (m:Bs->Option Value) (w:World) (h:MapIs Tryz.prog 9 w b m) :
  Calls Tryz.prog 112 #[.map (some b)] w fun e w'=>e=.returned (.map (some w.heap.size))/\MapIs Tryz.prog 9 w' w.heap.size m/\Below w.heap.size w w'/\w.heap.size<w'.heap.size:=by
 obtain⟨es,clock,hb,hc⟩:=h.copy;have HCP:=h_ hc;clear hc;have hq:=fun w=>run_eql_map_nil_sl (P:=Tryz.prog) w 85 _ _ (some b) Tryz.underlying85
 have hx:=fun args w=>run_callFunc_extern (P:=Tryz.prog) (f:=131) (fn:=Tryz.f131) (e:=Extern.MapsClone.clone) (by kernel_rfl) (by kernel_rfl) (by kernel_rfl) (by kernel_rfl) (by kernel_rfl) args w
 have HX:=h_ hx;clear hx;go_enter Tryz.func112,Tryz.ntmps112
 go_wp2
 rw[HX.out,run_maps_clone_sl w 85 hb];simp only[Result.andThen];rw[Oper.upon_value]
 go_wp2
 rw[run_typeAssert_map_sl _ 85 _ _ _ _ Tryz.underlying85];simp only[Result.andThen];rw[Oper.upon_value]
 go_wp2
 go_ret
 exact⟨rfl,HCP.out _ (heap_alloc_last w _),(Below.refl _ _).alloc (Nat.le_refl _) _,by simp⟩
theorem fc_inner {a b c:World} {g s t:Nat} (h:Fc a b g s) (k:Fc b c g t) (ht:a.heap.size<=t):Fc a c g s:=
 ⟨k.os.trans h.os,k.tape.trans h.tape,k.output.trans h.output,Nat.le_trans h.size k.size,fun i hi h1 h2=>(k.block i (Nat.lt_of_lt_of_le hi h.size) h1 (by omega)).trans (h.block i hi h1 h2)⟩
theorem known_s {w0 w:World} {kg bf bs:Nat} {Gv:Bs->Option Value} {s:Ks} {ev:Value} (h:Ck w0 w kg bf bs Gv s false ev) (p:PmU) (x:X) (S:Nat->Prop) (hu:Um w0 S x p.ref) (hb:Bnd p.ref) (F:Fs) (hK:BaseOk F Gv true w0 p.ref) (n:Nat) (hd:Dom s.sc n) (hn:n+1+2*ud p.ref<=1000000000000) (hA:ArT w0) :
  Calls Tryz.prog 88 #[.pointer (some ⟨kg,0,none⟩),pmV p x] w fun e w'=>e=.returned (.tuple #[])/\CkP w0 w kg bf bs Gv (kKnown F p s) false w':=by
 have HU:=h_ hu;have HBU:=h_ hb;have HKB:=h_ hK;have HD:=h_ hd;have HNN:=h_ hn;have HA:=h_ hA;clear hu hb hK hd hn hA;unfold pmV;have HC:=h_ h;have HBg:=h_ h.blk;have HF:Hid (Fc w w kg bs):=h_ (Fc.refl _ _ _);clear h;have hgs:kg≠bs:=HC.out.gs;have HGS:=h_ hgs;have HGO:=HGS;have HSB:=h_ HC.out.sB;have HNE:=h_ HC.out.ne;clear hgs;go_enter Tryz.func88,Tryz.ntmps88
 go_upto_region 1 with fail
 obtain⟨w1,ke,hw,hkk,hb,hs1,HBe⟩:=newb w #[.string ⟨p.nm.toArray⟩,.int .i64 (p.b:Nat),.bool p.kn,.int .i64 x.k,.string x.nm,.string x.ot,.bool x.b,.slice x.ao x.n x.c,.slice x.ko x.kn x.kc,.int .i64 x.ln,.int .i64 x.cl,.int .i64 (p.ln:Nat),.int .i64 (p.cl:Nat)] 48;have hge:=lk_ hkk HBg;have hse:bs<ke:=by rw[hkk];exact HC.out.sm.lt
 have hee:w.heap.size<=ke:=by rw[hkk];exact HF.out.size
 rw[hw,<-hkk];replace HBg:=kB hb HBg;replace HC:=h_ (HC.out.below hb);replace HF:=fb_ HF hb;clear hw hb hkk hs1
 cases hkn:p.kn with
 | false =>
  rw[hkn] at HBe;obtain⟨c0,c1,c2,c3,c4,c5,c6,c7,c8,c9,c10,c11,c12⟩:=cl13 HBe.out;go_wp2_with fail
  have e:kKnown F p s=s:=by unfold kKnown;rw[hkn];rfl
  rw[e];exact bodyPost_ret (results_none Tryz.results88 _ _ _) rfl ⟨rfl,⟨ev,HC.out⟩,HF.out⟩
 | true =>
  rw[hkn] at HBe;obtain⟨g0,g1,g2,g3⟩:=cl4 HBg.out;obtain⟨fg0,fg1,fg2,fg3⟩:=fr4 HBg.out;obtain⟨c0,c1,c2,c3,c4,c5,c6,c7,c8,c9,c10,c11,c12⟩:=cl13 HBe.out;go_wp2_with fail
  refine (clone_s bs (scV s.sc) w1 HC.out.sm).mono ?_;rintro e wK ⟨rfl,hm,hb,hlt⟩;clear g0 fg0 g1 fg1 g2 fg2 g3 fg3 c0 c1 c2 c3 c4 c5 c6 c7 c8 c9 c10 c11 c12;obtain⟨bo,hbo⟩:∃ q,q=bs:=⟨_,rfl⟩
  subst hbo;obtain⟨bs,hbs⟩:∃ q,q=w1.heap.size:=⟨_,rfl⟩
  rw[<-hbs] at hm hlt;rw[<-hbs];have hgb:kg<bs:=by rw[hbs];exact lt_of_block HBg.out
  have hbb:bo<bs:=by rw[hbs];exact HC.out.sm.lt
  have hfb:bf<bs:=by rw[hbs];exact HC.out.fm.lt
  have heb:ke<bs:=by rw[hbs];exact lt_of_block HBe.out
  have hwb:w.heap.size<=bs:=by rw[hbs];exact HF.out.size
  have hw0b:w0.heap.size<=bs:=by rw[hbs];exact HC.out.bw.size
  replace HBg:=kB hb HBg;replace HBe:=kB hb HBe;replace HC:=h_ (HC.out.below hb);replace HF:=fb_ HF hb;have HMO:=h_ HC.out.sm;have HFO:=HF;have HKL:Hid (bs<wK.heap.size):=h_ hlt;clear hb hbs hlt;have hm2:=hm;have HM2:=h_ hm2;clear hm2;clear HF;have HF:Hid (Fc wK wK kg bs):=h_ (Fc.refl _ _ _);obtain⟨g0,g1,g2,g3⟩:=cl4 HBg.out;obtain⟨fg0,fg1,fg2,fg3⟩:=fr4 HBg.out;go_upto_region 4 with fail
  obtain⟨wL,hwA⟩:∃ q,q=wK.setCell ⟨kg,1,none⟩ (.map (some bs)):=⟨_,rfl⟩
  rw[<-hwA];have hg:wK.grownBy wL (some kg):=by rw[hwA];exact grown_set _ kg 1 _
  have hblk:wL.heap[kg]?=some (.cells #[.map (some bf),.map (some bs),.bool false,ev] 87 (0,0)):=by rw[hwA];exact heap_setCell_same _ kg 1 _ _ _ HBg.out
  clear hwA;clear g0 fg0 g1 fg1 g2 fg2 g3 fg3;replace HC:=h_ (HC.out.store (bs':=bs) (s':=s) hg hblk hm hw0b (by omega) (HC.out.erG hg));replace HBg:=h_ hblk;replace HBe:=kG hg HBe;replace HF:=h_ (HF.out.trans (Fc.of_g hg bs));clear hg hblk;clear hm;have HGS2:=h_ HC.out.gs;clear HGS;have HGS:=HGS2;clear HGS2;have hlt_g:=lt_of_block HBg.out;have hlt_e:=lt_of_block HBe.out;refine R7.r0 [[],[0],[0,1],[0,1,2],[],[4],[0,1,2,3,4,5]] 6 ?_;refine R7.cd ?_ (fun T xs wr hA=>?_) ?_
  rotate_left
  ·have e0:=hA.pq 0;simp only[gsa,gsz] at e0;clear hA;go_simp<;>(try with_reducible rfl)
  refine R7.cd ?_ (fun T xs wr hA=>?_) ?_
  rotate_left
  ·have e17:=tr_ (hA.tq 0 17) (hA.fq 0)
   (try simp (disch:=decide) only [R7.mi] at e17)
   clear hA;go_simp<;>(try with_reducible rfl)
  refine R7.cd ?_ (fun T xs wr hA=>?_) ?_
  rotate_left
  ·have e18:=tr_ (hA.tq 1 18) (hA.fq 1)
   (try simp (disch:=decide) only [R7.mi] at e18)
   clear hA;go_simp<;>(try with_reducible rfl)
  refine R7.cd ?_ (fun T xs wr hA=>?_) ?_
  rotate_left
  ·have e19:=tr_ (hA.tq 2 19) (hA.fq 2)
   (try simp (disch:=decide) only [R7.mi] at e19)
   have hBq:wr.heap[kg]?=_:=(hA.bl _ hlt_g (fun q h=>absurd h (Nat.not_lt_zero _))).trans HBg.out;obtain⟨q0,q1,q2,q3⟩:=cl4 hBq;clear hBq;clear hA;go_simp<;>(try with_reducible rfl)
  refine R7.cd ?_ (fun T xs wr hA=>?_) ?_
  rotate_left
  ·have e3:=hA.pq 3;simp only[gsa,gsc,gsz] at e3;clear hA;go_simp<;>(try with_reducible rfl)
  refine R7.cd ?_ (fun T xs wr hA=>?_) ?_
  rotate_left
  ·have e21:=tr_ (hA.tq 4 21) (hA.fq 4)
   (try simp (disch:=decide) only [R7.mi] at e21)
   have hBq:wr.heap[ke]?=_:=(hA.bl _ hlt_e (fun q h=>absurd h (Nat.not_lt_zero _))).trans HBe.out;obtain⟨q0,q1,q2,q3,q4,q5,q6,q7,q8,q9,q10,q11,q12⟩:=cl13 hBq;clear hBq;clear hA;go_simp<;>(try with_reducible rfl)
  refine R7.Chain.done (fun xs w2 hL=>?_);obtain⟨⟨hbe,hbl⟩,hf,-,-⟩:=hL;have f0:xs 0=_:=hf 0 (by decide);have f1:xs 1=_:=hf 1 (by decide);have f2:xs 2=_:=hf 2 (by decide);have f3:xs 3=_:=hf 3 (by decide);have f4:xs 4=_:=hf 4 (by decide);have f5:xs 5=_:=hf 5 (by decide)
  (try simp (disch:=decide) only [R7.mi] at f0 f1 f2 f3 f4 f5)
  have hb:Below wL.heap.size wL w2:=R7.b0_ hbe;clear hbe hbl hf;refine R7.rest_list (by decide) (by kernel_rfl) ?_;simp only[R7.fill,t1_,t2_,t3_,t4_,t5_,t6_,t7_,f0,f1,f2,f3,f4,f5];clear hlt_g hlt_e f0 f1 f2 f3 f4 f5;replace HBg:=kB hb HBg;replace HBe:=kB hb HBe;replace HC:=h_ (HC.out.below hb);replace HF:=fb_ HF hb;clear hb;go_upto_region 5 with (first | (at_mapUpdate;refine wp_update _ rfl _ _ _ 85 rfl 9 39 Tryz.underlying9 Tryz.underlying85 bs (scV s.sc) rfl HC.out.sm (domV HD.out) (Nat.lt_of_le_of_lt (by have:=HNN.out;omega) big_ok) wV rfl (by decide) (iv p.b) rfl ?_;intro wz hmz hgz) | fail)
  rw[<-scV_put] at hmz;replace HBg:=kG hgz HBg HGS.out;replace HBe:=kG hgz HBe;replace HF:=h_ (HF.out.trans (Fc.of_b hgz kg));replace HC:=h_ (HC.out.turn hgz hmz);clear hgz hmz;have HD1:=h_ (HD.out.put wV p.b);obtain⟨c0,c1,c2,c3,c4,c5,c6,c7,c8,c9,c10,c11,c12⟩:=cl13 HBe.out;go_wp2_with fail
  refine (predicate_s HC.out x p.ref S HU.out HBU.out F HKB.out (n+1) HD1.out HNN.out HA.out).mono ?_;rintro e w3 ⟨rfl,⟨ev,hC⟩,hF⟩;clear c0 c1 c2 c3 c4 c5 c6 c7 c8 c9 c10 c11 c12;replace HBe:=kF hF HBe;replace HF:=h_ (HF.out.trans hF);replace HC:=h_ hC;replace HBg:=h_ hC.blk;clear hC hF;obtain⟨g0,g1,g2,g3⟩:=cl4 HBg.out;obtain⟨fg0,fg1,fg2,fg3⟩:=fr4 HBg.out;go_wp2_with fail
  obtain⟨wM,hwA⟩:∃ q,q=w3.setCell ⟨kg,1,none⟩ (.map (some bo)):=⟨_,rfl⟩
  rw[<-hwA];have hg:w3.grownBy wM (some kg):=by rw[hwA];exact grown_set _ kg 1 _
  have hblk:wM.heap[kg]?=some (.cells #[.map (some bf),.map (some bo),.bool false,ev] 87 (0,0)):=by rw[hwA];exact heap_setCell_same _ kg 1 _ _ _ HBg.out
  clear hwA;obtain⟨sp,hsp⟩:∃ x,x=kPred F p.ref ⟨s.sc.put wV p.b,s.er⟩:=⟨_,rfl⟩
  rw[<-hsp] at HC;have HSP:=h_ hsp;clear hsp;have hbo:bo≠kg:=fun e=>HGO.out e.symm
  have hmo:=HMO.out.keep (HF.out.block bo HMO.out.lt hbo (by omega));have hfin:=HC.out.store (bs':=bo) (s':=⟨s.sc,sp.er⟩) hg hblk hmo HSB.out HNE.out (HC.out.erG hg);have hff:=HF.out.trans (Fc.of_g hg bs);have e:kKnown F p s=⟨s.sc,sp.er⟩:=by unfold kKnown;rw[hkn,HSP.out];rfl
  rw[e];exact bodyPost_end (results_none Tryz.results88 _ _ _) rfl ⟨rfl,⟨ev,hfin⟩,fc_inner HFO.out hff hwb⟩
theorem kfpar_dom (F:Fs) (s:Ks) (p:PmU) {n:Nat} (h:Dom s.sc n):Dom (kFPar F s p).sc (n+1):=by
 unfold kFPar kKnown;simp only
 split
 ·exact h.put _ _
 exact h.put _ _
theorem known_sc (F:Fs) (p:PmU) (s:Ks):(kKnown F p s).sc=s.sc:=by unfold kKnown;split<;>rfl
theorem kqpar_dom (s:Ks) (p:PmU) {n:Nat} (h:Dom s.sc n):Dom (kQPar s p).sc (n+1):=by
 unfold kQPar
 split
 ·exact h.put _ _
 exact h.mono (Nat.le_succ n)
theorem foldl_take {α β:Type} (f:β->α->β) (l:List α) (j:Nat) (h:j<l.length) (b:β):(l.take (j+1)).foldl f b=f ((l.take j).foldl f b) l[j]:=by
 rw[List.take_succ_eq_append_getElem h,List.foldl_append];rfl
theorem map_fst_get {qs:List (PmU × X)} {ps:List PmU} (h:qs.map Prod.fst=ps) {j:Nat} (hj:j<qs.length):∃ hj':j<ps.length,ps[j]=qs[j].1:=by
 subst h;exact⟨by rw[List.length_map];exact hj,by rw[List.getElem_map]⟩
def AllOk (F:Fs) (Gv:Bs->Option Value) (w0:World):Prop:=∀ (rf:Bool) (u:U),Bnd u->uw u<=1000000->BaseOk F Gv rf w0 u
theorem fun_s {w0 w:World} {kg bf bs:Nat} {Gv:Bs->Option Value} {s:Ks} {ev:Value} (h:Ck w0 w kg bf bs Gv s false ev) (f:FnU) (v:Value) (x y:X) (S:Nat->Prop) (hp:PmsAt w0 S v f.ps) (hu:Um w0 S x f.res.ref) (hv:Um w0 S y f.body) (hb:FnB f) (F:Fs) (hK:AllOk F Gv w0) (hl:f.ps.length<=100000) (hw:(∀ p ∈ f.ps,uw p.ref<=1000000/\ud p.ref<=100000000000)/\(uw f.res.ref<=1000000/\ud f.res.ref<=100000000000)/\uw f.body<=1000000/\ud f.body<=100000000000) (hA:ArT w0) :
  Calls Tryz.prog 57 #[.pointer (some ⟨kg,0,none⟩),.agg (fnC f v x y).toArray] w fun e w'=>e=.returned (.tuple #[])/\CkP w0 w kg bf bs Gv (kFun F f s.er) false w':=by
 have HPS:=h_ hp;have HU:=h_ hu;have HV:=h_ hv;have HPB:=h_ hb.2.1;have HRB:=h_ hb.2.2.1;have HBB:=h_ hb.2.2.2.1;have HKB:=h_ hK;have HPL:=h_ hl;have HW:=h_ hw;have HA:=h_ hA
 skip
 obtain⟨ps,hps⟩:∃ q,q=f.ps:=⟨_,rfl⟩
 rw[<-hps] at HPS HPB HPL HW;have HFP:=h_ hps;clear hp hu hv hb hK hl hw hA hps;have HC:=h_ h;have HBg:=h_ h.blk;have HF:Hid (Fc w w kg bs):=h_ (Fc.refl _ _ _);clear h;have hgs:kg≠bs:=HC.out.gs;have HGS:=h_ hgs;clear hgs;obtain⟨A,hA⟩:∃ q,q=fnC f v x y:=⟨_,rfl⟩
 rw[<-hA];have HAA:=h_ hA;clear hA;go_enter Tryz.func57,Tryz.ntmps57
 go_upto_region 1 with fail
 obtain⟨w1,ke,hw,hkk,hb,hs1,HBe⟩:=newb w A.toArray 50;have hge:=lk_ hkk HBg;have hse:bs<ke:=by rw[hkk];exact HC.out.sm.lt
 have hee:w.heap.size<=ke:=by rw[hkk];exact HF.out.size
 rw[hw,<-hkk];replace HBg:=kB hb HBg;replace HC:=h_ (HC.out.below hb);replace HF:=fb_ HF hb;clear hw hb hkk hs1;rw[HAA.out] at HBe;obtain⟨g0,g1,g2,g3⟩:=cl4 HBg.out;go_upto_region 2 with (first | (refine wp_clear _ rfl _ 85 rfl 9 39 Tryz.underlying85 bs (scV s.sc) rfl HC.out.sm ?_;intro wz hmz hgz) | fail)
 have hmz2:MapIs Tryz.prog 9 wz bs (scV sc0):=hmz;clear hmz;clear g0 g1 g2 g3;replace HBg:=kG hgz HBg HGS.out;replace HBe:=kG hgz HBe;replace HF:=h_ (HF.out.trans (Fc.of_b hgz kg));replace HC:=h_ (HC.out.turn hgz hmz2);clear hgz hmz2;have hst:Dom sc0 0:=Dom.nil;have HD0:=h_ hst;clear hst;obtain⟨qs,hqs,hat⟩:=HPS.out;obtain⟨ko,kc,hv,⟨hk1,hk2⟩,-,hel⟩:=hat;have HQS:=h_ hqs;have HEL:=h_ hel;have HVV:=h_ hv;have hkl:qs.length<=9223372036854775807:=Nat.le_trans hk1 hk2;have HQL:Hid (qs.length<=100000):=h_ (by have:=HPL.out;rw[<-HQS.out,List.length_map] at this;exact this);clear hqs hel hk1 hk2;have q1:=cell_at (v:=v) HBe.out 1 rfl;rw[HVV.out] at q1;clear hv;go_wp2_with fail
 clear q1
 go_loopw [15] (fun i wr=>∃ (j:Nat) (ev:Value) (sj:Ks),i=.int .i64 (j:Nat)/\j<=qs.length/\Hid (((qs.map Prod.fst).take j).foldl (kFPar F) ⟨sc0,s.er⟩=sj)/\Hid (Dom sj.sc j)/\Hid (Ck w0 wr kg bf bs Gv sj false ev)/\Hid (wr.heap[ke]?=some (.cells (fnC f v x y).toArray 50 (0,0)))/\Hid (Fc w wr kg bs)) (fun i _=>qs.length - (intOf i).toNat)
 case atStart=>exact⟨0,ev,⟨sc0,s.er⟩,rfl,Nat.zero_le _,h_ rfl,HD0,HC,HBe,HF⟩
 case round =>
  obtain⟨wl,hwl⟩:∃ q,q=wr:=⟨_,rfl⟩
  subst hwl;clear HC HBe HF HBg HD0
  try clear ev
  obtain⟨j,ev,sj,rfl,hj,HSJ,HDJ,HC,HBe,HF⟩:=hrel;have HBg:=h_ HC.out.blk
  by_cases hi:j<qs.length
  ·obtain⟨⟨a,rfl,hc⟩,hUm⟩:=HEL.out j hi;have hbw0:=HC.out.bw;obtain⟨z0,z1,z2,z3,z4,z5,z6,z7,z8,z9,z10,z11,z12⟩:=cells13 (w:=wl) (p:=a.add (j*13)) (q:=qs[j].1) (x:=qs[j].2) (fun q v hv=>by have:=hc q v hv;rw[show (a.add (j*13)).add q=(a.add (j*pmE.n)).add q from rfl,hbw0.cell (cell_lt this)];exact this);have hUm2:Um w0 S qs[j].2 qs[j].1.ref:=hUm;obtain⟨hjp,hpj⟩:=map_fst_get HQS.out hi;have hpm:qs[j].1 ∈ ps:=by rw[<-hpj];exact List.getElem_mem hjp
   have hnx:((qs.map Prod.fst).take (j+1)).foldl (kFPar F) ⟨sc0,s.er⟩=(kFPar F) sj qs[j].1:=by rw[foldl_take _ _ j (by rw[List.length_map];exact hi),HSJ.out,List.getElem_map]
   obtain⟨pp,hpp⟩:∃ q,q=qs[j]:=⟨_,rfl⟩
   rw[<-hpp] at z0 z1 z2 z3 z4 z5 z6 z7 z8 z9 z10 z11 z12 hUm2 hpm hnx;have HUP:=h_ hUm2;have HPM:=h_ hpm;have HNX:=h_ hnx;clear hpp hc hbw0 hUm hUm2 hpj hpm hnx hjp;go_upto_region 5 with fail
   have hel2:ke<wl.heap.size:=lt_of_block HBe.out;clear z0 z1 z2 z3 z4 z5 z6 z7 z8 z9 z10 z11 z12;obtain⟨w2,kp,hw,hkk,hb,hs1,HBp⟩:=newb wl #[.string ⟨pp.1.nm.toArray⟩,.int .i64 (pp.1.b:Nat),.bool pp.1.kn,.int .i64 pp.2.k,.string pp.2.nm,.string pp.2.ot,.bool pp.2.b,.slice pp.2.ao pp.2.n pp.2.c,.slice pp.2.ko pp.2.kn pp.2.kc,.int .i64 pp.2.ln,.int .i64 pp.2.cl,.int .i64 (pp.1.ln:Nat),.int .i64 (pp.1.cl:Nat)] 48;have hgp:=lk_ hkk HBg;have hsp:bs<kp:=by rw[hkk];exact HC.out.sm.lt
   have hep:w.heap.size<=kp:=by rw[hkk];exact HF.out.size
   have he_p:=lk_ hkk HBe;rw[hw,<-hkk];replace HBg:=kB hb HBg;replace HBe:=kB hb HBe;replace HC:=h_ (HC.out.below hb);replace HF:=fb_ HF hb;clear hw hb hkk hs1;have HNM:Hid (pp.1.nm.length<=maxLen):=h_ (nm_ok (HPB.out _ HPM.out).1);have hlt_g:=lt_of_block HBg.out;have hlt_p:=lt_of_block HBp.out;refine R7.r0 [[],[0],[0,1],[0,1,2],[],[4],[0,1,2,3,4,5],[0,1,2,3,4,5,6],[0,1,2,3,4,5,6,7],[0,1,2,3,4,5,6,7],[0,1,2,3,4,5,6,7,8],[0,1,2,3,4,5,6,7,8,9,10]] 12 ?_;refine R7.cd ?_ (fun T xs wr hA=>?_) ?_
   rotate_left
   ·have e0:=hA.pq 0;simp only[gsa,gsz] at e0;clear hA;go_simp<;>(try with_reducible rfl)
   refine R7.cd ?_ (fun T xs wr hA=>?_) ?_
   rotate_left
   ·have e20:=tr_ (hA.tq 0 20) (hA.fq 0)
    (try simp (disch:=decide) only [R7.mi] at e20)
    clear hA;go_simp<;>(try with_reducible rfl)
   refine R7.cd ?_ (fun T xs wr hA=>?_) ?_
   rotate_left
   ·have e21:=tr_ (hA.tq 1 21) (hA.fq 1)
    (try simp (disch:=decide) only [R7.mi] at e21)
    clear hA;go_simp<;>(try with_reducible rfl)
   refine R7.cd ?_ (fun T xs wr hA=>?_) ?_
   rotate_left
   ·have e22:=tr_ (hA.tq 2 22) (hA.fq 2)
    (try simp (disch:=decide) only [R7.mi] at e22)
    have hBq:wr.heap[kg]?=_:=(hA.bl _ hlt_g (fun q h=>absurd h (Nat.not_lt_zero _))).trans HBg.out;obtain⟨q0,q1,q2,q3⟩:=cl4 hBq;clear hBq;clear hA;go_simp<;>(try with_reducible rfl)
   refine R7.cd ?_ (fun T xs wr hA=>?_) ?_
   rotate_left
   ·have e5:=hA.pq 5;simp only[gsa,gsc,gsz] at e5;clear hA;go_simp<;>(try with_reducible rfl)
   refine R7.cd ?_ (fun T xs wr hA=>?_) ?_
   rotate_left
   ·have e24:=tr_ (hA.tq 4 24) (hA.fq 4)
    (try simp (disch:=decide) only [R7.mi] at e24)
    have hBq:wr.heap[kp]?=_:=(hA.bl _ hlt_p (fun q h=>absurd h (Nat.not_lt_zero _))).trans HBp.out;obtain⟨q0,q1,q2,q3,q4,q5,q6,q7,q8,q9,q10,q11,q12⟩:=cl13 hBq;clear hBq;clear hA;go_simp<;>(try with_reducible rfl)
   refine R7.Chain.call (fun xs v w=>v=.tuple #[iv ((sj.sc pp.1.nm).getD 0),.bool (sj.sc pp.1.nm).isSome]) (fun _ _ _ _ h _=>h) (fun _ _ _ _ _ h _ _=>h) (by rfl) (fun T xs wr hA=>?_) ?_
   ·have hsw:=(hA.be 0 (Nat.zero_le _) (fun _ _=>Nat.zero_le _)).size;have e23:=tr_ (hA.tq 3 23) (hA.fq 3);have e25:=tr_ (hA.tq 5 25) (hA.fq 5)
    (try simp (disch:=decide) only [R7.mi] at e23 e25)
    have hbw:=undrew (hA.be w2.heap.size (Nat.le_refl _) (fun q h=>absurd h (Nat.not_lt_zero _)));have hlk:=(HC.out.sm.keep (hbw.block _ HC.out.sm.lt)).look_ok Tryz.underlying9 Tryz.underlying85 (zeroB wr) (s:=pp.1.nm) HNM.out;rw[scV_get,scV_some] at hlk;unfold bsv at hlk;clear hbw;clear hA;refine⟨(by rfl),fun K hK=>?_⟩;go_simp
    exact hK.out _ _ rfl (Below.refl _ _)
   refine R7.cd ?_ (fun T xs wr hA=>?_) ?_
   rotate_left
   ·have e26:=hA.tm 6 26 (by rfl) (by rfl);have f26:xs 6=(.tuple #[iv ((sj.sc pp.1.nm).getD 0),.bool (sj.sc pp.1.nm).isSome]):=hA.fa 6 (by rfl);rw[f26] at e26;clear f26;clear hA;go_simp<;>(try with_reducible rfl)
   refine R7.cd ?_ (fun T xs wr hA=>?_) ?_
   rotate_left
   ·have e19:=tr_ (hA.tq 7 19) (hA.fq 7)
    (try simp (disch:=decide) only [R7.mi] at e19)
    clear hA;go_simp<;>(try with_reducible rfl)
   refine R7.cd ?_ (fun T xs wr hA=>?_) ?_
   rotate_left
   ·have e19:=tr_ (hA.tq 7 19) (hA.fq 7)
    (try simp (disch:=decide) only [R7.mi] at e19)
    clear hA;go_simp<;>(try with_reducible rfl)
   refine R7.cd ?_ (fun T xs wr hA=>?_) ?_
   rotate_left
   ·have e27:=tr_ (hA.tq 8 27) (hA.fq 8)
    (try simp (disch:=decide) only [R7.mi] at e27)
    clear hA;go_simp<;>(try with_reducible rfl)
   refine R7.cd ?_ (fun T xs wr hA=>?_) ?_
   rotate_left
   ·have e28:=tr_ (hA.tq 9 28) (hA.fq 9)
    (try simp (disch:=decide) only [R7.mi] at e28)
    clear hA;go_simp<;>(try with_reducible rfl)
   refine R7.Chain.done (fun xs w3 hL=>?_);obtain⟨⟨hbe,hbl⟩,hf,-,-⟩:=hL;have f0:xs 0=_:=hf 0 (by decide);have f1:xs 1=_:=hf 1 (by decide);have f2:xs 2=_:=hf 2 (by decide);have f3:xs 3=_:=hf 3 (by decide);have f4:xs 4=_:=hf 4 (by decide);have f5:xs 5=_:=hf 5 (by decide);have f6:xs 6=(.tuple #[iv ((sj.sc pp.1.nm).getD 0),.bool (sj.sc pp.1.nm).isSome]):=hf 6 (by decide);have f7:xs 7=_:=hf 7 (by decide);have f8:xs 8=_:=hf 8 (by decide);have f9:xs 9=_:=hf 9 (by decide);have f10:xs 10=_:=hf 10 (by decide);have f11:xs 11=_:=hf 11 (by decide)
   (try simp (disch:=decide) only [R7.mi] at f0 f1 f2 f3 f4 f5 f7 f8 f9 f10 f11)
   have hb:Below w2.heap.size w2 w3:=R7.b0_ hbe;clear hbe hbl hf;refine R7.rest_done ?_;simp only[R7.fill,t5_,t6_,t7_,f0,f1,f2,f3,f4,f5,f6,f7,f8,f9,f10,f11];clear hlt_g hlt_p f0 f1 f2 f3 f4 f5 f6 f7 f8 f9 f10 f11;replace HBg:=kB hb HBg;replace HBe:=kB hb HBe;replace HBp:=kB hb HBp;replace HC:=h_ (HC.out.below hb);replace HF:=fb_ HF hb;clear hb;obtain⟨c0,c1,c2,c3,c4,c5,c6,c7,c8,c9,c10,c11,c12⟩:=cl13 HBp.out;go_wp2_with fail
   refine (require_p HC.out (sj.sc pp.1.nm).isNone pp.1.ln pp.1.cl 3).mono ?_;rintro e w4 ⟨rfl,⟨ev,hC⟩,hF⟩;clear c0 c1 c2 c3 c4 c5 c6 c7 c8 c9 c10 c11 c12;replace HBe:=kF hF HBe;replace HBp:=kF hF HBp;replace HF:=h_ (HF.out.trans hF);replace HC:=h_ hC;replace HBg:=h_ hC.blk;clear hC hF;obtain⟨sA,hsA⟩:∃ q:Ks,q=⟨sj.sc,req sj.er (sj.sc pp.1.nm).isNone pp.1.ln pp.1.cl 3⟩:=⟨_,rfl⟩
   rw[<-hsA] at HC;have HSA:=h_ hsA;have HDA:Hid (Dom sA.sc j):=h_ (by rw[hsA];exact HDJ.out);clear hsA;obtain⟨c0,c1,c2,c3,c4,c5,c6,c7,c8,c9,c10,c11,c12⟩:=cl13 HBp.out;go_wp2_with fail
   have hks:=known_s HC.out pp.1 pp.2 S HUP.out (HPB.out _ HPM.out).2.2.2.2 F (HKB.out true pp.1.ref (HPB.out _ HPM.out).2.2.2.2 (HW.out.1 _ HPM.out).1) j HDA.out (by have:=(HW.out.1 _ HPM.out).2;have:=HQL.out;omega) HA.out;unfold pmV at hks;have HKS:=h_ hks;clear hks;refine (HKS.out).mono ?_;rintro e w5 ⟨rfl,⟨ev,hC⟩,hF⟩;clear c0 c1 c2 c3 c4 c5 c6 c7 c8 c9 c10 c11 c12;replace HBe:=kF hF HBe;replace HBp:=kF hF HBp;replace HF:=h_ (HF.out.trans hF);replace HC:=h_ hC;replace HBg:=h_ hC.blk;clear hC hF;obtain⟨sB,hsB⟩:∃ q,q=kKnown F pp.1 sA:=⟨_,rfl⟩
   rw[<-hsB] at HC;have HSB:=h_ hsB;clear hsB;have HDB:Hid (Dom sB.sc j):=h_ (by rw[HSB.out,known_sc];exact HDA.out);go_upto_region 8 with fail
   have hlt_g:=lt_of_block HBg.out;have hlt_p:=lt_of_block HBp.out;refine R7.r0 [[],[0],[0,1],[0,1,2],[],[4],[],[6],[0,1,2,3,4,5,6,7]] 8 ?_;refine R7.cd ?_ (fun T xs wr hA=>?_) ?_
   rotate_left
   ·have e0:=hA.pq 0;simp only[gsa,gsz] at e0;clear hA;go_simp<;>(try with_reducible rfl)
   refine R7.cd ?_ (fun T xs wr hA=>?_) ?_
   rotate_left
   ·have e40:=tr_ (hA.tq 0 40) (hA.fq 0)
    (try simp (disch:=decide) only [R7.mi] at e40)
    clear hA;go_simp<;>(try with_reducible rfl)
   refine R7.cd ?_ (fun T xs wr hA=>?_) ?_
   rotate_left
   ·have e41:=tr_ (hA.tq 1 41) (hA.fq 1)
    (try simp (disch:=decide) only [R7.mi] at e41)
    clear hA;go_simp<;>(try with_reducible rfl)
   refine R7.cd ?_ (fun T xs wr hA=>?_) ?_
   rotate_left
   ·have e42:=tr_ (hA.tq 2 42) (hA.fq 2)
    (try simp (disch:=decide) only [R7.mi] at e42)
    have hBq:wr.heap[kg]?=_:=(hA.bl _ hlt_g (fun q h=>absurd h (Nat.not_lt_zero _))).trans HBg.out;obtain⟨q0,q1,q2,q3⟩:=cl4 hBq;clear hBq;clear hA;go_simp<;>(try with_reducible rfl)
   refine R7.cd ?_ (fun T xs wr hA=>?_) ?_
   rotate_left
   ·have e5:=hA.pq 5;simp only[gsa,gsc,gsz] at e5;clear hA;go_simp<;>(try with_reducible rfl)
   refine R7.cd ?_ (fun T xs wr hA=>?_) ?_
   rotate_left
   ·have e44:=tr_ (hA.tq 4 44) (hA.fq 4)
    (try simp (disch:=decide) only [R7.mi] at e44)
    have hBq:wr.heap[kp]?=_:=(hA.bl _ hlt_p (fun q h=>absurd h (Nat.not_lt_zero _))).trans HBp.out;obtain⟨q0,q1,q2,q3,q4,q5,q6,q7,q8,q9,q10,q11,q12⟩:=cl13 hBq;clear hBq;clear hA;go_simp<;>(try with_reducible rfl)
   refine R7.cd ?_ (fun T xs wr hA=>?_) ?_
   rotate_left
   ·have e5:=hA.pq 5;simp only[gsa,gsc,gsz] at e5;clear hA;go_simp<;>(try with_reducible rfl)
   refine R7.cd ?_ (fun T xs wr hA=>?_) ?_
   rotate_left
   ·have e46:=tr_ (hA.tq 6 46) (hA.fq 6)
    (try simp (disch:=decide) only [R7.mi] at e46)
    have hBq:wr.heap[kp]?=_:=(hA.bl _ hlt_p (fun q h=>absurd h (Nat.not_lt_zero _))).trans HBp.out;obtain⟨q0,q1,q2,q3,q4,q5,q6,q7,q8,q9,q10,q11,q12⟩:=cl13 hBq;clear hBq;clear hA;go_simp<;>(try with_reducible rfl)
   refine R7.Chain.done (fun xs w6 hL=>?_);obtain⟨⟨hbe,hbl⟩,hf,-,-⟩:=hL;have f0:xs 0=_:=hf 0 (by decide);have f1:xs 1=_:=hf 1 (by decide);have f2:xs 2=_:=hf 2 (by decide);have f3:xs 3=_:=hf 3 (by decide);have f4:xs 4=_:=hf 4 (by decide);have f5:xs 5=_:=hf 5 (by decide);have f6:xs 6=_:=hf 6 (by decide);have f7:xs 7=_:=hf 7 (by decide)
   (try simp (disch:=decide) only [R7.mi] at f0 f1 f2 f3 f4 f5 f6 f7)
   have hb:Below w5.heap.size w5 w6:=R7.b0_ hbe;clear hbe hbl hf;refine R7.rest_list (by decide) (by kernel_rfl) ?_;simp only[R7.fill,t1_,t2_,t3_,t4_,t5_,t6_,t7_,f0,f1,f2,f3,f4,f5,f6,f7];clear hlt_g hlt_p f0 f1 f2 f3 f4 f5 f6 f7;replace HBg:=kB hb HBg;replace HBe:=kB hb HBe;replace HBp:=kB hb HBp;replace HC:=h_ (HC.out.below hb);replace HF:=fb_ HF hb;clear hb;go_wp2_with (first | (at_mapUpdate;refine wp_update _ rfl _ _ _ 85 rfl 9 39 Tryz.underlying9 Tryz.underlying85 bs (scV sB.sc) rfl HC.out.sm (domV HDB.out) (Nat.lt_of_le_of_lt (by have:=HQL.out;omega) big_ok) pp.1.nm rfl HNM.out (iv pp.1.b) rfl ?_;intro wz hmz hgz) | fail)
   rw[<-scV_put] at hmz;replace HBg:=kG hgz HBg HGS.out;replace HBe:=kG hgz HBe;replace HBp:=kG hgz HBp;replace HF:=h_ (HF.out.trans (Fc.of_b hgz kg));replace HC:=h_ (HC.out.turn hgz hmz);clear hgz hmz;have hnx:=HNX.out;have e:kFPar F sj pp.1=⟨sB.sc.put pp.1.nm pp.1.b,sB.er⟩:=by unfold kFPar;simp only[<-HSA.out,<-HSB.out]
   have hdn:=kfpar_dom F sj pp.1 HDJ.out;rw[e] at hnx hdn;have HNX2:=h_ hnx;have HDN:=h_ hdn;clear hnx hdn e;go_roundw
   case rel=>exact⟨j+1,ev,⟨sB.sc.put pp.1.nm pp.1.b,sB.er⟩,by go_num,hi,HNX2,HDN,HC,HBe,HF⟩
   case measure=>simp[intOf];omega
  have hjj:j=qs.length:=by omega
  subst hjj;have hsj:=HSJ.out;rw[List.take_of_length_le (by rw[List.length_map];exact Nat.le_refl _),HQS.out] at hsj;have HSJ2:=h_ hsj;clear hsj hi HSJ;have c2:=cell_at (v:=.string ⟨f.res.nm.toArray⟩) HBe.out 2 rfl;have c3:=cell_at (v:=.int .i64 (f.res.b:Nat)) HBe.out 3 rfl;have c4:=cell_at (v:=.bool f.res.kn) HBe.out 4 rfl;have c5:=cell_at (v:=.int .i64 x.k) HBe.out 5 rfl;have c6:=cell_at (v:=.string x.nm) HBe.out 6 rfl;have c7:=cell_at (v:=.string x.ot) HBe.out 7 rfl;have c8:=cell_at (v:=.bool x.b) HBe.out 8 rfl;have c9:=cell_at (v:=.slice x.ao x.n x.c) HBe.out 9 rfl;have c10:=cell_at (v:=.slice x.ko x.kn x.kc) HBe.out 10 rfl;have c11:=cell_at (v:=.int .i64 x.ln) HBe.out 11 rfl;have c12:=cell_at (v:=.int .i64 x.cl) HBe.out 12 rfl;have c13:=cell_at (v:=.int .i64 (f.res.ln:Nat)) HBe.out 13 rfl
  have c14:=cell_at (v:=.int .i64 (f.res.cl:Nat)) HBe.out 14 rfl;have hks:=known_s HC.out f.res x S HU.out HRB.out.2.2.2.2 F (HKB.out true f.res.ref HRB.out.2.2.2.2 HW.out.2.1.1) qs.length HDJ.out (by have:=HW.out.2.1.2;have:=HQL.out;omega) HA.out;unfold pmV at hks;have HKS:=h_ hks;clear hks;go_wp2_with fail
  refine (HKS.out).mono ?_;rintro e w2 ⟨rfl,⟨ev,hC⟩,hF⟩;clear c2 c3 c4 c5 c6 c7 c8 c9 c10 c11 c12 c13 c14;replace HBe:=kF hF HBe;replace HF:=h_ (HF.out.trans hF);replace HC:=h_ hC;replace HBg:=h_ hC.blk;clear hC hF;obtain⟨sC,hsC⟩:∃ q,q=kKnown F f.res sj:=⟨_,rfl⟩
  rw[<-hsC] at HC;have HSC:=h_ hsC;have HDC:Hid (Dom sC.sc qs.length):=h_ (by rw[hsC,known_sc];exact HDJ.out);clear hsC;obtain⟨b0,hbb⟩:∃ x,x=(kEx F false f.body sC).1:=⟨_,rfl⟩
  obtain⟨s0,hss⟩:∃ x,x=(kEx F false f.body sC).2:=⟨_,rfl⟩
  have HBB0:=h_ hbb;have HSS0:=h_ hss;clear hbb hss
  have hl:y.ln=(f.body.ln:Nat)/\y.cl=(f.body.cl:Nat):=by
   have hv:=HV.out;obtain⟨fnm,fps,fres,⟨k,nm,ot,z,ln,cl,ks⟩,fln,fcl⟩:=f;rw[Um] at hv;obtain⟨⟨e1,e2,e3,e4,e5,e6⟩,_⟩:=hv;exact⟨e5,e6⟩
  have HLC:=h_ hl;clear hl;go_upto_region 11 with fail
  obtain⟨wA,hwA⟩:∃ q,q=w2.drew:=⟨_,rfl⟩
  have hbA:Below w2.heap.size w2 wA:=by rw[hwA];exact (Below.refl _ _).drew
  have HWA:=h_ hwA;clear hwA;replace HBg:=kB hbA HBg;replace HBe:=kB hbA HBe;replace HC:=h_ (HC.out.below hbA);replace HF:=fb_ HF hbA;clear hbA;obtain⟨val,hval⟩:∃ v:Nat->Value,v=fun j=>match j with | 0=>.pointer (some ⟨kg,0,none⟩) | 1=>.pointer (some ⟨ke,15,none⟩) | 2=>.agg #[.int .i64 y.k,.string y.nm,.string y.ot,.bool y.b,.slice y.ao y.n y.c,.slice y.ko y.kn y.kc,.int .i64 y.ln,.int .i64 y.cl] | 3=>.pointer (some ⟨kg,0,none⟩) | 4=>.pointer (some ⟨ke,15,none⟩) | 5=>.agg #[.int .i64 y.k,.string y.nm,.string y.ot,.bool y.b,.slice y.ao y.n y.c,.slice y.ko y.kn y.kc,.int .i64 y.ln,.int .i64 y.cl] | 6=>.int .i64 ((b0:Nat):Int) | 7=>.pointer (some ⟨ke,2,none⟩) | 8=>.pointer (some ⟨ke,3,none⟩) | 9=>.int .i64 ((f.res.b:Nat):Int) | 10=>.bool (((b0:Nat):Int)==((f.res.b:Nat):Int)) | _=>undef:=⟨_,rfl⟩
  have f0:val 0=.pointer (some ⟨kg,0,none⟩):=congrFun hval 0;have f1:val 1=.pointer (some ⟨ke,15,none⟩):=congrFun hval 1;have f2:val 2=.agg #[.int .i64 y.k,.string y.nm,.string y.ot,.bool y.b,.slice y.ao y.n y.c,.slice y.ko y.kn y.kc,.int .i64 y.ln,.int .i64 y.cl]:=congrFun hval 2;have f3:val 3=.pointer (some ⟨kg,0,none⟩):=congrFun hval 3;have f4:val 4=.pointer (some ⟨ke,15,none⟩):=congrFun hval 4;have f5:val 5=.agg #[.int .i64 y.k,.string y.nm,.string y.ot,.bool y.b,.slice y.ao y.n y.c,.slice y.ko y.kn y.kc,.int .i64 y.ln,.int .i64 y.cl]:=congrFun hval 5;have f6:val 6=.int .i64 ((b0:Nat):Int):=congrFun hval 6;have f7:val 7=.pointer (some ⟨ke,2,none⟩):=congrFun hval 7;have f8:val 8=.pointer (some ⟨ke,3,none⟩):=congrFun hval 8;have f9:val 9=.int .i64 ((f.res.b:Nat):Int):=congrFun hval 9
  have f10:val 10=.bool (((b0:Nat):Int)==((f.res.b:Nat):Int)):=congrFun hval 10;clear hval;obtain⟨Wd,hWd⟩:∃ f:Nat->World->Prop,f=fun s wc=>(s=0/\wc=wA)\/(s=1/\((∃ ev,Ck w0 wc kg bf bs Gv s0 false ev)/\Fc wA wc kg bs)):=⟨_,rfl⟩
  have HWa0:Hid (∀ wc,wc=wA->Wd 0 wc):=h_ (by rw[hWd];intro wc h;exact .inl ⟨rfl,h⟩);have HWb0:Hid (∀ wc,Wd 0 wc->wc=wA):=h_ (by rw[hWd];intro wc h;rcases h with ⟨_,h⟩ | ⟨e,_⟩<;>first | exact h | cases e);have HWa1:Hid (∀ wc,((∃ ev,Ck w0 wc kg bf bs Gv s0 false ev)/\Fc wA wc kg bs)->Wd 1 wc):=h_ (by rw[hWd];intro wc h;exact .inr (⟨rfl,h⟩));have HWb1:Hid (∀ wc,Wd 1 wc->((∃ ev,Ck w0 wc kg bf bs Gv s0 false ev)/\Fc wA wc kg bs)):=h_ (by rw[hWd];intro wc h;rcases h with ⟨e,_⟩ | ⟨_,h⟩<;>first | exact h | cases e)
  have HBLe:Hid (∀ s wc,Wd s wc->wc.heap[ke]?=some (.cells (fnC f v x y).toArray 50 (0,0))):=h_ (by
   rw[hWd];intro s wc h;rcases h with ⟨_,h⟩ | ⟨_,h⟩
   ·subst h;exact HBe.out
   exact (kF h.2 HBe (by omega) (by omega)).out)
  clear hWd;refine Rel11.region (by kernel_rfl) [[],[],[1],[],[],[4],[3,4,5],[],[7],[7,8],[3,4,5,6,7,8,9],[0,1,2,3,4,5,6,7,8,9,10]] 11 (by kernel_rfl) (by kernel_rfl) [6] (by kernel_rfl) val Wd (HWa0.out _ HWA.out.symm) ?_ ?_ ?_
  ·intro j o ho hj hcs
   match j,hj,ho,hcs with
   | 0,_,ho,_ =>
    simp only[gsz,gsc,Option.some.injEq] at ho;subst ho;refine⟨rfl,fun s wc T hW hT K hK=>?_⟩;have e0:=hT.pre 0 (by kernel_rfl);simp only[gsa,gsz] at e0;clear hT hW;refine wp_val (w':=wc) (v:=.pointer (some ⟨kg,0,none⟩)) ?_ (by rw[<-f0];exact hK.out);clear hK;go_simp<;>(try with_reducible rfl)
   | 1,_,ho,_ =>
    simp only[gsz,gsc,Option.some.injEq] at ho;subst ho;refine⟨rfl,fun s wc T hW hT K hK=>?_⟩;have e3:=hT.pre 3 (by kernel_rfl);simp only[gsa,gsc,gsz] at e3;clear hT hW;refine wp_val (w':=wc) (v:=.pointer (some ⟨ke,15,none⟩)) ?_ (by rw[<-f1];exact hK.out);clear hK;go_simp<;>(try with_reducible rfl)
   | 2,_,ho,_ =>
    simp only[gsz,gsc,Option.some.injEq] at ho;subst ho;refine⟨rfl,fun s wc T hW hT K hK=>?_⟩;have e54:=hT.tm 1 54 (by rfl) (by rfl);rw[f1] at e54;have hBq:=HBLe.out s wc hW;have q3:=cell_at (v:=.int .i64 (f.res.b:Nat)) hBq 3 rfl;have q15:=cell_at (v:=.int .i64 y.k) hBq 15 rfl;have q16:=cell_at (v:=.string y.nm) hBq 16 rfl;have q17:=cell_at (v:=.string y.ot) hBq 17 rfl;have q18:=cell_at (v:=.bool y.b) hBq 18 rfl;have q19:=cell_at (v:=.slice y.ao y.n y.c) hBq 19 rfl;have q20:=cell_at (v:=.slice y.ko y.kn y.kc) hBq 20 rfl;have q21:=cell_at (v:=.int .i64 y.ln) hBq 21 rfl;have q22:=cell_at (v:=.int .i64 y.cl) hBq 22 rfl;clear hBq;clear hT hW;refine wp_val (w':=wc) (v:=.agg #[.int .i64 y.k,.string y.nm,.string y.ot,.bool y.b,.slice y.ao y.n y.c,.slice y.ko y.kn y.kc,.int .i64 y.ln,.int .i64 y.cl]) ?_ (by rw[<-f2];exact hK.out)
    clear hK;go_simp<;>(try with_reducible rfl)
   | 3,_,ho,_ =>
    simp only[gsz,gsc,Option.some.injEq] at ho;subst ho;refine⟨rfl,fun s wc T hW hT K hK=>?_⟩;have e0:=hT.pre 0 (by kernel_rfl);simp only[gsa,gsz] at e0;clear hT hW;refine wp_val (w':=wc) (v:=.pointer (some ⟨kg,0,none⟩)) ?_ (by rw[<-f3];exact hK.out);clear hK;go_simp<;>(try with_reducible rfl)
   | 4,_,ho,_ =>
    simp only[gsz,gsc,Option.some.injEq] at ho;subst ho;refine⟨rfl,fun s wc T hW hT K hK=>?_⟩;have e3:=hT.pre 3 (by kernel_rfl);simp only[gsa,gsc,gsz] at e3;clear hT hW;refine wp_val (w':=wc) (v:=.pointer (some ⟨ke,15,none⟩)) ?_ (by rw[<-f4];exact hK.out);clear hK;go_simp<;>(try with_reducible rfl)
   | 5,_,ho,_ =>
    simp only[gsz,gsc,Option.some.injEq] at ho;subst ho;refine⟨rfl,fun s wc T hW hT K hK=>?_⟩;have e57:=hT.tm 4 57 (by rfl) (by rfl);rw[f4] at e57;have hBq:=HBLe.out s wc hW;have q3:=cell_at (v:=.int .i64 (f.res.b:Nat)) hBq 3 rfl;have q15:=cell_at (v:=.int .i64 y.k) hBq 15 rfl;have q16:=cell_at (v:=.string y.nm) hBq 16 rfl;have q17:=cell_at (v:=.string y.ot) hBq 17 rfl;have q18:=cell_at (v:=.bool y.b) hBq 18 rfl;have q19:=cell_at (v:=.slice y.ao y.n y.c) hBq 19 rfl;have q20:=cell_at (v:=.slice y.ko y.kn y.kc) hBq 20 rfl;have q21:=cell_at (v:=.int .i64 y.ln) hBq 21 rfl;have q22:=cell_at (v:=.int .i64 y.cl) hBq 22 rfl;clear hBq;clear hT hW;refine wp_val (w':=wc) (v:=.agg #[.int .i64 y.k,.string y.nm,.string y.ot,.bool y.b,.slice y.ao y.n y.c,.slice y.ko y.kn y.kc,.int .i64 y.ln,.int .i64 y.cl]) ?_ (by rw[<-f5];exact hK.out)
    clear hK;go_simp<;>(try with_reducible rfl)
   | 6,_,_,hcs=>exact absurd hcs (by decide)
   | 7,_,ho,_ =>
    simp only[gsz,gsc,Option.some.injEq] at ho;subst ho;refine⟨rfl,fun s wc T hW hT K hK=>?_⟩;have e3:=hT.pre 3 (by kernel_rfl);simp only[gsa,gsc,gsz] at e3;clear hT hW;refine wp_val (w':=wc) (v:=.pointer (some ⟨ke,2,none⟩)) ?_ (by rw[<-f7];exact hK.out);clear hK;go_simp<;>(try with_reducible rfl)
   | 8,_,ho,_ =>
    simp only[gsz,gsc,Option.some.injEq] at ho;subst ho;refine⟨rfl,fun s wc T hW hT K hK=>?_⟩;have e60:=hT.tm 7 60 (by rfl) (by rfl);rw[f7] at e60;clear hT hW;refine wp_val (w':=wc) (v:=.pointer (some ⟨ke,3,none⟩)) ?_ (by rw[<-f8];exact hK.out);clear hK;go_simp<;>(try with_reducible rfl)
   | 9,_,ho,_ =>
    simp only[gsz,gsc,Option.some.injEq] at ho;subst ho;refine⟨rfl,fun s wc T hW hT K hK=>?_⟩;have e61:=hT.tm 8 61 (by rfl) (by rfl);rw[f8] at e61;have hBq:=HBLe.out s wc hW;have q3:=cell_at (v:=.int .i64 (f.res.b:Nat)) hBq 3 rfl;have q15:=cell_at (v:=.int .i64 y.k) hBq 15 rfl;have q16:=cell_at (v:=.string y.nm) hBq 16 rfl;have q17:=cell_at (v:=.string y.ot) hBq 17 rfl;have q18:=cell_at (v:=.bool y.b) hBq 18 rfl;have q19:=cell_at (v:=.slice y.ao y.n y.c) hBq 19 rfl;have q20:=cell_at (v:=.slice y.ko y.kn y.kc) hBq 20 rfl;have q21:=cell_at (v:=.int .i64 y.ln) hBq 21 rfl;have q22:=cell_at (v:=.int .i64 y.cl) hBq 22 rfl;clear hBq;clear hT hW;refine wp_val (w':=wc) (v:=.int .i64 ((f.res.b:Nat):Int)) ?_ (by rw[<-f9];exact hK.out);clear hK;go_simp<;>(try with_reducible rfl)
   | 10,_,ho,_ =>
    simp only[gsz,gsc,Option.some.injEq] at ho;subst ho;refine⟨rfl,fun s wc T hW hT K hK=>?_⟩;have e59:=hT.tm 6 59 (by rfl) (by rfl);rw[f6] at e59;have e62:=hT.tm 9 62 (by rfl) (by rfl);rw[f9] at e62;clear hT hW;refine wp_val (w':=wc) (v:=.bool (((b0:Nat):Int)==((f.res.b:Nat):Int))) ?_ (by rw[<-f10];exact hK.out);clear hK;go_simp<;>(try with_reducible rfl)
   | j+11,hj,_,_=>exact absurd hj (by omega)
  ·intro i j o hi ho
   match i,hi with
   | 0,hi =>
    simp only[gsz,gsc,Option.some.injEq] at hi;subst hi;simp only[gsz,gsc,Option.some.injEq] at ho;subst ho;refine⟨rfl,fun wc T hW hT K hK=>?_⟩;have e56:=hT.tm 3 56 (by rfl) (by rfl);rw[f3] at e56;have e58:=hT.tm 5 58 (by rfl) (by rfl);rw[f5] at e58;have hWc:=HWb0.out wc hW;clear hW hT;have hK2:=hK.out;rw[f6] at hK2;replace hK:=h_ hK2;clear hK2;subst hWc;have hcs:=complete_s HC.out y f.body S HV.out HBB.out F (HKB.out false f.body HBB.out HW.out.2.2.1) qs.length HDC.out (by have:=HW.out.2.2.2;have:=HQL.out;omega) HA.out;rw[<-HBB0.out,<-HSS0.out] at hcs;simp only[xv,iv] at hcs;go_simp
    refine hcs.mono ?_;rintro e w' ⟨rfl,hp⟩;exact hK.out _ (HWa1.out _ hp)
   | i+1,hi=>simp at hi
  intro wx hWx;have hWy:=HWb1.out wx hWx;clear hWx HWa0 HWb0 HWa1 HWb1 HBLe;simp only[R7.fill,t1_,t2_,t3_,t4_,t5_,t6_,t7_,f0,f1,f2,f3,f4,f5,f6,f7,f8,f9,f10];clear f0 f1 f2 f3 f4 f5 f6 f7 f8 f9 f10;obtain⟨⟨ev2,hC⟩,hF⟩:=hWy;replace HC:=h_ hC;replace HBg:=h_ hC.blk;replace HBe:=kF hF HBe;replace HF:=h_ (HF.out.trans hF);clear hC hF
  try clear ev
  obtain⟨ev,hev⟩:∃ x,x=ev2:=⟨_,rfl⟩
  rw[<-hev] at HC HBg;clear hev
  try clear ev2
  go_wp2_with fail
  refine (need_p HC.out y f.body.ln f.body.cl HLC.out.1 HLC.out.2 (((b0:Nat):Int)==((f.res.b:Nat):Int)) 4).mono ?_;rintro e w3 ⟨rfl,⟨ev,hC⟩,hF⟩;replace HBe:=kF hF HBe;replace HF:=h_ (HF.out.trans hF);replace HC:=h_ hC;replace HBg:=h_ hC.blk;clear hC hF;rw[nbeq] at HC;go_wp2_with fail
  have e:kFun F f s.er=s0.need f.body.ln f.body.cl (b0==f.res.b) 4:=by
   unfold kFun;simp only;rw[<-HFP.out,HSJ2.out,<-HSC.out,<-HBB0.out,<-HSS0.out]
  rw[e];exact bodyPost_end (results_none Tryz.results57 _ _ _) rfl ⟨rfl,⟨ev,HC.out⟩,HF.out⟩
theorem qual_s {w0 w:World} {kg bf bs:Nat} {Gv:Bs->Option Value} {s:Ks} {ev:Value} (h:Ck w0 w kg bf bs Gv s false ev) (q:QlU) (v:Value) (x:X) (S:Nat->Prop) (hp:PmsAt w0 S v q.ps) (hu:Um w0 S x q.body) (hb:QlB q) (F:Fs) (hK:AllOk F Gv w0) (hl:q.ps.length<=100000) (hw:uw q.body<=1000000/\ud q.body<=100000000000) (hA:ArT w0) :
  Calls Tryz.prog 55 #[.pointer (some ⟨kg,0,none⟩),.agg (qlC q v x).toArray] w fun e w'=>e=.returned (.tuple #[])/\CkP w0 w kg bf bs Gv (kQual F q s.er) false w':=by
 have HPS:=h_ hp;have HU:=h_ hu;have HPB:=h_ hb.2.1;have HBB:=h_ hb.2.2.1;have HKB:=h_ hK;have HPL:=h_ hl;have HW:=h_ hw;have HA:=h_ hA;obtain⟨ps,hps⟩:∃ z,z=q.ps:=⟨_,rfl⟩
 rw[<-hps] at HPS HPB HPL;have HFP:=h_ hps;clear hp hu hb hK hl hw hA hps;have HC:=h_ h;have HBg:=h_ h.blk;have HF:Hid (Fc w w kg bs):=h_ (Fc.refl _ _ _);clear h;have hgs:kg≠bs:=HC.out.gs;have HGS:=h_ hgs;clear hgs;obtain⟨A,hA⟩:∃ z,z=qlC q v x:=⟨_,rfl⟩
 rw[<-hA];have HAA:=h_ hA;clear hA;go_enter Tryz.func55,Tryz.ntmps55
 go_upto_region 1 with fail
 obtain⟨w1,ke,hw,hkk,hb,hs1,HBe⟩:=newb w A.toArray 69;have hge:=lk_ hkk HBg;have hse:bs<ke:=by rw[hkk];exact HC.out.sm.lt
 have hee:w.heap.size<=ke:=by rw[hkk];exact HF.out.size
 rw[hw,<-hkk];replace HBg:=kB hb HBg;replace HC:=h_ (HC.out.below hb);replace HF:=fb_ HF hb;clear hw hb hkk hs1;rw[HAA.out] at HBe;obtain⟨g0,g1,g2,g3⟩:=cl4 HBg.out;go_upto_region 2 with (first | (refine wp_clear _ rfl _ 85 rfl 9 39 Tryz.underlying85 bs (scV s.sc) rfl HC.out.sm ?_;intro wz hmz hgz) | fail)
 have hmz2:MapIs Tryz.prog 9 wz bs (scV sc0):=hmz;clear hmz;clear g0 g1 g2 g3;replace HBg:=kG hgz HBg HGS.out;replace HBe:=kG hgz HBe;replace HF:=h_ (HF.out.trans (Fc.of_b hgz kg));replace HC:=h_ (HC.out.turn hgz hmz2);clear hgz hmz2;have hst:Dom sc0 0:=Dom.nil;have HD0:=h_ hst;clear hst;obtain⟨qs,hqs,hat⟩:=HPS.out;obtain⟨ko,kc,hv,⟨hk1,hk2⟩,-,hel⟩:=hat;have HQS:=h_ hqs;have HEL:=h_ hel;have HVV:=h_ hv;have hkl:qs.length<=9223372036854775807:=Nat.le_trans hk1 hk2;have HQL:Hid (qs.length<=100000):=h_ (by have:=HPL.out;rw[<-HQS.out,List.length_map] at this;exact this);clear hqs hel hk1 hk2;have q1:=cell_at (v:=v) HBe.out 1 rfl;rw[HVV.out] at q1;clear hv;go_wp2_with fail
 clear q1
 go_loopw [13] (fun i wr=>∃ (j:Nat) (ev:Value) (sj:Ks),i=.int .i64 (j:Nat)/\j<=qs.length/\Hid (((qs.map Prod.fst).take j).foldl (kQPar) ⟨sc0,s.er⟩=sj)/\Hid (Dom sj.sc j)/\Hid (Ck w0 wr kg bf bs Gv sj false ev)/\Hid (wr.heap[ke]?=some (.cells (qlC q v x).toArray 69 (0,0)))/\Hid (Fc w wr kg bs)) (fun i _=>qs.length - (intOf i).toNat)
 case atStart=>exact⟨0,ev,⟨sc0,s.er⟩,rfl,Nat.zero_le _,h_ rfl,HD0,HC,HBe,HF⟩
 case round =>
  obtain⟨wl,hwl⟩:∃ q,q=wr:=⟨_,rfl⟩
  subst hwl;clear HC HBe HF HBg HD0
  try clear ev
  obtain⟨j,ev,sj,rfl,hj,HSJ,HDJ,HC,HBe,HF⟩:=hrel;have HBg:=h_ HC.out.blk
  by_cases hi:j<qs.length
  ·obtain⟨⟨a,rfl,hc⟩,hUm⟩:=HEL.out j hi;have hbw0:=HC.out.bw;obtain⟨z0,z1,z2,z3,z4,z5,z6,z7,z8,z9,z10,z11,z12⟩:=cells13 (w:=wl) (p:=a.add (j*13)) (q:=qs[j].1) (x:=qs[j].2) (fun q v hv=>by have:=hc q v hv;rw[show (a.add (j*13)).add q=(a.add (j*pmE.n)).add q from rfl,hbw0.cell (cell_lt this)];exact this);have hUm2:Um w0 S qs[j].2 qs[j].1.ref:=hUm;obtain⟨hjp,hpj⟩:=map_fst_get HQS.out hi;have hpm:qs[j].1 ∈ ps:=by rw[<-hpj];exact List.getElem_mem hjp
   have hnx:((qs.map Prod.fst).take (j+1)).foldl (kQPar) ⟨sc0,s.er⟩=(kQPar) sj qs[j].1:=by rw[foldl_take _ _ j (by rw[List.length_map];exact hi),HSJ.out,List.getElem_map]
   obtain⟨pp,hpp⟩:∃ q,q=qs[j]:=⟨_,rfl⟩
   rw[<-hpp] at z0 z1 z2 z3 z4 z5 z6 z7 z8 z9 z10 z11 z12 hUm2 hpm hnx;have HUP:=h_ hUm2;have HPM:=h_ hpm;have HNX:=h_ hnx;clear hpp hc hbw0 hUm hUm2 hpj hpm hnx hjp;go_upto_region 5 with fail
   have hel2:ke<wl.heap.size:=lt_of_block HBe.out;clear z0 z1 z2 z3 z4 z5 z6 z7 z8 z9 z10 z11 z12;obtain⟨w2,kp,hw,hkk,hb,hs1,HBp⟩:=newb wl #[.string ⟨pp.1.nm.toArray⟩,.int .i64 (pp.1.b:Nat),.bool pp.1.kn,.int .i64 pp.2.k,.string pp.2.nm,.string pp.2.ot,.bool pp.2.b,.slice pp.2.ao pp.2.n pp.2.c,.slice pp.2.ko pp.2.kn pp.2.kc,.int .i64 pp.2.ln,.int .i64 pp.2.cl,.int .i64 (pp.1.ln:Nat),.int .i64 (pp.1.cl:Nat)] 48;have hgp:=lk_ hkk HBg;have hsp:bs<kp:=by rw[hkk];exact HC.out.sm.lt
   have hep:w.heap.size<=kp:=by rw[hkk];exact HF.out.size
   have he_p:=lk_ hkk HBe;rw[hw,<-hkk];replace HBg:=kB hb HBg;replace HBe:=kB hb HBe;replace HC:=h_ (HC.out.below hb);replace HF:=fb_ HF hb;clear hw hb hkk hs1;have HNM:Hid (pp.1.nm.length<=maxLen):=h_ (nm_ok (HPB.out _ HPM.out).1);have hgs:=HGS.out;have hlt_g:=lt_of_block HBg.out;have hlt_p:=lt_of_block HBp.out;have hog:Hid (∀ q,q<1->(fun q=>bs) q<w2.heap.size):=h_ (fun q _=>by show bs<_;exact HC.out.sm.lt);refine R7.region (by kernel_rfl) [[],[],[1],[1,2],[1,2,3],[],[5],[],[7],[1,2,3,4,5,6,7,8],[],[10],[],[12],[0,1,2,3,4,5,6,7,8,9,10,11,12,13]] [] [(9,1000)] (fun q=>bs) 1 14 (by kernel_rfl) (by kernel_rfl) (by rfl) hog.out (fun q q' h h' hn=>absurd hn (by omega)) ?_;refine R7.cd ?_ (fun T xs wr hA=>?_) ?_
   rotate_left
   ·have e0:=hA.pq 0;simp only[gsa,gsz] at e0;clear hA;go_simp<;>(try with_reducible rfl)
   refine R7.cd ?_ (fun T xs wr hA=>?_) ?_
   rotate_left
   ·have e0:=hA.pq 0;simp only[gsa,gsz] at e0;clear hA;go_simp<;>(try with_reducible rfl)
   refine R7.cd ?_ (fun T xs wr hA=>?_) ?_
   rotate_left
   ·have e18:=tr_ (hA.tq 1 18) (hA.fq 1)
    (try simp (disch:=decide) only [R7.mi] at e18)
    clear hA;go_simp<;>(try with_reducible rfl)
   refine R7.cd ?_ (fun T xs wr hA=>?_) ?_
   rotate_left
   ·have e19:=tr_ (hA.tq 2 19) (hA.fq 2)
    (try simp (disch:=decide) only [R7.mi] at e19)
    clear hA;go_simp<;>(try with_reducible rfl)
   refine R7.cd ?_ (fun T xs wr hA=>?_) ?_
   rotate_left
   ·have e20:=tr_ (hA.tq 3 20) (hA.fq 3)
    (try simp (disch:=decide) only [R7.mi] at e20)
    have hBq:wr.heap[kg]?=_:=(hA.bl _ hlt_g (fun q _=>by show bs≠kg;omega)).trans HBg.out;obtain⟨q0,q1,q2,q3⟩:=cl4 hBq;clear hBq;clear hA;go_simp<;>(try with_reducible rfl)
   refine R7.cd ?_ (fun T xs wr hA=>?_) ?_
   rotate_left
   ·have e5:=hA.pq 5;simp only[gsa,gsc,gsz] at e5;clear hA;go_simp<;>(try with_reducible rfl)
   refine R7.cd ?_ (fun T xs wr hA=>?_) ?_
   rotate_left
   ·have e22:=tr_ (hA.tq 5 22) (hA.fq 5)
    (try simp (disch:=decide) only [R7.mi] at e22)
    have hBq:wr.heap[kp]?=_:=(hA.bl _ hlt_p (fun q _=>by show bs≠kp;omega)).trans HBp.out;obtain⟨q0,q1,q2,q3,q4,q5,q6,q7,q8,q9,q10,q11,q12⟩:=cl13 hBq;clear hBq;clear hA;go_simp<;>(try with_reducible rfl)
   refine R7.cd ?_ (fun T xs wr hA=>?_) ?_
   rotate_left
   ·have e5:=hA.pq 5;simp only[gsa,gsc,gsz] at e5;clear hA;go_simp<;>(try with_reducible rfl)
   refine R7.cd ?_ (fun T xs wr hA=>?_) ?_
   rotate_left
   ·have e24:=tr_ (hA.tq 7 24) (hA.fq 7)
    (try simp (disch:=decide) only [R7.mi] at e24)
    have hBq:wr.heap[kp]?=_:=(hA.bl _ hlt_p (fun q _=>by show bs≠kp;omega)).trans HBp.out;obtain⟨q0,q1,q2,q3,q4,q5,q6,q7,q8,q9,q10,q11,q12⟩:=cl13 hBq;clear hBq;clear hA;go_simp<;>(try with_reducible rfl)
   refine R7.Chain.callOld 0 (fun xs v w=>v=.bool (scV sj.sc pp.1.nm).isNone/\MapIs Tryz.prog 9 w bs (addM (scV sj.sc) pp.1.nm (iv pp.1.b))) (fun _ _ _ _ ⟨h1,h2⟩ hb=>⟨h1,h2.keep (hb.block _ h2.lt)⟩) (fun _ _ _ _ q' _ hq hne _=>absurd rfl hne) (by rfl) (by rfl) (by decide) (R7.own_one (by rfl)) (fun T xs wr hA hold=>?_) ?_
   ·have hsw:=(hA.be 0 (Nat.zero_le _) (fun _ _=>Nat.zero_le _)).size;have e21:=tr_ (hA.tq 4 21) (hA.fq 4);have e23:=tr_ (hA.tq 6 23) (hA.fq 6);have e25:=tr_ (hA.tq 8 25) (hA.fq 8)
    (try simp (disch:=decide) only [R7.mi] at e21 e23 e25)
    have HMW:=h_ (HC.out.sm.keep hold);clear hA;refine⟨(by rfl),fun K hK=>?_⟩;go_simp
    refine (addB_p bs (scV sj.sc) pp.1.nm pp.1.b wr HMW.out HNM.out (domV HDJ.out) (Nat.lt_of_le_of_lt (by have:=HQL.out;omega) big_ok)).mono ?_;rintro e w' ⟨rfl,hm,hg⟩;exact hK.out _ _ ⟨rfl,hm⟩ (R7.Priv.of hg)
   refine R7.cd ?_ (fun T xs wr hA=>?_) ?_
   rotate_left
   ·have e5:=hA.pq 5;simp only[gsa,gsc,gsz] at e5;clear hA;go_simp<;>(try with_reducible rfl)
   refine R7.cd ?_ (fun T xs wr hA=>?_) ?_
   rotate_left
   ·have e27:=tr_ (hA.tq 10 27) (hA.fq 10)
    (try simp (disch:=decide) only [R7.mi] at e27)
    have hBq:wr.heap[kp]?=_:=(hA.bl _ hlt_p (fun q _=>by show bs≠kp;omega)).trans HBp.out;obtain⟨q0,q1,q2,q3,q4,q5,q6,q7,q8,q9,q10,q11,q12⟩:=cl13 hBq;clear hBq;clear hA;go_simp<;>(try with_reducible rfl)
   refine R7.cd ?_ (fun T xs wr hA=>?_) ?_
   rotate_left
   ·have e5:=hA.pq 5;simp only[gsa,gsc,gsz] at e5;clear hA;go_simp<;>(try with_reducible rfl)
   refine R7.cd ?_ (fun T xs wr hA=>?_) ?_
   rotate_left
   ·have e29:=tr_ (hA.tq 12 29) (hA.fq 12)
    (try simp (disch:=decide) only [R7.mi] at e29)
    have hBq:wr.heap[kp]?=_:=(hA.bl _ hlt_p (fun q _=>by show bs≠kp;omega)).trans HBp.out;obtain⟨q0,q1,q2,q3,q4,q5,q6,q7,q8,q9,q10,q11,q12⟩:=cl13 hBq;clear hBq;clear hA;go_simp<;>(try with_reducible rfl)
   refine R7.Chain.done (fun xs w3 hL=>?_);obtain⟨⟨hbe,hbl⟩,hf,-,-⟩:=hL;have f0:xs 0=_:=hf 0 (by decide);have f1:xs 1=_:=hf 1 (by decide);have f2:xs 2=_:=hf 2 (by decide);have f3:xs 3=_:=hf 3 (by decide);have f4:xs 4=_:=hf 4 (by decide);have f5:xs 5=_:=hf 5 (by decide);have f6:xs 6=_:=hf 6 (by decide);have f7:xs 7=_:=hf 7 (by decide);have f8:xs 8=_:=hf 8 (by decide);have F9:(xs 9)=.bool (scV sj.sc pp.1.nm).isNone/\MapIs Tryz.prog 9 w3 bs (addM (scV sj.sc) pp.1.nm (iv pp.1.b)):=hf 9 (by decide);have f10:xs 10=_:=hf 10 (by decide);have f11:xs 11=_:=hf 11 (by decide);have f12:xs 12=_:=hf 12 (by decide);have f13:xs 13=_:=hf 13 (by decide)
   (try simp (disch:=decide) only [R7.mi] at f0 f1 f2 f3 f4 f5 f6 f7 f8 f10 f11 f12 f13)
   have hb0:Below 0 w2 w3:=undrew (hbe 0 (Nat.zero_le _) (fun _ _=>Nat.zero_le _));have hgr:∀ j,j<w2.heap.size->(∀ q,q<1->(fun q=>bs) q≠j)->w3.heap[j]?=w2.heap[j]?:=hbl;clear hbe hbl hf;obtain⟨hv,hm⟩:=F9;have hg:w2.grownBy w3 (some bs):=⟨hb0.os,hb0.tape,hb0.output,hb0.size,fun k hk hn=>hgr k hk (fun q _ e=>hn (by rw[<-e]))⟩
   rw[scV_none] at hv;refine R7.rest_list (by decide) (by kernel_rfl) ?_;simp only[R7.fill,t1_,t2_,t3_,t4_,t5_,t6_,t7_,f0,f1,f2,f3,f4,f5,f6,f7,f8,f10,f11,f12,f13];simp only[hv];rw[addM_sc] at hm;clear hog hv hb0 hgr hgs hlt_p hlt_g f0 f1 f2 f3 f4 f5 f6 f7 f8 f10 f11 f12 f13;replace HBg:=kG hg HBg HGS.out;replace HBe:=kG hg HBe;replace HBp:=kG hg HBp;replace HF:=h_ (HF.out.trans (Fc.of_b hg kg));replace HC:=h_ (HC.out.turn hg hm);clear hg hm;go_wp2_with fail
   refine (require_p HC.out (sj.sc pp.1.nm).isNone pp.1.ln pp.1.cl 3).mono ?_;rintro e w4 ⟨rfl,⟨ev,hC⟩,hF⟩;replace HBe:=kF hF HBe;replace HBp:=kF hF HBp;replace HF:=h_ (HF.out.trans hF);replace HC:=h_ hC;replace HBg:=h_ hC.blk;clear hC hF;have hnx:=HNX.out;have hdn:=kqpar_dom sj pp.1 HDJ.out;have e:kQPar sj pp.1=⟨if (sj.sc pp.1.nm).isNone then sj.sc.put pp.1.nm pp.1.b else sj.sc,req sj.er (sj.sc pp.1.nm).isNone pp.1.ln pp.1.cl 3⟩:=rfl;obtain⟨sA,hsA⟩:∃ q,q=kQPar sj pp.1:=⟨_,rfl⟩
   rw[<-hsA] at hnx hdn;have hC2:Ck w0 w4 kg bf bs Gv sA false ev:=by rw[hsA,e];exact HC.out
   have HNX2:=h_ hnx;have HDN:=h_ hdn;replace HC:=h_ hC2;clear hnx hdn e hsA hC2;go_wp2_with fail
   go_roundw
   case rel=>exact⟨j+1,ev,sA,by go_num,hi,HNX2,HDN,HC,HBe,HF⟩
   case measure=>simp[intOf];omega
  have hjj:j=qs.length:=by omega
  subst hjj;have hsj:=HSJ.out;rw[List.take_of_length_le (by rw[List.length_map];exact Nat.le_refl _),HQS.out] at hsj;have HSJ2:=h_ hsj;clear hsj hi HSJ;have c2:=cell_at (v:=.int .i64 x.k) HBe.out 2 rfl;have c3:=cell_at (v:=.string x.nm) HBe.out 3 rfl;have c4:=cell_at (v:=.string x.ot) HBe.out 4 rfl;have c5:=cell_at (v:=.bool x.b) HBe.out 5 rfl;have c6:=cell_at (v:=.slice x.ao x.n x.c) HBe.out 6 rfl;have c7:=cell_at (v:=.slice x.ko x.kn x.kc) HBe.out 7 rfl;have c8:=cell_at (v:=.int .i64 x.ln) HBe.out 8 rfl;have c9:=cell_at (v:=.int .i64 x.cl) HBe.out 9 rfl;have hks:=predicate_s HC.out x q.body S HU.out HBB.out F (HKB.out true q.body HBB.out HW.out.1) qs.length HDJ.out (by have:=HW.out.2;have:=HQL.out;omega) HA.out;simp only[xv] at hks;have HKS:=h_ hks;clear hks;go_wp2_with fail
  refine (HKS.out).mono ?_;rintro e w2 ⟨rfl,⟨ev,hC⟩,hF⟩;clear c2 c3 c4 c5 c6 c7 c8 c9;replace HBe:=kF hF HBe;replace HF:=h_ (HF.out.trans hF);replace HC:=h_ hC;replace HBg:=h_ hC.blk;clear hC hF;go_wp2_with fail
  have e:kQual F q s.er=kPred F q.body sj:=by
   unfold kQual;rw[<-HFP.out,HSJ2.out]
  rw[e];exact bodyPost_end (results_none Tryz.results55 _ _ _) rfl ⟨rfl,⟨ev,HC.out⟩,HF.out⟩
theorem res_cell2 {P:Program} {fn:Func} {T:Array Value} {w:World} {t u:Tmp} {ty:TypeId} (hr:fn.results=#[.cell t ty,.tmp u]) {p:Addr} (hT:T[t]?=some (.pointer (some p))) (cs:List Value) {d:TypeDesc} (hc:∀ j v,cs[j]?=some v->w.cell? (p.add j)=some v)
  (hu:P.underlying ty=some d) (hd:d.isRow=true) (hi:(P.info? ty).map (·.size)=some cs.length):(results fn T).run P w=.ok (.tuple #[.agg cs.toArray,T.getD u undef]) w:=by
 have hl:=run_loadCells_list (P:=P) w p cs hc
 cases hq:P.info? ty with
 | none=>simp[hq] at hi
 | some i =>
  have hs:i.size=cs.length:=by simpa [hq] using hi
  have hagg:(isAgg ty).run P w=.ok true w:=by
   unfold isAgg;rw[Sem.run_bind,run_underlying hu w]
   cases d<;>simp_all
  rw[results_cell_tmp hr];rw[Array.getD_eq_getD_getElem?,hT]
  simp[go_sem,asAddr,loadVar,Sem.run_bind,hagg,sizeOf,typeInfo,hq,hs,Result.andThen]
  simp[loadCells] at hl
  rw[hl]
theorem main_none {fs:List Fd} {n:Nat} (h:∀ i (hi:i<fs.length),i<n->fs[i].q.nm≠wMain) (hn:fs.length<=n):(fs.map Fd.q).any (·.nm==wMain)=false:=by
 rw[List.any_eq_false];intro f hf;obtain⟨d,hd,rfl⟩:=List.mem_map.1 hf;obtain⟨i,hi,rfl⟩:=List.mem_iff_getElem.1 hd
 simpa using h i hi (by omega)
theorem main_some {fs:List Fd} {j:Nat} (hj:j<fs.length) (h:∀ i (hi:i<fs.length),i<j->fs[i].q.nm≠wMain) (hm:fs[j].q.nm=wMain):(fs.map Fd.q).find? (·.nm==wMain)=some fs[j].q:=by
 rw[List.find?_eq_some_iff_append];refine⟨by simpa using hm,(fs.map Fd.q).take j,(fs.map Fd.q).drop (j+1),?_,?_⟩
 ·have h1:j<(fs.map Fd.q).length:=by rw[List.length_map];exact hj
  have h2:=List.take_append_drop j (fs.map Fd.q);rw[List.drop_eq_getElem_cons h1,List.getElem_map] at h2;exact h2.symm
 intro a ha;obtain⟨i,hi,rfl⟩:=List.mem_iff_getElem.1 ha;rw[List.length_take,List.length_map] at hi;rw[List.getElem_take,List.getElem_map]
 simpa using h i (by omega) (by omega)
def MainIs (w:World) (S:Nat->Prop) (p:PgU) (A:List Value):Prop:=A.length=25/\(∀ u ∈ A,u.oneCell'=true)/\match p.fs.find? (·.nm==wMain) with
 | none=>True
 | some f=>∃ v x y,A=fnC f v x y/\Um w S x f.res.ref/\Um w S y f.body/\PmsAt w S v f.ps
theorem has_find (p:PgU):hasMain p=(p.fs.find? (·.nm==wMain)).isSome:=by
 unfold hasMain;rw[Bool.eq_iff_iff,List.any_eq_true,List.find?_isSome]
theorem main_s (w:World) (S:Nat->Prop) (vq vf:Value) (p:PgU) (hp:ProgAt w S vq vf p) :
  Calls Tryz.prog 14 #[.agg #[vq,vf]] w fun e w'=>∃ A,e=.returned (.tuple #[.agg A.toArray,.bool (hasMain p)])/\Below w.heap.size w w'/\MainIs w S p A:=by
 obtain⟨qs,fs,hqs,hfs,-,hat⟩:=hp;obtain⟨ko,kc,hv,⟨hk1,hk2⟩,-,hel⟩:=hat;have HFS:=h_ hfs;have HEL:=h_ hel;subst hv;have hkl:fs.length<=9223372036854775807:=Nat.le_trans hk1 hk2;clear hqs hfs hel hk1 hk2;have HBW0:=h_ (Below.refl w.heap.size w);go_enter Tryz.func14,Tryz.ntmps14
 go_upto_region 1 with fail
 obtain⟨w1,ke,hw,hkk,hb,hs1,HBe⟩:=newb w #[vq,.slice ko fs.length kc] 26;rw[hw,<-hkk,<-hs1];have hke:w.heap.size<=ke:=by rw[hkk];exact Nat.le_refl _
 replace HBW0:=h_ (HBW0.out.trans (hb.mono HBW0.out.size));clear hw hb hkk hs1;obtain⟨w2,kr,hw,hkk,hb,hs1,HBr⟩:=newb w1 #[.string ⟨#[]⟩,.slice none 0 0,.string ⟨#[]⟩,.int .i64 0,.bool false,.int .i64 0,.string ⟨#[]⟩,.string ⟨#[]⟩,.bool false,.slice none 0 0,.slice none 0 0,.int .i64 0,.int .i64 0,.int .i64 0,.int .i64 0,.int .i64 0,.string ⟨#[]⟩,.string ⟨#[]⟩,.bool false,.slice none 0 0,.slice none 0 0,.int .i64 0,.int .i64 0,.int .i64 0,.int .i64 0] 50;have he_r:=lk_ hkk HBe;rw[hw,<-hkk];replace HBe:=kB hb HBe;have hkr:w.heap.size<=kr:=by rw[hkk];exact HBW0.out.size
 replace HBW0:=h_ (HBW0.out.trans (hb.mono HBW0.out.size));clear hw hb hkk hs1;obtain⟨c0,c1⟩:=cl2 HBe.out;go_wp2_with fail
 clear c0 c1
 go_loopw [9] (fun i wr=>∃ (j:Nat),i=.int .i64 (j:Nat)/\j<=fs.length/\Hid (∀ i (hi:i<fs.length),i<j->fs[i].q.nm≠wMain)/\Hid (wr.heap[ke]?=some (.cells #[vq,.slice ko fs.length kc] 26 (0,0)))/\Hid (wr.heap[kr]?=some (.cells #[.string ⟨#[]⟩,.slice none 0 0,.string ⟨#[]⟩,.int .i64 0,.bool false,.int .i64 0,.string ⟨#[]⟩,.string ⟨#[]⟩,.bool false,.slice none 0 0,.slice none 0 0,.int .i64 0,.int .i64 0,.int .i64 0,.int .i64 0,.int .i64 0,.string ⟨#[]⟩,.string ⟨#[]⟩,.bool false,.slice none 0 0,.slice none 0 0,.int .i64 0,.int .i64 0,.int .i64 0,.int .i64 0] 50 (0,0)))/\Hid (Below w.heap.size w wr)) (fun i _=>fs.length - (intOf i).toNat)
 case atStart=>exact⟨0,rfl,Nat.zero_le _,h_ (fun _ _ h=>absurd h (Nat.not_lt_zero _)),HBe,HBr,HBW0⟩
 case round =>
  obtain⟨wl,hwl⟩:∃ q,q=wr:=⟨_,rfl⟩
  subst hwl;clear HBe HBr HBW0;obtain⟨j,rfl,hj,HNO,HBe,HBr,HBW⟩:=hrel
  by_cases hi:j<fs.length
  ·obtain⟨hAt,hRj⟩:=HEL.out j hi;obtain⟨⟨q,v,px,py⟩,hqd⟩:∃ z,z=fs[j]:=⟨_,rfl⟩
   rw[<-hqd] at hAt hRj;obtain⟨hone,hux,huy,hpm⟩:=hRj;have hone2:v.oneCell'=true:=hone;have e25:fnE.f ⟨q,v,px,py⟩=fnC q v px py:=if_pos hone2;have hAt2:AtN 25 w ko j (fnC q v px py):=by rw[<-e25];exact hAt
   obtain⟨B,hB⟩:∃ z,z=fnC q v px py:=⟨_,rfl⟩
   rw[<-hB] at hAt2;obtain⟨a,rfl,hc⟩:=hAt2;have hcb:∀ i u,B[i]?=some u->wl.cell? ((a.add (j*25)).add i)=some u:=fun i u hu=>by have:=hc i u hu;rw[HBW.out.cell (cell_lt this)];exact this
   have HCB:=h_ hcb;have HB1:Hid (B.length=25):=h_ (by rw[hB];rfl);have HB2:Hid (∀ u ∈ B,u.oneCell'=true):=h_ (by rw[hB];exact fnC_one hone2);have HBD:=h_ hB;have HQD:=h_ hqd;have HUX:=h_ (show Um w S px q.res.ref from hux);have HUY:=h_ (show Um w S py q.body from huy);have HPM:=h_ (show PmsAt w S v q.ps from hpm);clear hAt hux huy hpm hone hone2 e25 hc hcb hB hqd;have hwl_e:ke<wl.heap.size:=lt_of_block HBe.out;have hwl_r:kr<wl.heap.size:=lt_of_block HBr.out;go_upto_region 3 with fail
   refine wp_region_lit ?_;refine wpList_plain rfl fun K0 hK0=>?_
   go_simp
   refine hK0 _ _ ?_;clear hK0;refine wpList_plain rfl fun K0 hK0=>?_
   refine wp_load_row 50 (.tmp 11) rfl _ rfl B _ HCB.out Tryz.underlying50 rfl (by rw[HB1.out];kernel_rfl) ?_;refine hK0 _ _ ?_;clear hK0;refine wpList_plain rfl fun K0 hK0=>?_
   go_simp
   refine hK0 _ _ ?_;clear hK0;refine wpList_plain rfl fun K0 hK0=>?_
   refine wp_store_row 50 (.tmp 5) (.tmp 12) rfl wl.heap.size B.toArray rfl rfl 50 _ (heap_alloc_last wl _) (by rw[List.size_toArray,HB1.out];kernel_rfl) (by rw[show B.toArray.size=25 from by rw[List.size_toArray];exact HB1.out];rfl) (by rw[List.all_toArray];exact List.all_eq_true.2 HB2.out) ?_;rw[World.setRow_alloc_new];refine hK0 _ _ ?_;clear hK0;go_upto_region 4 with fail
   obtain⟨w3,kf,hw,hkk,hb,hs1,HBf⟩:=newb wl B.toArray 50;have he_f:=lk_ hkk HBe;have hr_f:=lk_ hkk HBr;rw[hw,<-hkk];replace HBe:=kB hb HBe;replace HBr:=kB hb HBr;replace HBW:=bw_ HBW hb;clear hw hb hkk hs1;have hb0:B.toArray[0]?=some (.string ⟨q.nm.toArray⟩):=by rw[HBD.out];rfl
   have q0:=cell_at (v:=.string ⟨q.nm.toArray⟩) HBf.out 0 hb0;clear hb0
   by_cases hm:q.nm=wMain
   ·have hmb:(q.nm==wMain)=true:=by rw[hm];rfl
    have HM:=h_ hm;clear hm;unfold wMain at hmb;go_upto_region 5 with fail
    refine wp_region_lit ?_;refine wpList_plain rfl fun K0 hK0=>?_
    refine wp_load_row 50 (.tmp 5) rfl ⟨kf,0,none⟩ rfl B _ (fun j v hv=>by rw[add_lit,Nat.zero_add];exact cell_at HBf.out j (by rw[gsa];exact hv)) Tryz.underlying50 rfl (by rw[HB1.out];kernel_rfl) ?_;refine hK0 _ _ ?_;clear hK0;obtain⟨wz,hw⟩:∃ x,x=w3.setRow kr B.toArray:=⟨_,rfl⟩
    refine wpList_plain rfl fun K0 hK0=>?_
    refine wp_store_row 50 (.tmp 2) (.tmp 16) rfl kr B.toArray rfl rfl 50 _ HBr.out (by rw[List.size_toArray,HB1.out];kernel_rfl) (by rw[show B.toArray.size=25 from by rw[List.size_toArray];exact HB1.out];rfl) (by rw[List.all_toArray];exact List.all_eq_true.2 HB2.out) ?_;rw[<-hw];refine hK0 _ _ ?_;clear hK0;have hg:w3.grownBy wz (some kr):=by rw[hw];exact grown_setRow _ _ _
    have hv:wz.heap[kr]?=some (.cells B.toArray 50 (0,0)):=by rw[hw];exact setRow_heap _ _ _ _ _ _ HBr.out
    have HBZ:=h_ hv;have HBX:Hid (Below w.heap.size w wz):=h_ ⟨hg.os.trans HBW.out.os,hg.tape.trans HBW.out.tape,hg.output.trans HBW.out.output,Nat.le_trans HBW.out.size hg.size,fun i hi=>(hg.block i (by have:=HBW.out.size;omega) (fun e=>by injection e with e;omega)).trans (HBW.out.block i hi)⟩;clear hw hg hv q0 hmb;go_wp2_with fail
    have hfd:=main_some hi HNO.out (by rw[<-HQD.out];exact HM.out);rw[HFS.out,<-HQD.out] at hfd;have hhm:hasMain p=true:=by rw[has_find,hfd];rfl
    refine bodyPost_ret (v:=.tuple #[.agg B.toArray,.bool true]) (res_cell2 Tryz.results14 (by rfl) B (fun j v hv=>by rw[add_lit,Nat.zero_add];exact cell_at HBZ.out j (by rw[gsa];exact hv)) Tryz.underlying50 rfl (by rw[HB1.out];kernel_rfl)) rfl ?_;refine⟨B,by rw[hhm],HBX.out,HB1.out,HB2.out,?_⟩;rw[hfd];exact⟨v,px,py,HBD.out,HUX.out,HUY.out,HPM.out⟩
   have hmb:(q.nm==wMain)=false:=beq_eq_false_iff_ne.2 hm;have HM:=h_ hm;clear hm;unfold wMain at hmb;go_wp2_with fail
   go_roundw
   case rel=>exact⟨j+1,by go_num,hi,h_ (fun i hi2 h=>by
    rcases Nat.lt_succ_iff_lt_or_eq.1 h with h | h
    ·exact HNO.out i hi2 h
    subst h;rw[<-HQD.out];exact HM.out),HBe,HBr,HBW⟩
   case measure=>simp[intOf];omega
  have hjj:fs.length<=j:=by omega
  obtain⟨A,hA⟩:∃ A:List Value,A=[.string ⟨#[]⟩,.slice none 0 0,.string ⟨#[]⟩,.int .i64 0,.bool false,.int .i64 0,.string ⟨#[]⟩,.string ⟨#[]⟩,.bool false,.slice none 0 0,.slice none 0 0,.int .i64 0,.int .i64 0,.int .i64 0,.int .i64 0,.int .i64 0,.string ⟨#[]⟩,.string ⟨#[]⟩,.bool false,.slice none 0 0,.slice none 0 0,.int .i64 0,.int .i64 0,.int .i64 0,.int .i64 0]:=⟨_,rfl⟩
  go_upto_region 7 with fail
  refine wp_region_lit ?_;refine wpList_plain rfl fun K0 hK0=>?_
  refine wp_build_any 50 _ (.agg #[.string ⟨#[]⟩,.slice none 0 0,.string ⟨#[]⟩,.int .i64 0,.bool false,.int .i64 0,.string ⟨#[]⟩,.string ⟨#[]⟩,.bool false,.slice none 0 0,.slice none 0 0,.int .i64 0,.int .i64 0,.int .i64 0,.int .i64 0,.int .i64 0,.string ⟨#[]⟩,.string ⟨#[]⟩,.bool false,.slice none 0 0,.slice none 0 0,.int .i64 0,.int .i64 0,.int .i64 0,.int .i64 0]) rfl _ rfl (by kernel_rfl) ?_;refine hK0 _ _ ?_;clear hK0;refine wpList_plain rfl fun K0 hK0=>?_
  refine wp_store_row 50 (.tmp 2) (.tmp 18) rfl kr #[.string ⟨#[]⟩,.slice none 0 0,.string ⟨#[]⟩,.int .i64 0,.bool false,.int .i64 0,.string ⟨#[]⟩,.string ⟨#[]⟩,.bool false,.slice none 0 0,.slice none 0 0,.int .i64 0,.int .i64 0,.int .i64 0,.int .i64 0,.int .i64 0,.string ⟨#[]⟩,.string ⟨#[]⟩,.bool false,.slice none 0 0,.slice none 0 0,.int .i64 0,.int .i64 0,.int .i64 0,.int .i64 0] rfl rfl 50 _ HBr.out (by kernel_rfl) rfl (by simp[Value.oneCell']) ?_
  rw[show wl.setRow kr #[.string ⟨#[]⟩,.slice none 0 0,.string ⟨#[]⟩,.int .i64 0,.bool false,.int .i64 0,.string ⟨#[]⟩,.string ⟨#[]⟩,.bool false,.slice none 0 0,.slice none 0 0,.int .i64 0,.int .i64 0,.int .i64 0,.int .i64 0,.int .i64 0,.string ⟨#[]⟩,.string ⟨#[]⟩,.bool false,.slice none 0 0,.slice none 0 0,.int .i64 0,.int .i64 0,.int .i64 0,.int .i64 0]=wl from setRow_self _ _ _ _ _ HBr.out];refine hK0 _ _ ?_;clear hK0;go_wp2_with fail
  have hno:=main_none HNO.out hjj;rw[HFS.out] at hno;have hhm:hasMain p=false:=hno;have hfd:p.fs.find? (·.nm==wMain)=none:=by have h:=has_find p;rw[hhm] at h;cases hx:p.fs.find? (·.nm==wMain) with | none=>rfl | some y=>rw[hx] at h;cases h
  refine bodyPost_ret (v:=.tuple #[.agg #[.string ⟨#[]⟩,.slice none 0 0,.string ⟨#[]⟩,.int .i64 0,.bool false,.int .i64 0,.string ⟨#[]⟩,.string ⟨#[]⟩,.bool false,.slice none 0 0,.slice none 0 0,.int .i64 0,.int .i64 0,.int .i64 0,.int .i64 0,.int .i64 0,.string ⟨#[]⟩,.string ⟨#[]⟩,.bool false,.slice none 0 0,.slice none 0 0,.int .i64 0,.int .i64 0,.int .i64 0,.int .i64 0],.bool false]) (res_cell2 Tryz.results14 (by rfl) [.string ⟨#[]⟩,.slice none 0 0,.string ⟨#[]⟩,.int .i64 0,.bool false,.int .i64 0,.string ⟨#[]⟩,.string ⟨#[]⟩,.bool false,.slice none 0 0,.slice none 0 0,.int .i64 0,.int .i64 0,.int .i64 0,.int .i64 0,.int .i64 0,.string ⟨#[]⟩,.string ⟨#[]⟩,.bool false,.slice none 0 0,.slice none 0 0,.int .i64 0,.int .i64 0,.int .i64 0,.int .i64 0] (fun j v hv=>by rw[add_lit,Nat.zero_add];exact cell_at HBr.out j (by rw[gsa];exact hv)) Tryz.underlying50 rfl (by kernel_rfl)) rfl ?_
  refine⟨[.string ⟨#[]⟩,.slice none 0 0,.string ⟨#[]⟩,.int .i64 0,.bool false,.int .i64 0,.string ⟨#[]⟩,.string ⟨#[]⟩,.bool false,.slice none 0 0,.slice none 0 0,.int .i64 0,.int .i64 0,.int .i64 0,.int .i64 0,.int .i64 0,.string ⟨#[]⟩,.string ⟨#[]⟩,.bool false,.slice none 0 0,.slice none 0 0,.int .i64 0,.int .i64 0,.int .i64 0,.int .i64 0],by rw[hhm],HBW.out,rfl,by decide,?_⟩;rw[hfd]
  trivial
end Go.Proofs.YtkocdbgmckdcpaaGreatDoor
namespace Go.Proofs.YtkocdbgmckdcpaaGreatDoor
open Go.RowKit
set_option maxRecDepth 100000
set_option linter.unusedVariables false
set_option linter.unusedSimpArgs false
theorem asu_app (a b:List U):asu (a++b)=asu a++asu b:=by simp[asu,List.filter_append]
theorem asu_len (a:List U):(asu a).length<=a.length:=List.length_filter_le _ _
theorem asu_cons (u:U) (us:List U):(asu (u::us)).length=(if u.k=28 then 1 else 0)+(asu us).length:=by
 by_cases h:u.k=28
 ·simp[asu,h];omega
 simp[asu,h]
theorem law_asserts_p (d:Nat) (hd:d<=4000000000000000000) (x:X) (u:U) (w:World) (S:Nat->Prop) (h:Um w S x u) (ho:ud u<=d) (hN:(uPre u).length<=1000000) :
  Calls Tryz.prog 13 #[xv x] w fun e w'=>e=.returned (.int .i64 ((asu (uPre u)).length:Nat))/\Below w.heap.size w w':=by
 induction d generalizing x u w with
 | zero=>obtain⟨k,nm,ot,z,ln,cl,ks⟩:=u;rw[ud] at ho;omega
 | succ d ih =>
  obtain⟨k,nm,ot,z,ln,cl,ks⟩:=u;rw[Um] at h;obtain⟨⟨e1,e2,e3,e4,e5,e6⟩,⟨h2,h3⟩,⟨h4,h5,h6⟩,h7⟩:=h;obtain⟨xk,xnm,xot,xb,xao,xn,xc,xko,xkn,xkc,xln,xcl⟩:=x;simp only at e1 e2 e3 e4 e5 e6 h2 h3 h4 h5 h6 h7;have HK:=h_ (fun j (hj:j<ks.length)=>ums_get 0 j h7 hj);clear h7;subst e1 e2 e3 e4 e5 e6;subst h4;rw[ud] at ho;rw[uPre,lsc] at hN;obtain⟨c0,hc0⟩:∃ c,c=(if k=28 then 1 else 0):=⟨_,rfl⟩
  have hc1:c0<=1:=by rw[hc0];split<;>omega
  have hkl:ks.length<=9223372036854775807:=Nat.le_trans h5.1 h5.2;clear h5;have IH:=h_ ih;have HC:=h_ hc0;have HN:=h_ hN;have hdd:uds ks<=d:=by omega
  clear h2 h3 h6 ih ho hN hc0;simp only[xv];go_enter Tryz.func13,Tryz.ntmps13
  by_cases hk:k=28
  ·have hb28:(((k:Nat):Int)==28)=true:=by subst hk;rfl
   have hc2:c0=1:=by rw[HC.out,if_pos hk]
   clear hk;go_wp2_with fail
   go_loopw [3,12] (fun n i wr=>∃ j:Nat,n=.int .i64 ((c0+(asu (uPres (ks.take j))).length:Nat):Int)/\i=.int .i64 (j:Nat)/\j<=ks.length/\Hid (Below w.heap.size w wr)) (fun _ i _=>ks.length - (intOf i).toNat)
   case atStart=>exact⟨0,by rw[List.take_zero,uPres];rw[hc2];rfl,rfl,Nat.zero_le _,h_ ((Below.refl _ _).alloc (Nat.le_refl _) _)⟩
   case round =>
    obtain⟨j,rfl,rfl,hj,HB⟩:=hrel
    by_cases hlt:j<ks.length
    ·obtain⟨y,hA,hT⟩:=HK.out j hlt;rw[Nat.zero_add] at hA;have hT':=hT.below HB.out;obtain⟨a,rfl,hc⟩:=hA.keep fun a ha=>HB.out.block _ (hA.lt a ha)
     obtain⟨d0,d1,d2,d3,d4,d5,d6,d7⟩:=cells8 hc;have hle:=uPres_le ks j hlt;have hbe:=uds_mem (List.getElem_mem hlt);have ha1:=asu_len (uPres (ks.take j));have ha2:=asu_len (uPre ks[j]);have hNN:=HN.out;obtain⟨q1,hq1⟩:∃ q,q=(asu (uPres (ks.take j))).length:=⟨_,rfl⟩
     obtain⟨q2,hq2⟩:∃ q,q=(asu (uPre ks[j])).length:=⟨_,rfl⟩
     have hq12:q1+q2<=1000000:=by omega
     have HQ1:=h_ hq1;have HQ2:=h_ hq2;rw[<-hq1];have HT:=h_ hT';have hnn:(uPre ks[j]).length<=1000000:=by omega
     have HNJ:=h_ hnn;have hdj:ud ks[j]<=d:=by omega
     have HDJ:=h_ hdj;clear hc hA hT hT' hle hbe ha1 ha2 hNN hq1 hq2 hnn hdj;go_wp2_with fail
     refine (IH.out (by omega) y _ _ (HT.out.below ((Below.refl _ _).alloc (Nat.le_refl _) _)) HDJ.out HNJ.out).mono ?_;rintro e w2 ⟨rfl,hb2⟩;rw[<-HQ2.out];have HB2:=h_ hb2;clear hb2 d0 d1 d2 d3 d4 d5 d6 d7;go_wp2_with fail
     go_roundw
     case rel=>exact⟨j+1,by rw[uPres_take ks j hlt,asu_app,lsa,<-HQ1.out,<-HQ2.out];go_num,by go_num,by omega,h_ ((HB.out.alloc HB.out.size _).trans (HB2.out.mono (by have:=HB.out.size;simp;omega)))⟩
     case measure=>simp[intOf];omega
    have e:j=ks.length:=by omega
    subst e;go_wp2_with fail
    go_ret
    refine⟨?_,HB.out⟩;rw[List.take_length,uPre,asu_cons,HC.out];rfl
  have hb28:(((k:Nat):Int)==28)=false:=by simp;omega
  have hc2:c0=0:=by rw[HC.out,if_neg hk]
  clear hk;go_wp2_with fail
  go_loopw [3,12] (fun n i wr=>∃ j:Nat,n=.int .i64 ((c0+(asu (uPres (ks.take j))).length:Nat):Int)/\i=.int .i64 (j:Nat)/\j<=ks.length/\Hid (Below w.heap.size w wr)) (fun _ i _=>ks.length - (intOf i).toNat)
  case atStart=>exact⟨0,by rw[List.take_zero,uPres];rw[hc2];rfl,rfl,Nat.zero_le _,h_ ((Below.refl _ _).alloc (Nat.le_refl _) _)⟩
  case round =>
   obtain⟨j,rfl,rfl,hj,HB⟩:=hrel
   by_cases hlt:j<ks.length
   ·obtain⟨y,hA,hT⟩:=HK.out j hlt;rw[Nat.zero_add] at hA;have hT':=hT.below HB.out;obtain⟨a,rfl,hc⟩:=hA.keep fun a ha=>HB.out.block _ (hA.lt a ha)
    obtain⟨d0,d1,d2,d3,d4,d5,d6,d7⟩:=cells8 hc;have hle:=uPres_le ks j hlt;have hbe:=uds_mem (List.getElem_mem hlt);have ha1:=asu_len (uPres (ks.take j));have ha2:=asu_len (uPre ks[j]);have hNN:=HN.out;obtain⟨q1,hq1⟩:∃ q,q=(asu (uPres (ks.take j))).length:=⟨_,rfl⟩
    obtain⟨q2,hq2⟩:∃ q,q=(asu (uPre ks[j])).length:=⟨_,rfl⟩
    have hq12:q1+q2<=1000000:=by omega
    have HQ1:=h_ hq1;have HQ2:=h_ hq2;rw[<-hq1];have HT:=h_ hT';have hnn:(uPre ks[j]).length<=1000000:=by omega
    have HNJ:=h_ hnn;have hdj:ud ks[j]<=d:=by omega
    have HDJ:=h_ hdj;clear hc hA hT hT' hle hbe ha1 ha2 hNN hq1 hq2 hnn hdj;go_wp2_with fail
    refine (IH.out (by omega) y _ _ (HT.out.below ((Below.refl _ _).alloc (Nat.le_refl _) _)) HDJ.out HNJ.out).mono ?_;rintro e w2 ⟨rfl,hb2⟩;rw[<-HQ2.out];have HB2:=h_ hb2;clear hb2 d0 d1 d2 d3 d4 d5 d6 d7;go_wp2_with fail
    go_roundw
    case rel=>exact⟨j+1,by rw[uPres_take ks j hlt,asu_app,lsa,<-HQ1.out,<-HQ2.out];go_num,by go_num,by omega,h_ ((HB.out.alloc HB.out.size _).trans (HB2.out.mono (by have:=HB.out.size;simp;omega)))⟩
    case measure=>simp[intOf];omega
   have e:j=ks.length:=by omega
   subst e;go_wp2_with fail
   go_ret
   refine⟨?_,HB.out⟩;rw[List.take_length,uPre,asu_cons,HC.out];rfl
theorem at8_news {w:World} {a:Addr} {zs:List X} (h:∀ i (hi:i<zs.length),At8 w (some a) i zs[i]) (j:Nat) {u:Value} (hu:(zs.flatMap xc)[j]?=some u):w.cell? (a.add j)=some u:=by
 have hj:j<zs.length*8:=by rw[<-flat_len];exact (List.getElem?_eq_some_iff.1 hu).1
 have hd:j / 8<zs.length:=by omega
 have hm:j % 8<8:=by omega
 have he:j / 8*8+j % 8=j:=by omega
 rw[<-he,flat_at zs _ _ hd hm] at hu;obtain⟨b,hb,hc⟩:=h (j / 8) hd;injection hb with hb;subst hb;have:=hc _ _ hu
 rwa [addr_add_add,he] at this
theorem run_append_vn {P:Program} (w:World) (t ty e:TypeId) (i:TypeInfo) (z:Value) (ht:P.underlying t=some (.slice e)) (hi:P.info? e=some i) (hz:i.zero=some z) {base n:Nat} {size:Nat} {v:Value} {xs:List Value} (hown:w.ownsRow base e size v n xs) (hn:n<=1000000001) :
  (Builtin.append_ #[t,t] ty #[v,.slice none 0 0]).run P w=.ok v w:=by
 rcases hown.2 with ⟨rfl,rfl⟩ | ⟨g,cap,cur,rfl,hbg,hg,hnc,hcm,hcs,htake⟩
 ·simp[Builtin.append_,run_underlying ht,sizeOf,typeInfo,zeroValue,hi,hz,Builtin.lenOf,Builtin.firstCells]
 have h1:¬ (9223372036854775807<(n:Int)):=by omega
 simp[Builtin.append_,run_underlying ht,sizeOf,typeInfo,zeroValue,hi,hz,Builtin.lenOf,Builtin.firstCells,hnc,h1,storeCells]
theorem wpList_append_exprs {w:World} {ops:Array Oper} {rest:List Oper} {o:Oper} {a:Act} {Q:Exit->Act->World->Prop} (hgd:o.guard=none) (s x:Operand)
  (ho:o.op=.call { callee:=.builtin .append,args:=#[s,x],argTypes:=#[36,36] })
  (base:Nat) (v:Value) (ys zs:List X) (hs:a.eval s=v) (hown:w.ownsRow base 46 8 v ys.length (ys.flatMap xc))
  (ko:Option Addr) (kc:Nat) (hx:a.eval x=.slice ko zs.length kc) (h0:.slice ko zs.length kc=Value.slice none 0 0\/zs.length≠0) (hz:∀ i (h:i<zs.length),At8 w ko i zs[i])
  (hlen:ys.length+zs.length<=1000001) (hbase:base<=w.heap.size)
  (hK:∀ v' w',w'.ownsRow base 46 8 v' (ys++zs).length ((ys++zs).flatMap xc)->Below base w w'->wpList Tryz.prog ops Q rest (a.put o.dst v') w'):wpList Tryz.prog ops Q (o::rest) a w:=by
 refine wpList_plain hgd fun K hk=>?_
 by_cases hz0:zs.length=0
 ·have hzz:zs=[]:=List.eq_nil_of_length_eq_zero hz0;subst hzz;rcases h0 with h0 | h0
  ·rw[h0] at hx;obtain⟨i,hi,hzr,hz1,hz2⟩:=info_parts infoExpr;have hr:=run_append_vn (P:=Tryz.prog) w 36 o.type 46 i _ Tryz.underlying36 hi hzr hown (by omega);unfold Oper.wp execOp;simp only[ho,resolve,invoke,builtin,Sem.run_bind,Sem.run_pure,Result.andThen_ok,List.map_toArray,List.map_cons,List.map_nil,hs,hx,hr];exact hk _ _ (hK v w (by rw[List.append_nil];exact hown) (Below.refl _ _))
  exact absurd rfl h0
 obtain⟨ad,had⟩:∃ ad,ko=some ad:=by obtain⟨b,hb,-⟩:=hz 0 (by omega);exact⟨b,hb⟩
 subst had;refine wp_append_els w s x 36 ho 46 Tryz.underlying36 infoExpr rfl (by decide) (by decide) base v ys.length (ys.flatMap xc) hs hown ad kc zs.length (zs.flatMap xc) (flat_len zs) (fun j u hu=>at8_news hz j hu) (fun u hu=>?_) hx (by omega) hlen hbase (fun v' w' h1 h2 h3 h4=>hk _ _ (hK v' w' (by rw[lsa,List.flatMap_append];exact h1) ⟨h2.os,h2.tape,h2.output,h2.size,fun k hk=>h2.block k (by omega) (fun e=>?_)⟩))
 ·obtain⟨q,_,hq⟩:=List.mem_flatMap.1 hu;exact xc_one q u hq
 have:=(hown.lt k e.symm).1
 omega
theorem flat_take {α β:Type} (f:α->List β) (l:List α) (j:Nat) (h:j<l.length):(l.take (j+1)).flatMap f=(l.take j).flatMap f++f l[j]:=by
 rw[List.take_succ_eq_append_getElem h,List.flatMap_append];simp
theorem flat_take_le {α β:Type} (f:α->List β) (l:List α) (j:Nat):((l.take j).flatMap f).length<=(l.flatMap f).length:=by
 have e:=congrArg (fun l=>(List.flatMap f l).length) (List.take_append_drop j l);simp only[List.flatMap_append,lsa] at e
 omega
theorem sites_s (w:World) (S:Nat->Prop) (vq vf:Value) (p:PgU) (hp:ProgAt w S vq vf p) (hS:∀ g,S g->g<w.heap.size) (hT:(sitesU p).length<=1000000) (hP:∀ f ∈ p.fs,(asu (uPre f.body)).Pairwise pltU) (hN:∀ f ∈ p.fs,(uPre f.body).length<=1000000) :
  Calls Tryz.prog 12 #[.agg #[vq,vf]] w fun e w'=>Below w.heap.size w w'/\∃ ko kc zs,e=.returned (.slice ko zs.length kc)/\Al w' S zs (sitesU p)/\∀ i (h:i<zs.length),At8 w' ko i zs[i]:=by
 obtain⟨qs,fs,hqs,hfs,-,hat⟩:=hp;obtain⟨ko,kc,hv,⟨hk1,hk2⟩,-,hel⟩:=hat;have HSL:=h_ hS;have HFS:=h_ hfs;have HEL:=h_ hel;subst hv;have hkl:fs.length<=9223372036854775807:=Nat.le_trans hk1 hk2;have HTOT:=h_ hT;have HPW:=h_ hP;have HNN:=h_ hN;clear hqs hfs hel hk1 hk2 hT hP hN hS;have HW:=h_ (Below.refl w.heap.size w);go_enter Tryz.func12,Tryz.ntmps12
 go_upto_region 1 with fail
 obtain⟨w1,ke,hw,hkk,hb,hs1,HBe⟩:=newb w #[vq,.slice ko fs.length kc] 26;rw[hw,<-hkk];replace HW:=h_ (HW.out.trans (hb.mono HW.out.size));clear hw hb hkk hs1;obtain⟨c0,c1⟩:=cl2 HBe.out;go_wp2_with fail
 clear c0 c1
 go_loopw [3,9] (fun s i wr=>∃ (j:Nat) (ko2:Option Addr) (kc2:Nat) (zs:List X),s=.slice ko2 zs.length kc2/\i=.int .i64 (j:Nat)/\j<=fs.length/\Hid (wr.ownsRow w.heap.size 46 8 (.slice ko2 zs.length kc2) zs.length (zs.flatMap xc))/\Hid (Al wr S zs ((fs.take j).flatMap fun d=>asu (uPre d.q.body)))/\Hid (Below w.heap.size w wr)) (fun _ i _=>fs.length - (intOf i).toNat)
 case atStart=>exact⟨0,none,0,[],rfl,rfl,Nat.zero_le _,h_ (World.ownsRow_nil _ _ _ _),h_ (Al.nil _ _),HW⟩
 case round =>
  obtain⟨wl,hwl⟩:∃ q,q=wr:=⟨_,rfl⟩
  subst hwl;clear HBe HW;obtain⟨j,ko2,kc2,zs,rfl,rfl,hj,HROW,HAL,HW⟩:=hrel
  by_cases hi:j<fs.length
  ·have HWL:=HW;obtain⟨hAt,hRj⟩:=HEL.out j hi;obtain⟨⟨q,v,px,py⟩,hqd⟩:∃ z,z=fs[j]:=⟨_,rfl⟩
   rw[<-hqd] at hAt hRj;obtain⟨hone,hux,huy,hpm⟩:=hRj;have hone2:v.oneCell'=true:=hone;have e25:fnE.f ⟨q,v,px,py⟩=fnC q v px py:=if_pos hone2;have hAt2:AtN 25 w ko j (fnC q v px py):=by rw[<-e25];exact hAt
   obtain⟨B,hB⟩:∃ z,z=fnC q v px py:=⟨_,rfl⟩
   rw[<-hB] at hAt2;obtain⟨a,rfl,hc⟩:=hAt2;have hcb:∀ i u,B[i]?=some u->wl.cell? ((a.add (j*25)).add i)=some u:=fun i u hu=>by have:=hc i u hu;rw[HW.out.cell (cell_lt this)];exact this
   have HCB:=h_ hcb;have HB1:Hid (B.length=25):=h_ (by rw[hB];rfl);have HB2:Hid (∀ u ∈ B,u.oneCell'=true):=h_ (by rw[hB];exact fnC_one hone2);have HBD:=h_ hB;have HQD:=h_ hqd;have HUX:=h_ (show Um w S px q.res.ref from hux);have HUY:=h_ (show Um w S py q.body from huy);have HPM:=h_ (show PmsAt w S v q.ps from hpm);clear hAt hux huy hpm hone hone2 e25 hc hcb hB hqd;go_upto_region 4 with fail
   refine wp_region_lit ?_;refine wpList_plain rfl fun K0 hK0=>?_
   go_simp
   refine hK0 _ _ ?_;clear hK0;refine wpList_plain rfl fun K0 hK0=>?_
   refine wp_load_row 50 (.tmp 11) rfl _ rfl B _ HCB.out Tryz.underlying50 rfl (by rw[HB1.out];kernel_rfl) ?_;refine hK0 _ _ ?_;clear hK0;refine wpList_plain rfl fun K0 hK0=>?_
   go_simp
   refine hK0 _ _ ?_;clear hK0;refine wpList_plain rfl fun K0 hK0=>?_
   refine wp_store_row 50 (.tmp 5) (.tmp 12) rfl wl.heap.size B.toArray rfl rfl 50 _ (heap_alloc_last wl _) (by rw[List.size_toArray,HB1.out];kernel_rfl) (by rw[show B.toArray.size=25 from by rw[List.size_toArray];exact HB1.out];rfl) (by rw[List.all_toArray];exact List.all_eq_true.2 HB2.out) ?_;rw[World.setRow_alloc_new];refine hK0 _ _ ?_;clear hK0;go_upto_region 5 with fail
   obtain⟨w2,kf,hw,hkk,hb,hs1,HBf⟩:=newb wl B.toArray 50;rw[hw,<-hkk];replace HW:=h_ (HW.out.trans (hb.mono HW.out.size));replace HROW:=h_ (HROW.out.kept (row:=none) (below_grown hb none) (by cases (Value.slice ko2 zs.length kc2).ownBlock<;>simp));clear hw hb hkk hs1;have hb15:B.toArray[15]?=some (.int .i64 py.k):=by rw[HBD.out];rfl
   have hb16:B.toArray[16]?=some (.string py.nm):=by rw[HBD.out];rfl
   have hb17:B.toArray[17]?=some (.string py.ot):=by rw[HBD.out];rfl
   have hb18:B.toArray[18]?=some (.bool py.b):=by rw[HBD.out];rfl
   have hb19:B.toArray[19]?=some (.slice py.ao py.n py.c):=by rw[HBD.out];rfl
   have hb20:B.toArray[20]?=some (.slice py.ko py.kn py.kc):=by rw[HBD.out];rfl
   have hb21:B.toArray[21]?=some (.int .i64 py.ln):=by rw[HBD.out];rfl
   have hb22:B.toArray[22]?=some (.int .i64 py.cl):=by rw[HBD.out];rfl
   have q15:=cell_at (v:=.int .i64 py.k) HBf.out 15 hb15;have q16:=cell_at (v:=.string py.nm) HBf.out 16 hb16;have q17:=cell_at (v:=.string py.ot) HBf.out 17 hb17;have q18:=cell_at (v:=.bool py.b) HBf.out 18 hb18;have q19:=cell_at (v:=.slice py.ao py.n py.c) HBf.out 19 hb19;have q20:=cell_at (v:=.slice py.ko py.kn py.kc) HBf.out 20 hb20;have q21:=cell_at (v:=.int .i64 py.ln) HBf.out 21 hb21;have q22:=cell_at (v:=.int .i64 py.cl) HBf.out 22 hb22;clear hb15 hb16 hb17 hb18 hb19 hb20 hb21 hb22;have hmem:q ∈ p.fs:=by rw[<-HFS.out];exact List.mem_map.2 ⟨_,List.getElem_mem hi,by rw[<-HQD.out]⟩
   have hpw:=HPW.out q hmem;have hnn:=HNN.out q hmem;have hum:Um w2 S py q.body:=HUY.out.below HW.out;have HPJ:=h_ hpw;have HNJ:=h_ hnn;have HUJ:=h_ hum;clear hpw hnn hum hmem;go_wp2_with fail
   refine (asserts_s py q.body w2 S HUJ.out HNJ.out HPJ.out).mono ?_;rintro e w9 ⟨hb,ko3,kc3,ys,rfl,h0,hal,hys⟩;clear q15 q16 q17 q18 q19 q20 q21 q22;replace HW:=h_ (HW.out.trans (hb.mono HW.out.size));replace HROW:=h_ (HROW.out.kept (row:=none) (below_grown hb none) (by cases (Value.slice ko2 zs.length kc2).ownBlock<;>simp));have halk:Al w9 S zs ((fs.take j).flatMap fun d=>asu (uPre d.q.body)):=HAL.out.keep fun g hg=>by rw[HW.out.block g (HSL.out g hg),<-HWL.out.block g (HSL.out g hg)]
   have HAL9:=h_ (halk.app (hal.mono fun g hg=>hg.1));have HYS:=h_ hys;have H0:=h_ h0;have hal1:=hal.1;clear halk hal hys hb h0
   have htot:zs.length+ys.length<=1000001:=by
    have h1:=HAL9.out.1
    have h2:((fs.take (j+1)).flatMap fun d=>asu (uPre d.q.body)).length<=(sitesU p).length:=by
     unfold sitesU;rw[<-HFS.out,List.flatMap_map];exact flat_take_le (fun d:Fd=>asu (uPre d.q.body)) fs (j+1)
    rw[flat_take (fun d:Fd=>asu (uPre d.q.body)) fs j hi,<-HQD.out] at h2;have h3:=HTOT.out
    dsimp only at h2
    rw[lsa] at h1 h2;rw[lsa] at h1
    omega
   have HTT:=h_ htot;clear htot hal1;go_wp2_with (first | (at_builtin;refine wpList_append_exprs rfl (.tmp 13) (.tmp 16) rfl w.heap.size (.slice ko2 zs.length kc2) zs ys rfl HROW.out ko3 kc3 rfl H0.out HYS.out HTT.out HW.out.size (fun v4 w6 hr4 hb4=>?_)) | fail)
   obtain⟨ko4,kc4,rfl,-⟩:=own_form hr4;have HR4:=h_ hr4;have HB4:=h_ hb4;clear hr4 hb4;go_wp2_with fail
   go_roundw
   case rel=>exact⟨j+1,ko4,kc4,zs++ys,rfl,by go_num,hi,HR4,h_ (by rw[flat_take (fun d:Fd=>asu (uPre d.q.body)) fs j hi,<-HQD.out];exact HAL9.out.keep fun g hg=>HB4.out.block g (HSL.out g hg)),h_ (HW.out.trans HB4.out)⟩
   case measure=>simp[intOf];omega
  have hjj:j=fs.length:=by omega
  have HJ:=h_ hjj;clear hjj;go_wp2_with fail
  go_ret
  refine⟨HW.out,ko2,kc2,zs,rfl,?_,fun i h=>own_at HROW.out i h⟩;have h:=HAL.out;rw[HJ.out,List.take_length] at h;unfold sitesU;rw[<-HFS.out,List.flatMap_map];exact h
end Go.Proofs.YtkocdbgmckdcpaaGreatDoor
