/-
 Joined texts: LgZd,LgZe.
-/
import Derived.Test.YtoncclhbdkjhmaaGreatDoorJLogicPuts6
import Derived.Test.YtoncclhbdkjhmaaGreatDoorJLogicPuts7
set_option maxHeartbeats 32000000
open Go renaming lt_of_block→ag,bodyPost_ret→aB,heap_setCell_same→aF
open Go.Exit renaming inBlock→aE,«then»→aM
open Go.Lib renaming hid→aa
open Go.Proofs.Tryz renaming results13→aX
open Go.RowKit.Below renaming refl→av
open Go.World.grownBy renaming refl→aJ
open Nat renaming not_lt_zero→ah,le_refl→ak,le_trans→aq,zero_le→au
namespace Go.Proofs.YtoncclhbdkjhmaaGreatDoor
open Go.RowKit
set_option maxRecDepth 100000
set_option linter.unusedVariables false
set_option linter.unusedSimpArgs false
def uK (j:Nat):Int:=[(8:Int),(9:Int),(10:Int),(11:Int)].getD j 0
theorem GH (d:Nat) (DK:1<=d) (hd:d<=100) (IT:vi d) (xo:Int) (xb:Bool) (ew:Option Addr) (xl xc:Nat) (ek:ByteArray) (eH:Option Addr) (dV dW:Nat) (w:World) (hx:nj w (d+1) ⟨xo,xb,ew,xl,xc,ek,eH,dV,dW⟩) :
  Calls Tryz.prog 13 #[.agg #[.int .i64 xo,.bool xb,.slice ew xl xc,.string ek,.slice eH dV dW],.int .i64 2,.int .i64 ((d:Nat)+1:Int)] w (kZ (d+1) 2 w):=by
 have HX:=aa hx;have uF:=aa IT;have Nw:=aa DK;have HD:=aa hd;have Mq:decide (((d:Nat)+1:Int)<=1)=false:=by simp;omega
 clear IT DK hd;obtain⟨-,hn,-,⟨nB,fA⟩,-⟩:=hx;simp only at hn nB fA;have Hs:dW<=9223372036854775807:=fA;obtain⟨m,hm⟩:∃ m,m=min xl 2:=⟨_,rfl⟩
 have hmin:min (xl:Int) 2=(m:Int):=by omega
 have H8:m<=2:=by omega
 have hml:m<=xl:=by omega
 have nR:∃ q,GN w (.slice ew m xc) q 2/\xl<=xc/\xc<=9223372036854775807:=by
  obtain⟨xs,hs,Dh⟩:=hn;have hl:=qI hs;obtain⟨_,_,e,h1,h2,_⟩:=id hs;injection e with e1 e2 e3;subst e3;exact⟨_,⟨xs.take m,hs.take m (by omega),Dh.take m,rfl,by rw[List.length_take];omega⟩,by omega,h2⟩
 obtain⟨q,hq,hlc,hc⟩:=nR;have K8:m<=xc:=by omega
 have HG:=aa hq;clear hq hn hm fA;obtain⟨K,hK,Fo⟩:=rG xo;obtain⟨j,hj⟩:∃ j,j=K % 4:=⟨_,rfl⟩
 have yZ:((K:Nat):Int).tmod 4=((j:Nat):Int):=by rw[hj];exact (Int.ofNat_tmod K 4).symm
 have Mi:j<4:=by rw[hj];exact Nat.mod_lt _ (by decide)
 clear hj Fo;have HW:=aa (av w.heap.size w);go_enter Tryz.func13,Tryz.ntmps13
 obtain⟨x1,kf,ef,hO,aR,gL,aj⟩:=aL w #[.int .i64 xo,.bool xb,.slice ew xl xc,.string ek,.slice eH dV dW] 29;replace HW:=aa (HW.out.trans (aR.out.mono HW.out.size));replace HG:=aa (HG.out.below aR.out);obtain⟨x2,kd,ed,MV,hbd,BA,bX⟩:=aL x1 #[.int .i64 ((d:Nat)+1:Int)] 3;replace aj:=aG hbd.out aj;replace HW:=aa (HW.out.trans (hbd.out.mono HW.out.size));replace HG:=aa (HG.out.below hbd.out);obtain⟨x3,kr,er,lZ,bP,gD,aD⟩:=aL x2 #[.int .i64 0,.bool false,.slice none 0 0,.string ⟨#[]⟩,.slice none 0 0] 29;replace aj:=aG bP.out aj;replace bX:=aG bP.out bX;replace HW:=aa (HW.out.trans (bP.out.mono HW.out.size));replace HG:=aa (HG.out.below bP.out);have lW:Hid (w.heap.size<=kr):=aa (by have h1:=aR.out.size;have h2:=hbd.out.size;have h3:=gD.out;omega)
 obtain⟨x4,kp,ep,MU,qz,hkp,iL⟩:=aL x3 #[.int .i64 1,.int .i64 0,.int .i64 2,.int .i64 3,.int .i64 4,.int .i64 5,.int .i64 6,.int .i64 7] 22;replace aj:=aG qz.out aj;replace bX:=aG qz.out bX;replace aD:=aG qz.out aD;replace HW:=aa (HW.out.trans (qz.out.mono HW.out.size));replace HG:=aa (HG.out.below qz.out);obtain⟨x5,kq,eq,Cy,iC,yn,gA⟩:=aL x4 #[.int .i64 14,.int .i64 12,.int .i64 13,.int .i64 15,.int .i64 16,.int .i64 16,.int .i64 17,.int .i64 18,.int .i64 19,.int .i64 20] 22;replace aj:=aG iC.out aj;replace bX:=aG iC.out bX;replace aD:=aG iC.out aD;replace iL:=aG iC.out iL;replace HW:=aa (HW.out.trans (iC.out.mono HW.out.size));replace HG:=aa (HG.out.below iC.out)
 obtain⟨x6,kt,et,DM,ct,mw,nN⟩:=aL x5 #[.int .i64 8,.int .i64 9,.int .i64 10,.int .i64 11] 22;replace aj:=aG ct.out aj;replace bX:=aG ct.out bX;replace aD:=aG ct.out aD;replace iL:=aG ct.out iL;replace gA:=aG ct.out gA;replace HW:=aa (HW.out.trans (ct.out.mono HW.out.size));replace HG:=aa (HG.out.below ct.out);have hidx:=ER (some ⟨kp,0,none⟩) (some ⟨kq,0,none⟩) (some ⟨kt,0,none⟩) 8 10 4 8 10 4;have f0:=ae (v:=.int .i64 xo) aj.out 0 rfl;have nK:=af aj.out 0;have f1:=ae (v:=.bool xb) aj.out 1 rfl;have nJ:=af aj.out 1;have f2:=ae (v:=.slice ew xl xc) aj.out 2 rfl;have nI:=af aj.out 2;have f3:=ae (v:=.string ek) aj.out 3 rfl;have nH:=af aj.out 3;have f4:=ae (v:=.slice eH dV dW) aj.out 4 rfl;have nG:=af aj.out 4
 have d0:=ae (v:=.int .i64 ((d:Nat)+1:Int)) bX.out 0 rfl;have rB:=af bX.out 0
 have hop:x6.cell? ⟨kt,j,none⟩=some (.int .i64 (uK j)):=by
  have:j=0\/j=1\/j=2\/j=3:=by omega
  rcases this with rfl | rfl | rfl | rfl<;>exact ae nN.out _ rfl
 obtain⟨op,mW⟩:∃ op,op=uK j:=⟨_,rfl⟩
 rw[<-mW] at hop;have kM:=aa mW;clear mW;go_upto_region 7 with fail
 clear f0 nK f1 nJ f2 nI f3 nH f4 nG d0 rB hop;clear hidx yZ hK;have Dz:=HW;have xd:=aj;have xe:=bX;have w_:=aD;obtain⟨x7,ko,eo,Aw,eL,Bz,aA⟩:=aL x6 #[.int .i64 op,.bool false,.slice none 0 0,.string ⟨#[]⟩,.slice none 0 0] 29;replace aj:=aG eL.out aj;replace bX:=aG eL.out bX;replace aD:=aG eL.out aD;replace iL:=aG eL.out iL;replace gA:=aG eL.out gA;replace nN:=aG eL.out nN;replace HW:=aa (HW.out.trans (eL.out.mono HW.out.size));replace HG:=aa (HG.out.below eL.out);rw[eo,Aw];have j9:Hid (w.heap.size<=ko):=aa (by have:=Dz.out.size;have:=Bz.out;omega);go_upto_region 8 with fail
 have HY:=aa (av x7.heap.size x7);have nt:=aj;have o6:=bX;have nT:=aD;have kN:=aA;have cK:=ag aj.out;have fK:Hid (∀ q,q<0->(fun q=>0) q<x7.heap.size):=aa (fun q h=>absurd h (ah _));refine R7.region (by kernel_rfl) [[],[0],[0,1],[],[3],[3,4],[],[6],[6,7],[6,7,8],[6,7,8,9],[3,4,5,6,7,8,9,10],[0,1,2,3,4,5,6,7,8,9,10,11],[],[0,1,2,3,4,5,6,7,8,9,10,11,12,13]] [] [] (fun q=>0) 0 14 (by kernel_rfl) (by kernel_rfl) (by rfl) fK.out (fun q q' h h' hn=>absurd hn (by omega)) ?_;refine R7.az.bT ?_ (by rfl) (fun T xs wr hA=>?_) ?_
 rotate_left 1
 ·have e3:=hA.pre 3 (by kernel_rfl);simp only[eY,fD,fm] at e3;clear hA;refine⟨(by rfl),?_⟩;go_simp<;>(try with_reducible rfl)
 refine R7.az.bT ?_ (by rfl) (fun T xs wr hA=>?_) ?_
 rotate_left 1
 ·have Dq:=hA.tm 0 36 (by rfl) (by rfl);have f36:xs 0=_:=hA.fa 0 (by rfl)
  (try simp (disch:=first | rfl | decide) only [R7.ai] at f36)
  rw[f36] at Dq;clear f36;clear hA;refine⟨(by rfl),?_⟩;go_simp<;>(try with_reducible rfl)
 refine R7.az.bT ?_ (by rfl) (fun T xs wr hA=>?_) ?_
 rotate_left 1
 ·have BQ:=hA.tm 1 37 (by rfl) (by rfl);have f37:xs 1=_:=hA.fa 1 (by rfl)
  (try simp (disch:=first | rfl | decide) only [R7.ai] at f37)
  rw[f37] at BQ;clear f37;have aP:wr.heap[kf]?=_:=(hA.bl _ cK (fun q h=>absurd h (ah _))).trans aj.out;have q0:=ae (v:=.int .i64 xo) aP 0 rfl;have q1:=ae (v:=.bool xb) aP 1 rfl;have q2:=ae (v:=.slice ew xl xc) aP 2 rfl;have q3:=ae (v:=.string ek) aP 3 rfl;have q4:=ae (v:=.slice eH dV dW) aP 4 rfl;clear aP;clear hA;refine⟨(by rfl),?_⟩;go_simp<;>(try with_reducible rfl)
 refine R7.az.bT ?_ (by rfl) (fun T xs wr hA=>?_) ?_
 rotate_left 1
 ·have e3:=hA.pre 3 (by kernel_rfl);simp only[eY,fD,fm] at e3;clear hA;refine⟨(by rfl),?_⟩;go_simp<;>(try with_reducible rfl)
 refine R7.az.bT ?_ (by rfl) (fun T xs wr hA=>?_) ?_
 rotate_left 1
 ·have CA:=hA.tm 3 39 (by rfl) (by rfl);have f39:xs 3=_:=hA.fa 3 (by rfl)
  (try simp (disch:=first | rfl | decide) only [R7.ai] at f39)
  rw[f39] at CA;clear f39;clear hA;refine⟨(by rfl),?_⟩;go_simp<;>(try with_reducible rfl)
 refine R7.az.bT ?_ (by rfl) (fun T xs wr hA=>?_) ?_
 rotate_left 1
 ·have BO:=hA.tm 4 40 (by rfl) (by rfl);have f40:xs 4=_:=hA.fa 4 (by rfl)
  (try simp (disch:=first | rfl | decide) only [R7.ai] at f40)
  rw[f40] at BO;clear f40;have aP:wr.heap[kf]?=_:=(hA.bl _ cK (fun q h=>absurd h (ah _))).trans aj.out;have q0:=ae (v:=.int .i64 xo) aP 0 rfl;have q1:=ae (v:=.bool xb) aP 1 rfl;have q2:=ae (v:=.slice ew xl xc) aP 2 rfl;have q3:=ae (v:=.string ek) aP 3 rfl;have q4:=ae (v:=.slice eH dV dW) aP 4 rfl;clear aP;clear hA;refine⟨(by rfl),?_⟩;go_simp<;>(try with_reducible rfl)
 refine R7.az.bT ?_ (by rfl) (fun T xs wr hA=>?_) ?_
 rotate_left 1
 ·have e3:=hA.pre 3 (by kernel_rfl);simp only[eY,fD,fm] at e3;clear hA;refine⟨(by rfl),?_⟩;go_simp<;>(try with_reducible rfl)
 refine R7.az.bT ?_ (by rfl) (fun T xs wr hA=>?_) ?_
 rotate_left 1
 ·have AY:=hA.tm 6 42 (by rfl) (by rfl);have f42:xs 6=_:=hA.fa 6 (by rfl)
  (try simp (disch:=first | rfl | decide) only [R7.ai] at f42)
  rw[f42] at AY;clear f42;clear hA;refine⟨(by rfl),?_⟩;go_simp<;>(try with_reducible rfl)
 refine R7.az.bT ?_ (by rfl) (fun T xs wr hA=>?_) ?_
 rotate_left 1
 ·have uA:=hA.tm 7 43 (by rfl) (by rfl);have f43:xs 7=_:=hA.fa 7 (by rfl)
  (try simp (disch:=first | rfl | decide) only [R7.ai] at f43)
  rw[f43] at uA;clear f43;have aP:wr.heap[kf]?=_:=(hA.bl _ cK (fun q h=>absurd h (ah _))).trans aj.out;have q0:=ae (v:=.int .i64 xo) aP 0 rfl;have q1:=ae (v:=.bool xb) aP 1 rfl;have q2:=ae (v:=.slice ew xl xc) aP 2 rfl;have q3:=ae (v:=.string ek) aP 3 rfl;have q4:=ae (v:=.slice eH dV dW) aP 4 rfl;clear aP;clear hA;refine⟨(by rfl),?_⟩;go_simp<;>(try with_reducible rfl)
 refine R7.az.bT ?_ (by rfl) (fun T xs wr hA=>?_) ?_
 rotate_left 1
 ·have uz:=hA.tm 8 44 (by rfl) (by rfl);have f44:xs 8=_:=hA.fa 8 (by rfl)
  (try simp (disch:=first | rfl | decide) only [R7.ai] at f44)
  rw[f44] at uz;clear f44;clear hA;refine⟨(by rfl),?_⟩;go_simp<;>(try with_reducible rfl)
 refine R7.az.bT ?_ (by rfl) (fun T xs wr hA=>?_) ?_
 rotate_left 1
 ·have vf:=hA.tm 9 45 (by rfl) (by rfl);have f45:xs 9=_:=hA.fa 9 (by rfl)
  (try simp (disch:=first | rfl | decide) only [R7.ai] at f45)
  rw[f45] at vf;clear f45;clear hA;refine⟨(by rfl),?_⟩;go_simp<;>(try with_reducible rfl)
 refine R7.az.bT ?_ (by rfl) (fun T xs wr hA=>?_) ?_
 rotate_left 1
 ·have BN:=hA.tm 5 41 (by rfl) (by rfl);have f41:xs 5=_:=hA.fa 5 (by rfl)
  (try simp (disch:=first | rfl | decide) only [R7.ai] at f41)
  rw[f41] at BN;clear f41;have tR:=hA.tm 10 46 (by rfl) (by rfl);have f46:xs 10=_:=hA.fa 10 (by rfl)
  (try simp (disch:=first | rfl | decide) only [R7.ai] at f46)
  rw[f46] at tR;clear f46;clear hA;refine⟨(by rfl),?_⟩;go_simp<;>(try with_reducible rfl)
 refine R7.az.call (fun xs v w=>∃ z,CI w v z 2) (fun _ _ _ _ h hb=>by obtain⟨z,h2⟩:=h;exact⟨z,h2.below hb⟩) (fun _ _ _ _ _ _ h _=>by obtain⟨q,hq,_⟩:=h;exact absurd hq (ah _)) (by rfl) (fun T xs wr hA=>?_) ?_
 ·have ki:=(hA.be 0 (au _) (fun _ _=>au _)).size;have BP:=hA.tm 2 38 (by rfl) (by rfl);have f38:xs 2=_:=hA.fa 2 (by rfl)
  (try simp (disch:=first | rfl | decide) only [R7.ai] at f38)
  rw[f38] at BP;clear f38;have u_:=hA.tm 11 47 (by rfl) (by rfl);have f47:xs 11=_:=hA.fa 11 (by rfl)
  (try simp (disch:=first | rfl | decide) only [R7.ai] at f47)
  rw[f47] at u_;clear f47;have dK:=aT (hA.be x7.heap.size (ak _) (fun q h=>absurd h (ah q)));clear hA;refine⟨(by rfl),fun K hK=>?_⟩;go_simp
  refine (mA xb _ q 2 wr (HG.out.below dK) (by decide)).mono ?_;rintro e w' ⟨v,rfl,hc,hb'⟩;exact hK.out _ _ ⟨_,hc⟩ hb'
 refine R7.az.call (fun xs v w=>∃ g,v=.pointer (some ⟨g,0,none⟩)/\x7.heap.size<=g/\w.heap[g]?=some (.cells #[.bool false,.slice none 0 0] 26 (0,0))) (fun _ _ _ _ h hb=>by obtain⟨g,h1,h2,h3⟩:=h;exact⟨g,h1,h2,by rw[hb.block g (ag h3)];exact h3⟩) (fun _ _ _ _ _ _ h _=>by obtain⟨q,hq,_⟩:=h;exact absurd hq (ah _)) (by rfl) (fun T xs wr hA=>?_) ?_
 ·have ki:=(hA.be 0 (au _) (fun _ _=>au _)).size;have dK:=aT (hA.be x7.heap.size (ak _) (fun q h=>absurd h (ah q)));clear hA;refine⟨(by rfl),fun K hK=>?_⟩;go_simp
  exact hK.out _ _ ⟨_,rfl,dK.size,cy _ _ _ rfl⟩ ((av _ _).alloc (ak _) _)
 refine R7.az.done (fun xs x8 hL=>?_);obtain⟨⟨ei,cG⟩,hf,-,-⟩:=hL;have f0:xs 0=_:=hf 0 (by decide)
 (try simp (disch:=first | rfl | decide) only [R7.ai] at f0)
 have f1:xs 1=_:=hf 1 (by decide)
 (try simp (disch:=first | rfl | decide) only [R7.ai] at f1)
 have f2:xs 2=_:=hf 2 (by decide)
 (try simp (disch:=first | rfl | decide) only [R7.ai] at f2)
 have f3:xs 3=_:=hf 3 (by decide)
 (try simp (disch:=first | rfl | decide) only [R7.ai] at f3)
 have f4:xs 4=_:=hf 4 (by decide)
 (try simp (disch:=first | rfl | decide) only [R7.ai] at f4)
 have f5:xs 5=_:=hf 5 (by decide)
 (try simp (disch:=first | rfl | decide) only [R7.ai] at f5)
 have f6:xs 6=_:=hf 6 (by decide)
 (try simp (disch:=first | rfl | decide) only [R7.ai] at f6)
 have f7:xs 7=_:=hf 7 (by decide)
 (try simp (disch:=first | rfl | decide) only [R7.ai] at f7)
 have f8:xs 8=_:=hf 8 (by decide)
 (try simp (disch:=first | rfl | decide) only [R7.ai] at f8)
 have f9:xs 9=_:=hf 9 (by decide)
 (try simp (disch:=first | rfl | decide) only [R7.ai] at f9)
 have f10:xs 10=_:=hf 10 (by decide)
 (try simp (disch:=first | rfl | decide) only [R7.ai] at f10)
 have f11:xs 11=_:=hf 11 (by decide)
 (try simp (disch:=first | rfl | decide) only [R7.ai] at f11)
 have CM:∃ z,CI x8 (xs 12) z 2:=hf 12 (by decide);have F0:∃ g,(xs 13)=.pointer (some ⟨g,0,none⟩)/\x7.heap.size<=g/\x8.heap[g]?=some (.cells #[.bool false,.slice none 0 0] 26 (0,0)):=hf 13 (by decide);have hb0:Below 0 x7 x8:=aT (ei 0 (au _) (fun _ _=>au _));have jR:∀ j,j<x7.heap.size->(∀ q,q<0->(fun q=>0) q≠j)->x8.heap[j]?=x7.heap[j]?:=cG;clear ei cG hf;have hb:Below x7.heap.size x7 x8:=⟨hb0.os,hb0.tape,hb0.output,hb0.size,fun q hq=>jR q hq (fun q h=>absurd h (ah _))⟩
 refine R7.g_ (by decide) (by kernel_rfl) ?_;simp only[R7.fill,Cb,Ca,B_,B9,xz,xy,xx,f0,f1,f2,f3,f4,f5,f6,f7,f8,f9,f10,f11];clear hb0 jR fK cK f0 f1 f2 f3 f4 f5 f6 f7 f8 f9 f10 f11;replace aj:=aG hb aj;replace bX:=aG hb bX;replace aD:=aG hb aD;replace iL:=aG hb iL;replace gA:=aG hb gA;replace nN:=aG hb nN;replace aA:=aG hb aA;replace HW:=aa (HW.out.trans (hb.mono HW.out.size));replace HG:=aa (HG.out.below hb);replace HY:=aa (HY.out.trans (hb.mono HY.out.size));replace hb:=aa hb;obtain⟨z,pg⟩:=CM;obtain⟨zb,zo,zl,zc,wC⟩:=pg.shape;obtain⟨km,hkm,mZ,qR⟩:=F0;rw[wC] at pg;rw[wC,hkm];have HC:=aa (pg.mono (k':=600) (by decide));have II:=aa pg.lt;have cY:=aa qR;clear pg wC hkm qR;have m0:=ae (v:=.bool false) cY.out 0 rfl
 have jj:=af cY.out 0;have m1:=ae (v:=.slice none 0 0) cY.out 1 rfl;have ji:=af cY.out 1;go_upto_region 9 with fail
 clear m0 jj m1 ji;have eB:=kA (w:=x8) (k:=km) (.bool zb) (.slice zo zl zc);have dm:((x8.setCell ⟨km,0,none⟩ (.bool zb)).setCell ⟨km,1,none⟩ (.slice zo zl zc)).heap[km]?=_:=aF _ km 1 _ _ _ (aF _ km 0 _ _ _ cY.out);obtain⟨W1,lN⟩:∃ q,q=(x8.setCell ⟨km,0,none⟩ (.bool zb)).setCell ⟨km,1,none⟩ (.slice zo zl zc):=⟨_,rfl⟩
 rw[<-lN] at eB dm ⊢;have jM:Fr 26 x8 W1:=.aN eB (fun j hj=>by injection hj with hj;subst hj;exact⟨_,cY.out,jP⟩);have FR:Hid (w.heap.size<=km):=aa (aq (by have:=j9.out;have:=ag kN.out;omega) mZ);replace HW:=aa (aS HW.out eB FR.out);replace HY:=aa (aS HY.out eB mZ);replace HC:=aa (HC.out.fr jM);replace aj:=aa ((HY.out.block _ (ag nt.out)).trans nt.out);replace bX:=aa ((HY.out.block _ (ag o6.out)).trans o6.out);replace aD:=aa ((HY.out.block _ (ag nT.out)).trans nT.out);replace aA:=aa ((HY.out.block _ (ag kN.out)).trans kN.out);replace cY:=aa dm;clear eB dm lN jM mZ
 have iG:Hid (kf<W1.heap.size/\kd<W1.heap.size/\kr<W1.heap.size/\ko<W1.heap.size):=aa ⟨ag aj.out,ag bX.out,ag aD.out,ag aA.out⟩;have cB:Hid (kf≠ko/\kd≠ko/\kr≠ko):=aa (by have h1:=ag xd.out;have h2:=ag xe.out;have h3:=ag w_.out;rw[Aw] at h1 h2 h3;omega);have jE:Hid (w.heap.size<=W1.heap.size):=aa HW.out.size;have Ff:j=0\/j=1\/j=2\/j=3:=by omega
 rcases Ff with rfl | rfl | rfl | rfl
 ·have fJ:op=8:=kM.out;subst fJ;clear kM;have bz:Hid (W1.heap.size<=W1.heap.size):=aa (ak _);rcases (lG ek.size).2 with hr | hr
  ·have o0:=ae (v:=.int .i64 8) aA.out 0 rfl;have dU:=af aA.out 0;have o1:=ae (v:=.bool false) aA.out 1 rfl;have dS:=af aA.out 1;have o2:=ae (v:=.slice none 0 0) aA.out 2 rfl;have dP:=af aA.out 2;have o3:=ae (v:=.string ⟨#[]⟩) aA.out 3 rfl;have dO:=af aA.out 3;have o4:=ae (v:=.slice none 0 0) aA.out 4 rfl;have cZ:=af aA.out 4;have m0:=ae (v:=.bool zb) cY.out 0 rfl;have jj:=af cY.out 0;have m1:=ae (v:=.slice zo zl zc) cY.out 1 rfl;have ji:=af cY.out 1;have f0:=ae (v:=.int .i64 xo) aj.out 0 rfl;have nK:=af aj.out 0;have f1:=ae (v:=.bool xb) aj.out 1 rfl;have nJ:=af aj.out 1;have f2:=ae (v:=.slice ew xl xc) aj.out 2 rfl;have nI:=af aj.out 2;have f3:=ae (v:=.string ek) aj.out 3 rfl
   have nH:=af aj.out 3;have f4:=ae (v:=.slice eH dV dW) aj.out 4 rfl;have nG:=af aj.out 4;have oM:=gj 48 48 (by decide) W1;obtain⟨x9,ky,ey,oB,hby,tw,iu⟩:=aL W1 #[.int .u8 48] 5;replace aj:=aG hby.out aj;replace bX:=aG hby.out bX;replace aD:=aG hby.out aD;replace aA:=aG hby.out aA;replace cY:=aG hby.out cY;replace HW:=aa (HW.out.trans (hby.out.mono HW.out.size));replace HC:=aa (HC.out.below hby.out);rw[ey,oB] at oM;have p0:=ae (v:=.int .i64 8) aA.out 0 rfl;have ux:=af aA.out 0;have p1:=ae (v:=.bool false) aA.out 1 rfl;have uw:=af aA.out 1;have p2:=ae (v:=.slice none 0 0) aA.out 2 rfl;have uv:=af aA.out 2;have p3:=ae (v:=.string ⟨#[]⟩) aA.out 3 rfl;have uu:=af aA.out 3
   have p4:=ae (v:=.slice none 0 0) aA.out 4 rfl;have ur:=af aA.out 4;replace bz:=aa (aq bz.out hby.out.size);go_upto_region 21 with fail
   clear o0 dU o1 dS o2 dP o3 dO o4 cZ m0 jj m1 ji f0 nK f1 nJ f2 nI f3 nH f4 nG p0 ux p1 uw p2 uv p3 uu p4 ur
   try clear oM
   try clear hr
   rw[show ((⟨#[108]⟩:ByteArray)++⟨#[48]⟩)=⟨#[108,48]⟩ from rfl];have cX:x9.grownBy (x9.setCell ⟨ko,3,none⟩ (.string ⟨#[108,48]⟩)) (some ko):=by refine aI ?_ _;exact aJ _ _
   have eL:(x9.setCell ⟨ko,3,none⟩ (.string ⟨#[108,48]⟩)).heap[ko]?=_:=(aF _ ko 3 _ _ (.string ⟨#[108,48]⟩) aA.out)
   obtain⟨W2,jN⟩:∃ q,q=x9.setCell ⟨ko,3,none⟩ (.string ⟨#[108,48]⟩):=⟨_,rfl⟩
   rw[<-jN] at cX eL ⊢;have hfo:Fr 29 x9 W2:=.aN cX (fun j hj=>by injection hj with hj;subst hj;exact⟨_,aA.out,b_⟩);replace HW:=aa (aS HW.out cX j9.out);replace HC:=aa (HC.out.fr hfo);replace aj:=aa ((cX.block _ (ag aj.out) (fun e=>by injection e with e;exact cB.out.1 e)).trans aj.out);replace bX:=aa ((cX.block _ (ag bX.out) (fun e=>by injection e with e;exact cB.out.2.1 e)).trans bX.out);replace aD:=aa ((cX.block _ (ag aD.out) (fun e=>by injection e with e;exact cB.out.2.2 e)).trans aD.out);have fU:Hid (W1.heap.size<=W2.heap.size):=aa (aq bz.out cX.size);replace aA:=aa eL;clear cX eL jN hfo bz;have bz:=fU;clear fU
   have HT:Hid (ir w W1.heap.size kf kd kr ko ⟨xo,xb,ew,xl,xc,ek,eH,dV,dW⟩ ((d:Nat)+1) 8 false none 0 0 (⟨#[108,48]⟩) (0) d [] (.slice none 0 0) [] W2):=aa (ir.zero aA.out aj.out bX.out aD.out (qi _) iG.out cB.out j9.out HW.out bz.out);have o0:=ae (v:=.int .i64 8) aA.out 0 rfl;have dU:=af aA.out 0;have o1:=ae (v:=.bool false) aA.out 1 rfl;have dS:=af aA.out 1;have o2:=ae (v:=.slice none 0 0) aA.out 2 rfl;have dP:=af aA.out 2;have o3:=ae (v:=.string ⟨#[108,48]⟩) aA.out 3 rfl;have dO:=af aA.out 3;have o4:=ae (v:=.slice none 0 0) aA.out 4 rfl;have cZ:=af aA.out 4;obtain⟨⟨r0,r1,r2,r3,r4⟩,gT,gS,iF,iE,iD⟩:=aV aD.out;go_wp2_with fail
   clear o0 dU o1 dS o2 dP o3 dO o4 cZ;have hg:=aY (w:=W2) (k:=kr) (.int .i64 8) (.bool false) (.slice none 0 0) (.string ⟨#[108,48]⟩) (.slice none 0 0);have hf:Fr 29 W2 _:=.aN hg (fun j hj=>by injection hj with hj;subst hj;exact⟨_,aD.out,b_⟩);obtain⟨h1,h2,h3,h4⟩:=HT.out.fin hg hf (by unfold IR;decide) jE.out lW.out (by unfold fY;simp) (eE (by decide)) (fun _ _ _=>rfl) (by simp) (rfl)
   (try simp only[aE,aM])
   exact aB (v:=.agg #[.int .i64 8,.bool false,.slice none 0 0,.string ⟨#[108,48]⟩,.slice none 0 0]) (by simp[results,aX,go_sem,r0,r1,r2,r3,r4]) rfl ⟨_,_,rfl,h1,h2,rfl,h3,h4⟩
  have o0:=ae (v:=.int .i64 8) aA.out 0 rfl;have dU:=af aA.out 0;have o1:=ae (v:=.bool false) aA.out 1 rfl;have dS:=af aA.out 1;have o2:=ae (v:=.slice none 0 0) aA.out 2 rfl;have dP:=af aA.out 2;have o3:=ae (v:=.string ⟨#[]⟩) aA.out 3 rfl;have dO:=af aA.out 3;have o4:=ae (v:=.slice none 0 0) aA.out 4 rfl;have cZ:=af aA.out 4;have m0:=ae (v:=.bool zb) cY.out 0 rfl;have jj:=af cY.out 0;have m1:=ae (v:=.slice zo zl zc) cY.out 1 rfl;have ji:=af cY.out 1;have f0:=ae (v:=.int .i64 xo) aj.out 0 rfl;have nK:=af aj.out 0;have f1:=ae (v:=.bool xb) aj.out 1 rfl;have nJ:=af aj.out 1;have f2:=ae (v:=.slice ew xl xc) aj.out 2 rfl;have nI:=af aj.out 2;have f3:=ae (v:=.string ek) aj.out 3 rfl
  have nH:=af aj.out 3;have f4:=ae (v:=.slice eH dV dW) aj.out 4 rfl;have nG:=af aj.out 4;have oM:=gj 49 49 (by decide) W1;obtain⟨x9,ky,ey,oB,hby,tw,iu⟩:=aL W1 #[.int .u8 49] 5;replace aj:=aG hby.out aj;replace bX:=aG hby.out bX;replace aD:=aG hby.out aD;replace aA:=aG hby.out aA;replace cY:=aG hby.out cY;replace HW:=aa (HW.out.trans (hby.out.mono HW.out.size));replace HC:=aa (HC.out.below hby.out);rw[ey,oB] at oM;have p0:=ae (v:=.int .i64 8) aA.out 0 rfl;have ux:=af aA.out 0;have p1:=ae (v:=.bool false) aA.out 1 rfl;have uw:=af aA.out 1;have p2:=ae (v:=.slice none 0 0) aA.out 2 rfl;have uv:=af aA.out 2;have p3:=ae (v:=.string ⟨#[]⟩) aA.out 3 rfl;have uu:=af aA.out 3
  have p4:=ae (v:=.slice none 0 0) aA.out 4 rfl;have ur:=af aA.out 4;replace bz:=aa (aq bz.out hby.out.size);go_upto_region 21 with fail
  clear o0 dU o1 dS o2 dP o3 dO o4 cZ m0 jj m1 ji f0 nK f1 nJ f2 nI f3 nH f4 nG p0 ux p1 uw p2 uv p3 uu p4 ur
  try clear oM
  try clear hr
  rw[show ((⟨#[108]⟩:ByteArray)++⟨#[49]⟩)=⟨#[108,49]⟩ from rfl];have cX:x9.grownBy (x9.setCell ⟨ko,3,none⟩ (.string ⟨#[108,49]⟩)) (some ko):=by refine aI ?_ _;exact aJ _ _
  have eL:(x9.setCell ⟨ko,3,none⟩ (.string ⟨#[108,49]⟩)).heap[ko]?=_:=(aF _ ko 3 _ _ (.string ⟨#[108,49]⟩) aA.out)
  obtain⟨W2,jN⟩:∃ q,q=x9.setCell ⟨ko,3,none⟩ (.string ⟨#[108,49]⟩):=⟨_,rfl⟩
  rw[<-jN] at cX eL ⊢;have hfo:Fr 29 x9 W2:=.aN cX (fun j hj=>by injection hj with hj;subst hj;exact⟨_,aA.out,b_⟩);replace HW:=aa (aS HW.out cX j9.out);replace HC:=aa (HC.out.fr hfo);replace aj:=aa ((cX.block _ (ag aj.out) (fun e=>by injection e with e;exact cB.out.1 e)).trans aj.out);replace bX:=aa ((cX.block _ (ag bX.out) (fun e=>by injection e with e;exact cB.out.2.1 e)).trans bX.out);replace aD:=aa ((cX.block _ (ag aD.out) (fun e=>by injection e with e;exact cB.out.2.2 e)).trans aD.out);have fU:Hid (W1.heap.size<=W2.heap.size):=aa (aq bz.out cX.size);replace aA:=aa eL;clear cX eL jN hfo bz;have bz:=fU;clear fU
  have HT:Hid (ir w W1.heap.size kf kd kr ko ⟨xo,xb,ew,xl,xc,ek,eH,dV,dW⟩ ((d:Nat)+1) 8 false none 0 0 (⟨#[108,49]⟩) (0) d [] (.slice none 0 0) [] W2):=aa (ir.zero aA.out aj.out bX.out aD.out (qi _) iG.out cB.out j9.out HW.out bz.out);have o0:=ae (v:=.int .i64 8) aA.out 0 rfl;have dU:=af aA.out 0;have o1:=ae (v:=.bool false) aA.out 1 rfl;have dS:=af aA.out 1;have o2:=ae (v:=.slice none 0 0) aA.out 2 rfl;have dP:=af aA.out 2;have o3:=ae (v:=.string ⟨#[108,49]⟩) aA.out 3 rfl;have dO:=af aA.out 3;have o4:=ae (v:=.slice none 0 0) aA.out 4 rfl;have cZ:=af aA.out 4;obtain⟨⟨r0,r1,r2,r3,r4⟩,gT,gS,iF,iE,iD⟩:=aV aD.out;go_wp2_with fail
  clear o0 dU o1 dS o2 dP o3 dO o4 cZ;have hg:=aY (w:=W2) (k:=kr) (.int .i64 8) (.bool false) (.slice none 0 0) (.string ⟨#[108,49]⟩) (.slice none 0 0);have hf:Fr 29 W2 _:=.aN hg (fun j hj=>by injection hj with hj;subst hj;exact⟨_,aD.out,b_⟩);obtain⟨h1,h2,h3,h4⟩:=HT.out.fin hg hf (by unfold IR;decide) jE.out lW.out (by unfold fY;simp) (eE (by decide)) (fun _ _ _=>rfl) (by simp) (rfl)
  (try simp only[aE,aM])
  exact aB (v:=.agg #[.int .i64 8,.bool false,.slice none 0 0,.string ⟨#[108,49]⟩,.slice none 0 0]) (by simp[results,aX,go_sem,r0,r1,r2,r3,r4]) rfl ⟨_,_,rfl,h1,h2,rfl,h3,h4⟩
 ·have fJ:op=9:=kM.out;subst fJ;clear kM;have bz:Hid (W1.heap.size<=W1.heap.size):=aa (ak _);have HT:Hid (ir w W1.heap.size kf kd kr ko ⟨xo,xb,ew,xl,xc,ek,eH,dV,dW⟩ ((d:Nat)+1) 9 false none 0 0 (⟨#[]⟩) (0) d [] (.slice none 0 0) [] W1):=aa (ir.zero aA.out aj.out bX.out aD.out (qi _) iG.out cB.out j9.out HW.out bz.out);have o0:=ae (v:=.int .i64 9) aA.out 0 rfl;have dU:=af aA.out 0;have o1:=ae (v:=.bool false) aA.out 1 rfl;have dS:=af aA.out 1;have o2:=ae (v:=.slice none 0 0) aA.out 2 rfl;have dP:=af aA.out 2;have o3:=ae (v:=.string ⟨#[]⟩) aA.out 3 rfl;have dO:=af aA.out 3;have o4:=ae (v:=.slice none 0 0) aA.out 4 rfl;have cZ:=af aA.out 4;obtain⟨⟨r0,r1,r2,r3,r4⟩,gT,gS,iF,iE,iD⟩:=aV aD.out
  go_wp2_with fail
  clear o0 dU o1 dS o2 dP o3 dO o4 cZ;have hg:=aY (w:=W1) (k:=kr) (.int .i64 9) (.bool false) (.slice none 0 0) (.string ⟨#[]⟩) (.slice none 0 0);have hf:Fr 29 W1 _:=.aN hg (fun j hj=>by injection hj with hj;subst hj;exact⟨_,aD.out,b_⟩);obtain⟨h1,h2,h3,h4⟩:=HT.out.fin hg hf (by unfold IR;decide) jE.out lW.out (by unfold fY;simp) (eE (by decide)) (fun _ _ _=>rfl) (by simp) (rfl)
  (try simp only[aE,aM])
  exact aB (v:=.agg #[.int .i64 9,.bool false,.slice none 0 0,.string ⟨#[]⟩,.slice none 0 0]) (by simp[results,aX,go_sem,r0,r1,r2,r3,r4]) rfl ⟨_,_,rfl,h1,h2,rfl,h3,h4⟩
 ·have fJ:op=10:=kM.out;subst fJ;clear kM;have bz:Hid (W1.heap.size<=W1.heap.size):=aa (ak _);have HT:Hid (ir w W1.heap.size kf kd kr ko ⟨xo,xb,ew,xl,xc,ek,eH,dV,dW⟩ ((d:Nat)+1) 10 false none 0 0 (⟨#[]⟩) (0) d [] (.slice none 0 0) [] W1):=aa (ir.zero aA.out aj.out bX.out aD.out (qi _) iG.out cB.out j9.out HW.out bz.out);clear cY;have A0:Hid (W1.heap.size<=W1.heap.size):=aa (ak _);have o0:=ae (v:=.int .i64 10) aA.out 0 rfl;have dU:=af aA.out 0;have o1:=ae (v:=.bool false) aA.out 1 rfl;have dS:=af aA.out 1;have o2:=ae (v:=.slice none 0 0) aA.out 2 rfl;have dP:=af aA.out 2;have o3:=ae (v:=.string ⟨#[]⟩) aA.out 3 rfl;have dO:=af aA.out 3;have o4:=ae (v:=.slice none 0 0) aA.out 4 rfl;have cZ:=af aA.out 4
  go_wp2_with fail
  clear o0 dU o1 dS o2 dP o3 dO o4 cZ;refine (jQ d HD.out uF.out w W1 W1.heap.size kf kd kr ko ⟨xo,xb,ew,xl,xc,ek,eH,dV,dW⟩ HX.out 10 false none 0 0 ⟨#[]⟩ (0) [] _ [] 0 0 (by decide) (by decide) HT.out (by rw[HT.out.len];simp)).mono ?_;rintro e X1 ⟨⟨q0,rfl⟩,t0,v0,tU,hs,ht⟩;replace HT:=aa ht;have nL:=aa hs;clear hs ht;go_wp2_with fail
  refine (jQ d HD.out uF.out w X1 W1.heap.size kf kd kr ko ⟨xo,xb,ew,xl,xc,ek,eH,dV,dW⟩ HX.out 10 false none 0 0 ⟨#[]⟩ (0) ([]++[t0]) _ tU 1 2 (by decide) (by decide) HT.out (by rw[HT.out.len];simp)).mono ?_;rintro e X2 ⟨⟨q1,rfl⟩,t1,v1,CR,hs,ht⟩;replace HT:=aa ht;have AM:=aa hs;clear hs ht;obtain⟨vo,vc,hv,-⟩:=HT.out.row.form;subst hv;obtain⟨N,hN⟩:∃ N,N=CR.length:=⟨_,rfl⟩
  rw[<-hN] at HT;clear hN;replace aA:=aa HT.out.ho;replace aD:=aa HT.out.hr;have o0:=ae (v:=.int .i64 10) aA.out 0 rfl;have dU:=af aA.out 0;have o1:=ae (v:=.bool false) aA.out 1 rfl;have dS:=af aA.out 1;have o2:=ae (v:=.slice none 0 0) aA.out 2 rfl;have dP:=af aA.out 2;have o3:=ae (v:=.string ⟨#[]⟩) aA.out 3 rfl;have dO:=af aA.out 3;have o4:=ae (v:=.slice vo N vc) aA.out 4 rfl;have cZ:=af aA.out 4;obtain⟨⟨r0,r1,r2,r3,r4⟩,gT,gS,iF,iE,iD⟩:=aV aD.out;go_wp2_with fail
  clear o0 dU o1 dS o2 dP o3 dO o4 cZ;have hg:=aY (w:=X2) (k:=kr) (.int .i64 10) (.bool false) (.slice none 0 0) (.string ⟨#[]⟩) (.slice vo N vc);have hf:Fr 29 X2 _:=.aN hg (fun j hj=>by injection hj with hj;subst hj;exact⟨_,aD.out,b_⟩);obtain⟨h1,h2,h3,h4⟩:=HT.out.fin hg hf (by unfold IR;decide) jE.out lW.out (by unfold fY;simp) (eE (by decide)) (fun _ _ _=>rfl) (by simp) (by simp[cO,bB,fP,nL.out,AM.out])
  (try simp only[aE,aM])
  exact aB (v:=.agg #[.int .i64 10,.bool false,.slice none 0 0,.string ⟨#[]⟩,.slice vo N vc]) (by simp[results,aX,go_sem,r0,r1,r2,r3,r4]) rfl ⟨_,_,rfl,h1,h2,rfl,h3,h4⟩
 have fJ:op=11:=kM.out;subst fJ;clear kM;have bz:Hid (W1.heap.size<=W1.heap.size):=aa (ak _);have HT:Hid (ir w W1.heap.size kf kd kr ko ⟨xo,xb,ew,xl,xc,ek,eH,dV,dW⟩ ((d:Nat)+1) 11 false none 0 0 (⟨#[]⟩) (0) d [] (.slice none 0 0) [] W1):=aa (ir.zero aA.out aj.out bX.out aD.out (qi _) iG.out cB.out j9.out HW.out bz.out);clear cY;have A0:Hid (W1.heap.size<=W1.heap.size):=aa (ak _);have o0:=ae (v:=.int .i64 11) aA.out 0 rfl;have dU:=af aA.out 0;have o1:=ae (v:=.bool false) aA.out 1 rfl;have dS:=af aA.out 1;have o2:=ae (v:=.slice none 0 0) aA.out 2 rfl;have dP:=af aA.out 2;have o3:=ae (v:=.string ⟨#[]⟩) aA.out 3 rfl;have dO:=af aA.out 3;have o4:=ae (v:=.slice none 0 0) aA.out 4 rfl;have cZ:=af aA.out 4
 go_wp2_with fail
 clear o0 dU o1 dS o2 dP o3 dO o4 cZ;refine (jQ d HD.out uF.out w W1 W1.heap.size kf kd kr ko ⟨xo,xb,ew,xl,xc,ek,eH,dV,dW⟩ HX.out 11 false none 0 0 ⟨#[]⟩ (0) [] _ [] 0 2 (by decide) (by decide) HT.out (by rw[HT.out.len];simp)).mono ?_;rintro e X1 ⟨⟨q0,rfl⟩,t0,v0,tU,hs,ht⟩;replace HT:=aa ht;have nL:=aa hs;clear hs ht;obtain⟨vo,vc,hv,-⟩:=HT.out.row.form;subst hv;obtain⟨N,hN⟩:∃ N,N=tU.length:=⟨_,rfl⟩
 rw[<-hN] at HT;clear hN;replace aA:=aa HT.out.ho;replace aD:=aa HT.out.hr;have o0:=ae (v:=.int .i64 11) aA.out 0 rfl;have dU:=af aA.out 0;have o1:=ae (v:=.bool false) aA.out 1 rfl;have dS:=af aA.out 1;have o2:=ae (v:=.slice none 0 0) aA.out 2 rfl;have dP:=af aA.out 2;have o3:=ae (v:=.string ⟨#[]⟩) aA.out 3 rfl;have dO:=af aA.out 3;have o4:=ae (v:=.slice vo N vc) aA.out 4 rfl;have cZ:=af aA.out 4;obtain⟨⟨r0,r1,r2,r3,r4⟩,gT,gS,iF,iE,iD⟩:=aV aD.out;go_wp2_with fail
 clear o0 dU o1 dS o2 dP o3 dO o4 cZ;have hg:=aY (w:=X1) (k:=kr) (.int .i64 11) (.bool false) (.slice none 0 0) (.string ⟨#[]⟩) (.slice vo N vc);have hf:Fr 29 X1 _:=.aN hg (fun j hj=>by injection hj with hj;subst hj;exact⟨_,aD.out,b_⟩);obtain⟨h1,h2,h3,h4⟩:=HT.out.fin hg hf (by unfold IR;decide) jE.out lW.out (by unfold fY;simp) (eE (by decide)) (fun _ _ _=>rfl) (by simp) (by simp[cO,bB,fP,nL.out])
 (try simp only[aE,aM])
 exact aB (v:=.agg #[.int .i64 11,.bool false,.slice none 0 0,.string ⟨#[]⟩,.slice vo N vc]) (by simp[results,aX,go_sem,r0,r1,r2,r3,r4]) rfl ⟨_,_,rfl,h1,h2,rfl,h3,h4⟩
theorem D8:vi 1:=by
 intro s o b ao l c nm ko kl kc w hs h;rcases hs with rfl | rfl | rfl
 ·exact GL o b ao l c nm ko kl kc w h
 ·exact GJ o b ao l c nm ko kl kc w h
 exact GG o b ao l c nm ko kl kc w h
theorem CS (d:Nat) (h1:1<=d) (h2:d<=100) (IT:vi d):vi (d+1):=by
 intro s o b ao l c nm ko kl kc w hs h;rw[show ((d+1:Nat):Int)=(d:Int)+1 from Int.natCast_succ d];rcases hs with rfl | rfl | rfl
 ·exact GM d h1 h2 IT o b ao l c nm ko kl kc w h
 ·exact GK d h1 h2 IT o b ao l c nm ko kl kc w h
 exact GH d h1 h2 IT o b ao l c nm ko kl kc w h
theorem D9:∀ d:Nat,d<=100->vi (d+1)
 | 0,_=>D8
 | d+1,h=>CS (d+1) (Nat.succ_le_succ (au d)) h (D9 d (by omega))
end Go.Proofs.YtoncclhbdkjhmaaGreatDoor
