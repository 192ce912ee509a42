/-
 Joined texts: LgZb,LgZc,LgZd,LgZe,LgZm,LgU,LgZn,LgBj,ShelfD,LgBk,LgBl,FaN,FaB,FaC,ShelfE,FaD.
-/
import Derived.Shelf.Strings.Builder1
import Derived.Shelf.Small.Utf8
import Derived.Shelf.Small.Bits
import Derived.Shelf.Small.Wraps
import Derived.Shelf.Strings.BuilderF
import Derived.Shelf.Strings.BuilderK
import Derived.Shelf.Utf8.AppendRune
import Derived.Shelf.Utf8.AppendRunePlain
import Derived.Shelf.Strconv.Bsearch
import Derived.Shelf.Strconv.IsPrint
import Derived.Shelf.Strconv.IsPrint16
import Derived.Shelf.Strconv.IsPrint32
import Derived.Shelf.Strconv.Escaped
import Derived.Shelf.Strconv.Quoted
import Derived.Shelf.Strconv.Quote
import Derived.Shelf.Strconv.Itoa0
import Derived.Shelf.Strconv.Itoa1
import Derived.Shelf.LaysM
import Derived.Shelf.Strconv.Itoa2
import Derived.Shelf.Strconv.Itoa3
import Derived.Shelf.Unicode.Decode
import Derived.Shelf.Unicode.DecodeSlow
import Derived.Shelf.Unicode.DecodeAny
import Derived.Shelf.Strings.BuilderCap
import Derived.Shelf.Slices.Turned
import Derived.Ground.Names2Prog
import Derived.Shelf.Slices.SearchI
import Derived.Test.YtoncclhbdkjhmaaGreatDoorProg
import Derived.Carry
import Derived.Test.YtoncclhbdkjhmaaGreatDoorJFactsGrow3
import Derived.Test.YtoncclhbdkjhmaaGreatDoorJFactsGrow4
set_option maxHeartbeats 32000000
open Go renaming lt_of_block→ae,World→af,Value→ak,heap_setCell_same→aA,bodyPost_ret→aJ,Calls→aV
open Go.Exit renaming inBlock→aN,«then»→bx
open Go.Lib renaming hid→aa
open Go.Proofs.Tryz renaming prog→aj,results13→aQ
open Go.RowKit renaming Below→aB,intOf→eT
open Go.RowKit.Below renaming refl→ax
open Go.World.grownBy renaming refl→aE
open Int renaming ofNat_tmod→oz
open List renaming not_mem_nil→aK,mem_cons→aP,mem_singleton→aX,length_take→bD,getElem_mem→bS,length_set→cP,length_map→cQ,getElem_map→fg,length_replicate→fX,map_congr_left→ud,getElem_set_self→CE
open Nat renaming le_refl→ag,zero_le→ah,le_trans→ai,not_lt_zero→an,lt_of_lt_of_le→az,mod_lt→ig,le_of_lt→CD
namespace Go.Proofs.YtoncclhbdkjhmaaGreatDoor
open Go.RowKit
set_option maxRecDepth 100000
set_option linter.unusedVariables false
set_option linter.unusedSimpArgs false
def rH (j:Nat):Int:=[(1:Int),(0:Int),(2:Int),(3:Int),(4:Int),(5:Int),(6:Int),(7:Int)].getD j 0
theorem Gi (d:Nat) (Io:1<=d) (hd:d<=100) (IT:rS d) (xo:Int) (xb:Bool) (eB:Option Addr) (xl xc:Nat) (eA:ByteArray) (eI:Option Addr) (d_ ei:Nat) (w:af) (hx:ld w (d+1) ⟨xo,xb,eB,xl,xc,eA,eI,d_,ei⟩) :
  aV aj 13 #[.agg #[.int .i64 xo,.bool xb,.slice eB xl xc,.string eA,.slice eI d_ ei],.int .i64 0,.int .i64 ((d:Nat)+1:Int)] w (jA (d+1) 0 w):=by
 have HX:=aa hx;have rj:=aa IT;have HD:=aa hd;have N5:decide (((d:Nat)+1:Int)<=1)=false:=by simp;omega
 clear IT Io hd;obtain⟨-,hn,-,⟨iA,eR⟩,-⟩:=hx;simp only at hn iA eR;have Hw:ei<=9223372036854775807:=eR;obtain⟨m,hm⟩:∃ m,m=min xl 2:=⟨_,rfl⟩;have hmin:min (xl:Int) 2=(m:Int):=by omega
 have yV:m<=2:=by omega
 have hml:m<=xl:=by omega
 have uj:∃ q,GN w (.slice eB m xc) q 2/\xl<=xc/\xc<=9223372036854775807:=by
  obtain⟨xs,hs,Cb⟩:=hn;have hl:=pL hs;obtain⟨_,_,e,h1,h2,_⟩:=id hs;injection e with e1 e2 e3;subst e3;exact⟨_,⟨xs.take m,hs.take m (by omega),Cb.take m,rfl,by rw[bD];omega⟩,by omega,h2⟩
 obtain⟨q,hq,hlc,hc⟩:=uj;have Ia:m<=xc:=by omega
 have HG:=aa hq;clear hq hn hm eR;obtain⟨K,hK,Ep⟩:=oO xo;obtain⟨j,hj⟩:∃ j,j=K % 8:=⟨_,rfl⟩;have zV:((K:Nat):Int).tmod 8=((j:Nat):Int):=by rw[hj];exact (oz K 8).symm
 have N0:j<8:=by rw[hj];exact ig _ (by decide)
 clear hj Ep;have HW:=aa (ax w.heap.size w);go_enter Tryz.func13,Tryz.ntmps13;obtain⟨x1,kf,ef,ki,cn,jC,aG⟩:=aW w #[.int .i64 xo,.bool xb,.slice eB xl xc,.string eA,.slice eI d_ ei] 29;replace HW:=aa (HW.out.trans (cn.out.mono HW.out.size));replace HG:=aa (HG.out.below cn.out);obtain⟨x2,kd,ed,OC,hbd,wA,bN⟩:=aW x1 #[.int .i64 ((d:Nat)+1:Int)] 3;replace aG:=bM hbd.out aG;replace HW:=aa (HW.out.trans (hbd.out.mono HW.out.size));replace HG:=aa (HG.out.below hbd.out);obtain⟨x3,kr,er,sG,eY,lj,aR⟩:=aW x2 #[.int .i64 0,.bool false,.slice none 0 0,.string ⟨#[]⟩,.slice none 0 0] 29;replace aG:=bM eY.out aG;replace bN:=bM eY.out bN;replace HW:=aa (HW.out.trans (eY.out.mono HW.out.size));replace HG:=aa (HG.out.below eY.out)
 have mh:Hid (w.heap.size<=kr):=aa (by have h1:=cn.out.size;have h2:=hbd.out.size;have h3:=lj.out;omega);obtain⟨x4,kp,ep,OB,nI,hkp,qG⟩:=aW x3 #[.int .i64 1,.int .i64 0,.int .i64 2,.int .i64 3,.int .i64 4,.int .i64 5,.int .i64 6,.int .i64 7] 22;replace aG:=bM nI.out aG;replace bN:=bM nI.out bN;replace aR:=bM nI.out aR;replace HW:=aa (HW.out.trans (nI.out.mono HW.out.size));replace HG:=aa (HG.out.below nI.out);obtain⟨x5,kq,eq,yY,gu,qw,mz⟩:=aW x4 #[.int .i64 14,.int .i64 12,.int .i64 13,.int .i64 15,.int .i64 16,.int .i64 16,.int .i64 17,.int .i64 18,.int .i64 19,.int .i64 20] 22;replace aG:=bM gu.out aG;replace bN:=bM gu.out bN;replace aR:=bM gu.out aR;replace qG:=bM gu.out qG;replace HW:=aa (HW.out.trans (gu.out.mono HW.out.size))
 replace HG:=aa (HG.out.below gu.out);obtain⟨x6,kt,et,Iz,ir,lZ,wY⟩:=aW x5 #[.int .i64 8,.int .i64 9,.int .i64 10,.int .i64 11] 22;replace aG:=bM ir.out aG;replace bN:=bM ir.out bN;replace aR:=bM ir.out aR;replace qG:=bM ir.out qG;replace HW:=aa (HW.out.trans (ir.out.mono HW.out.size));replace HG:=aa (HG.out.below ir.out);have hidx:=D5 (some ⟨kp,0,none⟩) (some ⟨kq,0,none⟩) (some ⟨kt,0,none⟩) 8 10 4 8 10 4;obtain⟨⟨f0,f1,f2,f3,f4⟩,kZ,kY,kX,kW,kV⟩:=ay aG.out;have d0:=aq (v:=.int .i64 ((d:Nat)+1:Int)) bN.out 0 rfl;have yX:=aY bN.out 0;have hop:x6.cell? ⟨kp,j,none⟩=some (.int .i64 (rH j)):=by
  have:j=0\/j=1\/j=2\/j=3\/j=4\/j=5\/j=6\/j=7:=by omega
  rcases this with rfl | rfl | rfl | rfl | rfl | rfl | rfl | rfl<;>exact aq qG.out _ rfl
 obtain⟨op,kJ⟩:∃ op,op=rH j:=⟨_,rfl⟩;rw[<-kJ] at hop;have gF:=aa kJ;clear kJ;go_upto_region 7 with fail;clear f0 kZ f1 kY f2 kX f3 kW f4 kV d0 yX hop;clear hidx zV hK;have ET:=HW;have tZ:=aG;have t_:=bN;have tY:=aR;obtain⟨x7,ko,eo,yy,eM,B8,bG⟩:=aW x6 #[.int .i64 op,.bool false,.slice none 0 0,.string ⟨#[]⟩,.slice none 0 0] 29;replace aG:=bM eM.out aG;replace bN:=bM eM.out bN;replace aR:=bM eM.out aR;replace HW:=aa (HW.out.trans (eM.out.mono HW.out.size));replace HG:=aa (HG.out.below eM.out);rw[eo,yy];have gS:Hid (w.heap.size<=ko):=aa (by have:=ET.out.size;have:=B8.out;omega);go_upto_region 8 with fail;have HY:=aa (ax x7.heap.size x7);have mj:=aG;have mo:=bN;have ow:=aR;have iD:=bG
 have dS:=ae aG.out;have fO:Hid (∀ q,q<0->(fun q=>0) q<x7.heap.size):=aa (fun q h=>absurd h (an _));refine R7.region (by kernel_rfl) [[],[0],[0,1],[],[3],[3,4],[],[6],[6,7],[6,7,8],[6,7,8,9],[3,4,5,6,7,8,9,10],[0,1,2,3,4,5,6,7,8,9,10,11],[],[0,1,2,3,4,5,6,7,8,9,10,11,12,13]] [] [] (fun q=>0) 0 14 (by kernel_rfl) (by kernel_rfl) (by rfl) fO.out (fun q q' h h' hn=>absurd hn (by omega)) ?_;refine R7.aF.dL ?_ (by rfl) (fun T xs wr hA=>?_) ?_;rotate_left 1
 ·have e3:=hA.pre 3 (by kernel_rfl);simp only[kM,lO,lF] at e3;clear hA;refine⟨(by rfl),?_⟩;go_simp<;>(try with_reducible rfl)
 refine R7.aF.dL ?_ (by rfl) (fun T xs wr hA=>?_) ?_;rotate_left 1
 ·have Bo:=hA.tm 0 36 (by rfl) (by rfl);have f36:xs 0=_:=hA.fa 0 (by rfl);(try simp (disch:=first | rfl | decide) only [R7.au] at f36);rw[f36] at Bo;clear f36;clear hA;refine⟨(by rfl),?_⟩;go_simp<;>(try with_reducible rfl)
 refine R7.aF.dL ?_ (by rfl) (fun T xs wr hA=>?_) ?_;rotate_left 1
 ·have yA:=hA.tm 1 37 (by rfl) (by rfl);have f37:xs 1=_:=hA.fa 1 (by rfl);(try simp (disch:=first | rfl | decide) only [R7.au] at f37);rw[f37] at yA;clear f37;have bB:wr.heap[kf]?=_:=(hA.bl _ dS (fun q h=>absurd h (an _))).trans aG.out;have q0:=aq (v:=.int .i64 xo) bB 0 rfl;have q1:=aq (v:=.bool xb) bB 1 rfl;have q2:=aq (v:=.slice eB xl xc) bB 2 rfl;have q3:=aq (v:=.string eA) bB 3 rfl;have q4:=aq (v:=.slice eI d_ ei) bB 4 rfl;clear bB;clear hA;refine⟨(by rfl),?_⟩;go_simp<;>(try with_reducible rfl)
 refine R7.aF.dL ?_ (by rfl) (fun T xs wr hA=>?_) ?_;rotate_left 1
 ·have e3:=hA.pre 3 (by kernel_rfl);simp only[kM,lO,lF] at e3;clear hA;refine⟨(by rfl),?_⟩;go_simp<;>(try with_reducible rfl)
 refine R7.aF.dL ?_ (by rfl) (fun T xs wr hA=>?_) ?_;rotate_left 1
 ·have vv:=hA.tm 3 39 (by rfl) (by rfl);have f39:xs 3=_:=hA.fa 3 (by rfl);(try simp (disch:=first | rfl | decide) only [R7.au] at f39);rw[f39] at vv;clear f39;clear hA;refine⟨(by rfl),?_⟩;go_simp<;>(try with_reducible rfl)
 refine R7.aF.dL ?_ (by rfl) (fun T xs wr hA=>?_) ?_;rotate_left 1
 ·have uz:=hA.tm 4 40 (by rfl) (by rfl);have f40:xs 4=_:=hA.fa 4 (by rfl);(try simp (disch:=first | rfl | decide) only [R7.au] at f40);rw[f40] at uz;clear f40;have bB:wr.heap[kf]?=_:=(hA.bl _ dS (fun q h=>absurd h (an _))).trans aG.out;have q0:=aq (v:=.int .i64 xo) bB 0 rfl;have q1:=aq (v:=.bool xb) bB 1 rfl;have q2:=aq (v:=.slice eB xl xc) bB 2 rfl;have q3:=aq (v:=.string eA) bB 3 rfl;have q4:=aq (v:=.slice eI d_ ei) bB 4 rfl;clear bB;clear hA;refine⟨(by rfl),?_⟩;go_simp<;>(try with_reducible rfl)
 refine R7.aF.dL ?_ (by rfl) (fun T xs wr hA=>?_) ?_;rotate_left 1
 ·have e3:=hA.pre 3 (by kernel_rfl);simp only[kM,lO,lF] at e3;clear hA;refine⟨(by rfl),?_⟩;go_simp<;>(try with_reducible rfl)
 refine R7.aF.dL ?_ (by rfl) (fun T xs wr hA=>?_) ?_;rotate_left 1
 ·have xg:=hA.tm 6 42 (by rfl) (by rfl);have f42:xs 6=_:=hA.fa 6 (by rfl);(try simp (disch:=first | rfl | decide) only [R7.au] at f42);rw[f42] at xg;clear f42;clear hA;refine⟨(by rfl),?_⟩;go_simp<;>(try with_reducible rfl)
 refine R7.aF.dL ?_ (by rfl) (fun T xs wr hA=>?_) ?_;rotate_left 1
 ·have uK:=hA.tm 7 43 (by rfl) (by rfl);have f43:xs 7=_:=hA.fa 7 (by rfl);(try simp (disch:=first | rfl | decide) only [R7.au] at f43);rw[f43] at uK;clear f43;have bB:wr.heap[kf]?=_:=(hA.bl _ dS (fun q h=>absurd h (an _))).trans aG.out;have q0:=aq (v:=.int .i64 xo) bB 0 rfl;have q1:=aq (v:=.bool xb) bB 1 rfl;have q2:=aq (v:=.slice eB xl xc) bB 2 rfl;have q3:=aq (v:=.string eA) bB 3 rfl;have q4:=aq (v:=.slice eI d_ ei) bB 4 rfl;clear bB;clear hA;refine⟨(by rfl),?_⟩;go_simp<;>(try with_reducible rfl)
 refine R7.aF.dL ?_ (by rfl) (fun T xs wr hA=>?_) ?_;rotate_left 1
 ·have wG:=hA.tm 8 44 (by rfl) (by rfl);have f44:xs 8=_:=hA.fa 8 (by rfl);(try simp (disch:=first | rfl | decide) only [R7.au] at f44);rw[f44] at wG;clear f44;clear hA;refine⟨(by rfl),?_⟩;go_simp<;>(try with_reducible rfl)
 refine R7.aF.dL ?_ (by rfl) (fun T xs wr hA=>?_) ?_;rotate_left 1
 ·have Bn:=hA.tm 9 45 (by rfl) (by rfl);have f45:xs 9=_:=hA.fa 9 (by rfl);(try simp (disch:=first | rfl | decide) only [R7.au] at f45);rw[f45] at Bn;clear f45;clear hA;refine⟨(by rfl),?_⟩;go_simp<;>(try with_reducible rfl)
 refine R7.aF.dL ?_ (by rfl) (fun T xs wr hA=>?_) ?_;rotate_left 1
 ·have xh:=hA.tm 5 41 (by rfl) (by rfl);have f41:xs 5=_:=hA.fa 5 (by rfl);(try simp (disch:=first | rfl | decide) only [R7.au] at f41);rw[f41] at xh;clear f41;have Ao:=hA.tm 10 46 (by rfl) (by rfl);have f46:xs 10=_:=hA.fa 10 (by rfl);(try simp (disch:=first | rfl | decide) only [R7.au] at f46);rw[f46] at Ao;clear f46;clear hA;refine⟨(by rfl),?_⟩;go_simp<;>(try with_reducible rfl)
 refine R7.aF.call (fun xs v w=>∃ z,CI w v z 2) (fun _ _ _ _ h hb=>by obtain⟨z,h2⟩:=h;exact⟨z,h2.below hb⟩) (fun _ _ _ _ _ _ h _=>by obtain⟨q,hq,_⟩:=h;exact absurd hq (an _)) (by rfl) (fun T xs wr hA=>?_) ?_
 ·have nH:=(hA.be 0 (ah _) (fun _ _=>ah _)).size;have yz:=hA.tm 2 38 (by rfl) (by rfl);have f38:xs 2=_:=hA.fa 2 (by rfl);(try simp (disch:=first | rfl | decide) only [R7.au] at f38);rw[f38] at yz;clear f38;have Bm:=hA.tm 11 47 (by rfl) (by rfl);have f47:xs 11=_:=hA.fa 11 (by rfl);(try simp (disch:=first | rfl | decide) only [R7.au] at f47);rw[f47] at Bm;clear f47;have gq:=ck (hA.be x7.heap.size (ag _) (fun q h=>absurd h (an q)));clear hA;refine⟨(by rfl),fun K hK=>?_⟩;go_simp;refine (mY xb _ q 2 wr (HG.out.below gq) (by decide)).mono ?_;rintro e w' ⟨v,rfl,hc,hb'⟩;exact hK.out _ _ ⟨_,hc⟩ hb'
 refine R7.aF.call (fun xs v w=>∃ g,v=.pointer (some ⟨g,0,none⟩)/\x7.heap.size<=g/\w.heap[g]?=some (.cells #[.bool false,.slice none 0 0] 26 (0,0))) (fun _ _ _ _ h hb=>by obtain⟨g,h1,h2,h3⟩:=h;exact⟨g,h1,h2,by rw[hb.block g (ae h3)];exact h3⟩) (fun _ _ _ _ _ _ h _=>by obtain⟨q,hq,_⟩:=h;exact absurd hq (an _)) (by rfl) (fun T xs wr hA=>?_) ?_
 ·have nH:=(hA.be 0 (ah _) (fun _ _=>ah _)).size;have gq:=ck (hA.be x7.heap.size (ag _) (fun q h=>absurd h (an q)));clear hA;refine⟨(by rfl),fun K hK=>?_⟩;go_simp;exact hK.out _ _ ⟨_,rfl,gq.size,iI _ _ _ rfl⟩ ((ax _ _).alloc (ag _) _)
 refine R7.aF.done (fun xs x8 hL=>?_);obtain⟨⟨iB,cS⟩,hf,-,-⟩:=hL;have f0:xs 0=_:=hf 0 (by decide);(try simp (disch:=first | rfl | decide) only [R7.au] at f0);have f1:xs 1=_:=hf 1 (by decide);(try simp (disch:=first | rfl | decide) only [R7.au] at f1);have f2:xs 2=_:=hf 2 (by decide);(try simp (disch:=first | rfl | decide) only [R7.au] at f2);have f3:xs 3=_:=hf 3 (by decide);(try simp (disch:=first | rfl | decide) only [R7.au] at f3);have f4:xs 4=_:=hf 4 (by decide);(try simp (disch:=first | rfl | decide) only [R7.au] at f4);have f5:xs 5=_:=hf 5 (by decide);(try simp (disch:=first | rfl | decide) only [R7.au] at f5);have f6:xs 6=_:=hf 6 (by decide);(try simp (disch:=first | rfl | decide) only [R7.au] at f6);have f7:xs 7=_:=hf 7 (by decide)
 (try simp (disch:=first | rfl | decide) only [R7.au] at f7);have f8:xs 8=_:=hf 8 (by decide);(try simp (disch:=first | rfl | decide) only [R7.au] at f8);have f9:xs 9=_:=hf 9 (by decide);(try simp (disch:=first | rfl | decide) only [R7.au] at f9);have f10:xs 10=_:=hf 10 (by decide);(try simp (disch:=first | rfl | decide) only [R7.au] at f10);have f11:xs 11=_:=hf 11 (by decide);(try simp (disch:=first | rfl | decide) only [R7.au] at f11);have Fl:∃ z,CI x8 (xs 12) z 2:=hf 12 (by decide);have Fj:∃ g,(xs 13)=.pointer (some ⟨g,0,none⟩)/\x7.heap.size<=g/\x8.heap[g]?=some (.cells #[.bool false,.slice none 0 0] 26 (0,0)):=hf 13 (by decide);have hb0:aB 0 x7 x8:=ck (iB 0 (ah _) (fun _ _=>ah _))
 have jl:∀ j,j<x7.heap.size->(∀ q,q<0->(fun q=>0) q≠j)->x8.heap[j]?=x7.heap[j]?:=cS;clear iB cS hf;have hb:aB x7.heap.size x7 x8:=⟨hb0.os,hb0.tape,hb0.output,hb0.size,fun q hq=>jl q hq (fun q h=>absurd h (an _))⟩;refine R7.ji (by decide) (by kernel_rfl) ?_;simp only[R7.fill,Gp,Gn,Gm,Gl,AU,AT,AS,f0,f1,f2,f3,f4,f5,f6,f7,f8,f9,f10,f11];clear hb0 jl fO dS f0 f1 f2 f3 f4 f5 f6 f7 f8 f9 f10 f11;replace aG:=bM hb aG;replace bN:=bM hb bN;replace aR:=bM hb aR;replace bG:=bM hb bG;replace HW:=aa (HW.out.trans (hb.mono HW.out.size));replace HY:=aa (HY.out.trans (hb.mono HY.out.size));replace hb:=aa hb;obtain⟨z,qF⟩:=Fl;obtain⟨zb,zo,zl,zc,tA⟩:=qF.shape;obtain⟨km,hkm,kL,nZ⟩:=Fj;rw[tA] at qF;rw[tA,hkm]
 have HC:=aa (qF.mono (k':=600) (by decide));have PB:=aa qF.lt;have iE:=aa nZ;clear qF tA hkm nZ;obtain⟨m0,m1,kR,kQ⟩:=cV iE.out;go_upto_region 9 with fail;clear m0 kR m1 kQ;have ic:=lu (w:=x8) (k:=km) (.bool zb) (.slice zo zl zc);have gp:((x8.setCell ⟨km,0,none⟩ (.bool zb)).setCell ⟨km,1,none⟩ (.slice zo zl zc)).heap[km]?=_:=aA _ km 1 _ _ _ (aA _ km 0 _ _ _ iE.out);obtain⟨W1,rO⟩:∃ q,q=(x8.setCell ⟨km,0,none⟩ (.bool zb)).setCell ⟨km,1,none⟩ (.slice zo zl zc):=⟨_,rfl⟩;rw[<-rO] at ic gp ⊢;have sE:Fr 26 x8 W1:=.aI ic (fun j hj=>by injection hj with hj;subst hj;exact⟨_,iE.out,rJ⟩);have Fc:Hid (w.heap.size<=km):=aa (ai (by have:=gS.out;have:=ae iD.out;omega) kL)
 replace HW:=aa (bF HW.out ic Fc.out);replace HY:=aa (bF HY.out ic kL);replace HC:=aa (HC.out.fr sE);replace aG:=aa ((HY.out.block _ (ae mj.out)).trans mj.out);replace bN:=aa ((HY.out.block _ (ae mo.out)).trans mo.out);replace aR:=aa ((HY.out.block _ (ae ow.out)).trans ow.out);replace bG:=aa ((HY.out.block _ (ae iD.out)).trans iD.out);replace iE:=aa gp;clear ic gp rO sE kL;have fM:Hid (kf<W1.heap.size/\kd<W1.heap.size/\kr<W1.heap.size/\ko<W1.heap.size):=aa ⟨ae aG.out,ae bN.out,ae aR.out,ae bG.out⟩
 have cm:Hid (kf≠ko/\kd≠ko/\kr≠ko):=aa (by have h1:=ae tZ.out;have h2:=ae t_.out;have h3:=ae tY.out;rw[yy] at h1 h2 h3;omega);have gA:Hid (w.heap.size<=W1.heap.size):=aa HW.out.size;have Ej:j=0\/j=1\/j=2\/j=3\/j=4\/j=5\/j=6\/j=7:=by omega
 rcases Ej with rfl | rfl | rfl | rfl | rfl | rfl | rfl | rfl
 ·have eE:op=1:=gF.out;subst eE;clear gF;have bh:Hid (W1.heap.size<=W1.heap.size):=aa (ag _);rcases (jh eA.size).1 with hr | hr | hr
  ·obtain⟨⟨o0,o1,o2,o3,o4⟩,c_,cZ,cY,cX,cF⟩:=ay bG.out;obtain⟨m0,m1,kR,kQ⟩:=cV iE.out;obtain⟨⟨f0,f1,f2,f3,f4⟩,kZ,kY,kX,kW,kV⟩:=ay aG.out;have lM:=eU 48 48 (by decide) W1;obtain⟨x9,ky,ey,mb,hby,pU,kA⟩:=aW W1 #[.int .u8 48] 5;replace aG:=bM hby.out aG;replace bN:=bM hby.out bN;replace aR:=bM hby.out aR;replace bG:=bM hby.out bG;replace HW:=aa (HW.out.trans (hby.out.mono HW.out.size));rw[ey,mb] at lM;obtain⟨⟨p0,p1,p2,p3,p4⟩,q7,qZ,qY,qX,qW⟩:=ay bG.out;replace bh:=aa (ai bh.out hby.out.size);go_upto_region 21 with fail;clear o0 c_ o1 cZ o2 cY o3 cX o4 cF m0 kR m1 kQ f0 kZ f1 kY f2 kX f3 kW f4 kV p0 q7 p1 qZ p2 qY p3 qX p4 qW;try clear lM
   try clear hr
   rw[show ((⟨#[105]⟩:ByteArray)++⟨#[48]⟩)=⟨#[105,48]⟩ from rfl];have cC:x9.grownBy (x9.setCell ⟨ko,3,none⟩ (.string ⟨#[105,48]⟩)) (some ko):=by refine aD ?_ _;exact aE _ _
   have eM:(x9.setCell ⟨ko,3,none⟩ (.string ⟨#[105,48]⟩)).heap[ko]?=_:=(aA _ ko 3 _ _ (.string ⟨#[105,48]⟩) bG.out);obtain⟨W2,iX⟩:∃ q,q=x9.setCell ⟨ko,3,none⟩ (.string ⟨#[105,48]⟩):=⟨_,rfl⟩;rw[<-iX] at cC eM ⊢;have hfo:Fr 29 x9 W2:=.aI cC (fun j hj=>by injection hj with hj;subst hj;exact⟨_,bG.out,bO⟩);replace HW:=aa (bF HW.out cC gS.out);replace aG:=aa ((cC.block _ (ae aG.out) (fun e=>by injection e with e;exact cm.out.1 e)).trans aG.out);replace bN:=aa ((cC.block _ (ae bN.out) (fun e=>by injection e with e;exact cm.out.2.1 e)).trans bN.out);replace aR:=aa ((cC.block _ (ae aR.out) (fun e=>by injection e with e;exact cm.out.2.2 e)).trans aR.out)
   have eO:Hid (W1.heap.size<=W2.heap.size):=aa (ai bh.out cC.size);replace bG:=aa eM;clear cC eM iX hfo bh;have bh:=eO;clear eO;have HT:Hid (fL w W1.heap.size kf kd kr ko ⟨xo,xb,eB,xl,xc,eA,eI,d_,ei⟩ ((d:Nat)+1) 1 false none 0 0 (⟨#[105,48]⟩) (0) d [] (.slice none 0 0) [] W2):=aa (fL.zero bG.out aG.out bN.out aR.out (nB _) fM.out cm.out gS.out HW.out bh.out);obtain⟨⟨o0,o1,o2,o3,o4⟩,c_,cZ,cY,cX,cF⟩:=ay bG.out;obtain⟨⟨r0,r1,r2,r3,r4⟩,jU,jT,kP,kO,kN⟩:=ay aR.out;go_wp2_with fail;clear o0 c_ o1 cZ o2 cY o3 cX o4 cF;have hg:=bJ (w:=W2) (k:=kr) (.int .i64 1) (.bool false) (.slice none 0 0) (.string ⟨#[105,48]⟩) (.slice none 0 0)
   have hf:Fr 29 W2 _:=.aI hg (fun j hj=>by injection hj with hj;subst hj;exact⟨_,aR.out,bO⟩);obtain⟨h1,h2,h3,h4⟩:=HT.out.fin hg hf (by unfold IR;decide) gA.out mh.out (by unfold fh;simp) (dr (by decide)) (fun _ _ _=>rfl) (by simp) (rfl);(try simp only[aN,bx]);exact aJ (v:=.agg #[.int .i64 1,.bool false,.slice none 0 0,.string ⟨#[105,48]⟩,.slice none 0 0]) (by simp[results,aQ,go_sem,r0,r1,r2,r3,r4]) rfl ⟨_,_,rfl,h1,h2,rfl,h3,h4⟩
  ·obtain⟨⟨o0,o1,o2,o3,o4⟩,c_,cZ,cY,cX,cF⟩:=ay bG.out;obtain⟨m0,m1,kR,kQ⟩:=cV iE.out;obtain⟨⟨f0,f1,f2,f3,f4⟩,kZ,kY,kX,kW,kV⟩:=ay aG.out;have lM:=eU 49 49 (by decide) W1;obtain⟨x9,ky,ey,mb,hby,pU,kA⟩:=aW W1 #[.int .u8 49] 5;replace aG:=bM hby.out aG;replace bN:=bM hby.out bN;replace aR:=bM hby.out aR;replace bG:=bM hby.out bG;replace HW:=aa (HW.out.trans (hby.out.mono HW.out.size));rw[ey,mb] at lM;obtain⟨⟨p0,p1,p2,p3,p4⟩,q7,qZ,qY,qX,qW⟩:=ay bG.out;replace bh:=aa (ai bh.out hby.out.size);go_upto_region 21 with fail;clear o0 c_ o1 cZ o2 cY o3 cX o4 cF m0 kR m1 kQ f0 kZ f1 kY f2 kX f3 kW f4 kV p0 q7 p1 qZ p2 qY p3 qX p4 qW;try clear lM
   try clear hr
   rw[show ((⟨#[105]⟩:ByteArray)++⟨#[49]⟩)=⟨#[105,49]⟩ from rfl];have cC:x9.grownBy (x9.setCell ⟨ko,3,none⟩ (.string ⟨#[105,49]⟩)) (some ko):=by refine aD ?_ _;exact aE _ _
   have eM:(x9.setCell ⟨ko,3,none⟩ (.string ⟨#[105,49]⟩)).heap[ko]?=_:=(aA _ ko 3 _ _ (.string ⟨#[105,49]⟩) bG.out);obtain⟨W2,iX⟩:∃ q,q=x9.setCell ⟨ko,3,none⟩ (.string ⟨#[105,49]⟩):=⟨_,rfl⟩;rw[<-iX] at cC eM ⊢;have hfo:Fr 29 x9 W2:=.aI cC (fun j hj=>by injection hj with hj;subst hj;exact⟨_,bG.out,bO⟩);replace HW:=aa (bF HW.out cC gS.out);replace aG:=aa ((cC.block _ (ae aG.out) (fun e=>by injection e with e;exact cm.out.1 e)).trans aG.out);replace bN:=aa ((cC.block _ (ae bN.out) (fun e=>by injection e with e;exact cm.out.2.1 e)).trans bN.out);replace aR:=aa ((cC.block _ (ae aR.out) (fun e=>by injection e with e;exact cm.out.2.2 e)).trans aR.out)
   have eO:Hid (W1.heap.size<=W2.heap.size):=aa (ai bh.out cC.size);replace bG:=aa eM;clear cC eM iX hfo bh;have bh:=eO;clear eO;have HT:Hid (fL w W1.heap.size kf kd kr ko ⟨xo,xb,eB,xl,xc,eA,eI,d_,ei⟩ ((d:Nat)+1) 1 false none 0 0 (⟨#[105,49]⟩) (0) d [] (.slice none 0 0) [] W2):=aa (fL.zero bG.out aG.out bN.out aR.out (nB _) fM.out cm.out gS.out HW.out bh.out);obtain⟨⟨o0,o1,o2,o3,o4⟩,c_,cZ,cY,cX,cF⟩:=ay bG.out;obtain⟨⟨r0,r1,r2,r3,r4⟩,jU,jT,kP,kO,kN⟩:=ay aR.out;go_wp2_with fail;clear o0 c_ o1 cZ o2 cY o3 cX o4 cF;have hg:=bJ (w:=W2) (k:=kr) (.int .i64 1) (.bool false) (.slice none 0 0) (.string ⟨#[105,49]⟩) (.slice none 0 0)
   have hf:Fr 29 W2 _:=.aI hg (fun j hj=>by injection hj with hj;subst hj;exact⟨_,aR.out,bO⟩);obtain⟨h1,h2,h3,h4⟩:=HT.out.fin hg hf (by unfold IR;decide) gA.out mh.out (by unfold fh;simp) (dr (by decide)) (fun _ _ _=>rfl) (by simp) (rfl);(try simp only[aN,bx]);exact aJ (v:=.agg #[.int .i64 1,.bool false,.slice none 0 0,.string ⟨#[105,49]⟩,.slice none 0 0]) (by simp[results,aQ,go_sem,r0,r1,r2,r3,r4]) rfl ⟨_,_,rfl,h1,h2,rfl,h3,h4⟩
  obtain⟨⟨o0,o1,o2,o3,o4⟩,c_,cZ,cY,cX,cF⟩:=ay bG.out;obtain⟨m0,m1,kR,kQ⟩:=cV iE.out;obtain⟨⟨f0,f1,f2,f3,f4⟩,kZ,kY,kX,kW,kV⟩:=ay aG.out;have lM:=eU 50 50 (by decide) W1;obtain⟨x9,ky,ey,mb,hby,pU,kA⟩:=aW W1 #[.int .u8 50] 5;replace aG:=bM hby.out aG;replace bN:=bM hby.out bN;replace aR:=bM hby.out aR;replace bG:=bM hby.out bG;replace HW:=aa (HW.out.trans (hby.out.mono HW.out.size));rw[ey,mb] at lM;obtain⟨⟨p0,p1,p2,p3,p4⟩,q7,qZ,qY,qX,qW⟩:=ay bG.out;replace bh:=aa (ai bh.out hby.out.size);go_upto_region 21 with fail;clear o0 c_ o1 cZ o2 cY o3 cX o4 cF m0 kR m1 kQ f0 kZ f1 kY f2 kX f3 kW f4 kV p0 q7 p1 qZ p2 qY p3 qX p4 qW;try clear lM
  try clear hr
  rw[show ((⟨#[105]⟩:ByteArray)++⟨#[50]⟩)=⟨#[105,50]⟩ from rfl];have cC:x9.grownBy (x9.setCell ⟨ko,3,none⟩ (.string ⟨#[105,50]⟩)) (some ko):=by refine aD ?_ _;exact aE _ _
  have eM:(x9.setCell ⟨ko,3,none⟩ (.string ⟨#[105,50]⟩)).heap[ko]?=_:=(aA _ ko 3 _ _ (.string ⟨#[105,50]⟩) bG.out);obtain⟨W2,iX⟩:∃ q,q=x9.setCell ⟨ko,3,none⟩ (.string ⟨#[105,50]⟩):=⟨_,rfl⟩;rw[<-iX] at cC eM ⊢;have hfo:Fr 29 x9 W2:=.aI cC (fun j hj=>by injection hj with hj;subst hj;exact⟨_,bG.out,bO⟩);replace HW:=aa (bF HW.out cC gS.out);replace aG:=aa ((cC.block _ (ae aG.out) (fun e=>by injection e with e;exact cm.out.1 e)).trans aG.out);replace bN:=aa ((cC.block _ (ae bN.out) (fun e=>by injection e with e;exact cm.out.2.1 e)).trans bN.out);replace aR:=aa ((cC.block _ (ae aR.out) (fun e=>by injection e with e;exact cm.out.2.2 e)).trans aR.out)
  have eO:Hid (W1.heap.size<=W2.heap.size):=aa (ai bh.out cC.size);replace bG:=aa eM;clear cC eM iX hfo bh;have bh:=eO;clear eO;have HT:Hid (fL w W1.heap.size kf kd kr ko ⟨xo,xb,eB,xl,xc,eA,eI,d_,ei⟩ ((d:Nat)+1) 1 false none 0 0 (⟨#[105,50]⟩) (0) d [] (.slice none 0 0) [] W2):=aa (fL.zero bG.out aG.out bN.out aR.out (nB _) fM.out cm.out gS.out HW.out bh.out);obtain⟨⟨o0,o1,o2,o3,o4⟩,c_,cZ,cY,cX,cF⟩:=ay bG.out;obtain⟨⟨r0,r1,r2,r3,r4⟩,jU,jT,kP,kO,kN⟩:=ay aR.out;go_wp2_with fail;clear o0 c_ o1 cZ o2 cY o3 cX o4 cF;have hg:=bJ (w:=W2) (k:=kr) (.int .i64 1) (.bool false) (.slice none 0 0) (.string ⟨#[105,50]⟩) (.slice none 0 0)
  have hf:Fr 29 W2 _:=.aI hg (fun j hj=>by injection hj with hj;subst hj;exact⟨_,aR.out,bO⟩);obtain⟨h1,h2,h3,h4⟩:=HT.out.fin hg hf (by unfold IR;decide) gA.out mh.out (by unfold fh;simp) (dr (by decide)) (fun _ _ _=>rfl) (by simp) (rfl);(try simp only[aN,bx]);exact aJ (v:=.agg #[.int .i64 1,.bool false,.slice none 0 0,.string ⟨#[105,50]⟩,.slice none 0 0]) (by simp[results,aQ,go_sem,r0,r1,r2,r3,r4]) rfl ⟨_,_,rfl,h1,h2,rfl,h3,h4⟩
 ·have eE:op=0:=gF.out;subst eE;clear gF;have bh:Hid (W1.heap.size<=W1.heap.size):=aa (ag _);obtain⟨⟨o0,o1,o2,o3,o4⟩,c_,cZ,cY,cX,cF⟩:=ay bG.out;obtain⟨m0,m1,kR,kQ⟩:=cV iE.out;go_upto_region 21 with fail;clear o0 c_ o1 cZ o2 cY o3 cX o4 cF m0 kR m1 kQ;have cC:W1.grownBy ((W1.setCell ⟨ko,1,none⟩ (.bool zb)).setCell ⟨ko,2,none⟩ (.slice zo zl zc)) (some ko):=by refine aD ?_ _;refine aD ?_ _;exact aE _ _
  have eM:((W1.setCell ⟨ko,1,none⟩ (.bool zb)).setCell ⟨ko,2,none⟩ (.slice zo zl zc)).heap[ko]?=_:=(aA _ ko 2 _ _ (.slice zo zl zc) (aA _ ko 1 _ _ (.bool zb) bG.out));obtain⟨W2,iX⟩:∃ q,q=(W1.setCell ⟨ko,1,none⟩ (.bool zb)).setCell ⟨ko,2,none⟩ (.slice zo zl zc):=⟨_,rfl⟩;rw[<-iX] at cC eM ⊢;have hfo:Fr 29 W1 W2:=.aI cC (fun j hj=>by injection hj with hj;subst hj;exact⟨_,bG.out,bO⟩);replace HW:=aa (bF HW.out cC gS.out);replace HC:=aa (HC.out.fr hfo);replace aG:=aa ((cC.block _ (ae aG.out) (fun e=>by injection e with e;exact cm.out.1 e)).trans aG.out);replace bN:=aa ((cC.block _ (ae bN.out) (fun e=>by injection e with e;exact cm.out.2.1 e)).trans bN.out)
  replace aR:=aa ((cC.block _ (ae aR.out) (fun e=>by injection e with e;exact cm.out.2.2 e)).trans aR.out);have eO:Hid (W1.heap.size<=W2.heap.size):=aa (ai bh.out cC.size);replace bG:=aa eM;clear cC eM iX hfo bh;have bh:=eO;clear eO;have HT:Hid (fL w W1.heap.size kf kd kr ko ⟨xo,xb,eB,xl,xc,eA,eI,d_,ei⟩ ((d:Nat)+1) 0 zb zo zl zc (⟨#[]⟩) (z) d [] (.slice none 0 0) [] W2):=aa (fL.zero bG.out aG.out bN.out aR.out (HC.out) fM.out cm.out gS.out HW.out bh.out);obtain⟨⟨o0,o1,o2,o3,o4⟩,c_,cZ,cY,cX,cF⟩:=ay bG.out;obtain⟨⟨r0,r1,r2,r3,r4⟩,jU,jT,kP,kO,kN⟩:=ay aR.out;go_wp2_with fail;clear o0 c_ o1 cZ o2 cY o3 cX o4 cF
  have hg:=bJ (w:=W2) (k:=kr) (.int .i64 0) (.bool zb) (.slice zo zl zc) (.string ⟨#[]⟩) (.slice none 0 0);have hf:Fr 29 W2 _:=.aI hg (fun j hj=>by injection hj with hj;subst hj;exact⟨_,aR.out,bO⟩);obtain⟨h1,h2,h3,h4⟩:=HT.out.fin hg hf (by unfold IR;decide) gA.out mh.out (by unfold fh;simp) (dZ (k:=2) (k':=4) PB.out (by decide)) (fun h _ _=>absurd rfl h) (by simp) (rfl);(try simp only[aN,bx]);exact aJ (v:=.agg #[.int .i64 0,.bool zb,.slice zo zl zc,.string ⟨#[]⟩,.slice none 0 0]) (by simp[results,aQ,go_sem,r0,r1,r2,r3,r4]) rfl ⟨_,_,rfl,h1,h2,rfl,h3,h4⟩
 ·have eE:op=2:=gF.out;subst eE;clear gF;have bh:Hid (W1.heap.size<=W1.heap.size):=aa (ag _);have HT:Hid (fL w W1.heap.size kf kd kr ko ⟨xo,xb,eB,xl,xc,eA,eI,d_,ei⟩ ((d:Nat)+1) 2 false none 0 0 (⟨#[]⟩) (0) d [] (.slice none 0 0) [] W1):=aa (fL.zero bG.out aG.out bN.out aR.out (nB _) fM.out cm.out gS.out HW.out bh.out);clear iE;have yZ:Hid (W1.heap.size<=W1.heap.size):=aa (ag _);obtain⟨⟨o0,o1,o2,o3,o4⟩,c_,cZ,cY,cX,cF⟩:=ay bG.out;go_wp2_with fail;clear o0 c_ o1 cZ o2 cY o3 cX o4 cF;refine (gL d HD.out rj.out w W1 W1.heap.size kf kd kr ko ⟨xo,xb,eB,xl,xc,eA,eI,d_,ei⟩ HX.out 2 false none 0 0 ⟨#[]⟩ (0) [] _ [] 0 0 (by decide) (by decide) HT.out (by rw[HT.out.len];simp)).mono ?_
  rintro e X1 ⟨⟨q0,rfl⟩,t0,v0,qI,hs,ht⟩;replace HT:=aa ht;have k5:=aa hs;clear hs ht;go_wp2_with fail;refine (gL d HD.out rj.out w X1 W1.heap.size kf kd kr ko ⟨xo,xb,eB,xl,xc,eA,eI,d_,ei⟩ HX.out 2 false none 0 0 ⟨#[]⟩ (0) ([]++[t0]) _ qI 1 0 (by decide) (by decide) HT.out (by rw[HT.out.len];simp)).mono ?_;rintro e X2 ⟨⟨q1,rfl⟩,t1,v1,BK,hs,ht⟩;replace HT:=aa ht;have lP:=aa hs;clear hs ht;obtain⟨vo,vc,hv,-⟩:=HT.out.row.form;subst hv;obtain⟨N,hN⟩:∃ N,N=BK.length:=⟨_,rfl⟩;rw[<-hN] at HT;clear hN;replace bG:=aa HT.out.ho;replace aR:=aa HT.out.hr;obtain⟨⟨o0,o1,o2,o3,o4⟩,c_,cZ,cY,cX,cF⟩:=ay bG.out;obtain⟨⟨r0,r1,r2,r3,r4⟩,jU,jT,kP,kO,kN⟩:=ay aR.out;go_wp2_with fail
  clear o0 c_ o1 cZ o2 cY o3 cX o4 cF;have hg:=bJ (w:=X2) (k:=kr) (.int .i64 2) (.bool false) (.slice none 0 0) (.string ⟨#[]⟩) (.slice vo N vc);have hf:Fr 29 X2 _:=.aI hg (fun j hj=>by injection hj with hj;subst hj;exact⟨_,aR.out,bO⟩);obtain⟨h1,h2,h3,h4⟩:=HT.out.fin hg hf (by unfold IR;decide) gA.out mh.out (by unfold fh;simp) (dr (by decide)) (fun _ _ _=>rfl) (by simp) (by simp[dw,bK,di,k5.out,lP.out]);(try simp only[aN,bx]);exact aJ (v:=.agg #[.int .i64 2,.bool false,.slice none 0 0,.string ⟨#[]⟩,.slice vo N vc]) (by simp[results,aQ,go_sem,r0,r1,r2,r3,r4]) rfl ⟨_,_,rfl,h1,h2,rfl,h3,h4⟩
 ·have eE:op=3:=gF.out;subst eE;clear gF;have bh:Hid (W1.heap.size<=W1.heap.size):=aa (ag _);obtain⟨⟨o0,o1,o2,o3,o4⟩,c_,cZ,cY,cX,cF⟩:=ay bG.out;obtain⟨m0,m1,kR,kQ⟩:=cV iE.out;go_upto_region 21 with fail;clear o0 c_ o1 cZ o2 cY o3 cX o4 cF m0 kR m1 kQ;have cC:W1.grownBy ((W1.setCell ⟨ko,1,none⟩ (.bool zb)).setCell ⟨ko,2,none⟩ (.slice zo zl zc)) (some ko):=by refine aD ?_ _;refine aD ?_ _;exact aE _ _
  have eM:((W1.setCell ⟨ko,1,none⟩ (.bool zb)).setCell ⟨ko,2,none⟩ (.slice zo zl zc)).heap[ko]?=_:=(aA _ ko 2 _ _ (.slice zo zl zc) (aA _ ko 1 _ _ (.bool zb) bG.out));obtain⟨W2,iX⟩:∃ q,q=(W1.setCell ⟨ko,1,none⟩ (.bool zb)).setCell ⟨ko,2,none⟩ (.slice zo zl zc):=⟨_,rfl⟩;rw[<-iX] at cC eM ⊢;have hfo:Fr 29 W1 W2:=.aI cC (fun j hj=>by injection hj with hj;subst hj;exact⟨_,bG.out,bO⟩);replace HW:=aa (bF HW.out cC gS.out);replace HC:=aa (HC.out.fr hfo);replace aG:=aa ((cC.block _ (ae aG.out) (fun e=>by injection e with e;exact cm.out.1 e)).trans aG.out);replace bN:=aa ((cC.block _ (ae bN.out) (fun e=>by injection e with e;exact cm.out.2.1 e)).trans bN.out)
  replace aR:=aa ((cC.block _ (ae aR.out) (fun e=>by injection e with e;exact cm.out.2.2 e)).trans aR.out);have eO:Hid (W1.heap.size<=W2.heap.size):=aa (ai bh.out cC.size);replace bG:=aa eM;clear cC eM iX hfo bh;have bh:=eO;clear eO;have HT:Hid (fL w W1.heap.size kf kd kr ko ⟨xo,xb,eB,xl,xc,eA,eI,d_,ei⟩ ((d:Nat)+1) 3 zb zo zl zc (⟨#[]⟩) (z) d [] (.slice none 0 0) [] W2):=aa (fL.zero bG.out aG.out bN.out aR.out (HC.out) fM.out cm.out gS.out HW.out bh.out);have yZ:Hid (W2.heap.size<=W2.heap.size):=aa (ag _);obtain⟨⟨o0,o1,o2,o3,o4⟩,c_,cZ,cY,cX,cF⟩:=ay bG.out;go_wp2_with fail;clear o0 c_ o1 cZ o2 cY o3 cX o4 cF
  refine (gL d HD.out rj.out w W2 W1.heap.size kf kd kr ko ⟨xo,xb,eB,xl,xc,eA,eI,d_,ei⟩ HX.out 3 zb zo zl zc ⟨#[]⟩ (z) [] _ [] 0 0 (by decide) (by decide) HT.out (by rw[HT.out.len];simp)).mono ?_;rintro e X1 ⟨⟨q0,rfl⟩,t0,v0,qI,hs,ht⟩;replace HT:=aa ht;have k5:=aa hs;clear hs ht;obtain⟨vo,vc,hv,-⟩:=HT.out.row.form;subst hv;obtain⟨N,hN⟩:∃ N,N=qI.length:=⟨_,rfl⟩;rw[<-hN] at HT;clear hN;replace bG:=aa HT.out.ho;replace aR:=aa HT.out.hr;obtain⟨⟨o0,o1,o2,o3,o4⟩,c_,cZ,cY,cX,cF⟩:=ay bG.out;obtain⟨⟨r0,r1,r2,r3,r4⟩,jU,jT,kP,kO,kN⟩:=ay aR.out;go_wp2_with fail;clear o0 c_ o1 cZ o2 cY o3 cX o4 cF;have hg:=bJ (w:=X1) (k:=kr) (.int .i64 3) (.bool zb) (.slice zo zl zc) (.string ⟨#[]⟩) (.slice vo N vc)
  have hf:Fr 29 X1 _:=.aI hg (fun j hj=>by injection hj with hj;subst hj;exact⟨_,aR.out,bO⟩);obtain⟨h1,h2,h3,h4⟩:=HT.out.fin hg hf (by unfold IR;decide) gA.out mh.out (by unfold fh;simp) (dZ (k:=2) (k':=4) PB.out (by decide)) (fun _ h _=>absurd rfl h) (by simp) (by simp[dw,bK,di,k5.out]);(try simp only[aN,bx]);exact aJ (v:=.agg #[.int .i64 3,.bool zb,.slice zo zl zc,.string ⟨#[]⟩,.slice vo N vc]) (by simp[results,aQ,go_sem,r0,r1,r2,r3,r4]) rfl ⟨_,_,rfl,h1,h2,rfl,h3,h4⟩
 ·have eE:op=4:=gF.out;subst eE;clear gF;have bh:Hid (W1.heap.size<=W1.heap.size):=aa (ag _);have HT:Hid (fL w W1.heap.size kf kd kr ko ⟨xo,xb,eB,xl,xc,eA,eI,d_,ei⟩ ((d:Nat)+1) 4 false none 0 0 (⟨#[]⟩) (0) d [] (.slice none 0 0) [] W1):=aa (fL.zero bG.out aG.out bN.out aR.out (nB _) fM.out cm.out gS.out HW.out bh.out);clear iE;have yZ:Hid (W1.heap.size<=W1.heap.size):=aa (ag _);obtain⟨⟨o0,o1,o2,o3,o4⟩,c_,cZ,cY,cX,cF⟩:=ay bG.out;go_wp2_with fail;clear o0 c_ o1 cZ o2 cY o3 cX o4 cF;refine (gL d HD.out rj.out w W1 W1.heap.size kf kd kr ko ⟨xo,xb,eB,xl,xc,eA,eI,d_,ei⟩ HX.out 4 false none 0 0 ⟨#[]⟩ (0) [] _ [] 0 0 (by decide) (by decide) HT.out (by rw[HT.out.len];simp)).mono ?_
  rintro e X1 ⟨⟨q0,rfl⟩,t0,v0,qI,hs,ht⟩;replace HT:=aa ht;have k5:=aa hs;clear hs ht;go_wp2_with fail;refine (gL d HD.out rj.out w X1 W1.heap.size kf kd kr ko ⟨xo,xb,eB,xl,xc,eA,eI,d_,ei⟩ HX.out 4 false none 0 0 ⟨#[]⟩ (0) ([]++[t0]) _ qI 1 0 (by decide) (by decide) HT.out (by rw[HT.out.len];simp)).mono ?_;rintro e X2 ⟨⟨q1,rfl⟩,t1,v1,BK,hs,ht⟩;replace HT:=aa ht;have lP:=aa hs;clear hs ht;obtain⟨vo,vc,hv,-⟩:=HT.out.row.form;subst hv;obtain⟨N,hN⟩:∃ N,N=BK.length:=⟨_,rfl⟩;rw[<-hN] at HT;clear hN;replace bG:=aa HT.out.ho;replace aR:=aa HT.out.hr;obtain⟨⟨o0,o1,o2,o3,o4⟩,c_,cZ,cY,cX,cF⟩:=ay bG.out;obtain⟨⟨r0,r1,r2,r3,r4⟩,jU,jT,kP,kO,kN⟩:=ay aR.out;go_wp2_with fail
  clear o0 c_ o1 cZ o2 cY o3 cX o4 cF;have hg:=bJ (w:=X2) (k:=kr) (.int .i64 4) (.bool false) (.slice none 0 0) (.string ⟨#[]⟩) (.slice vo N vc);have hf:Fr 29 X2 _:=.aI hg (fun j hj=>by injection hj with hj;subst hj;exact⟨_,aR.out,bO⟩);obtain⟨h1,h2,h3,h4⟩:=HT.out.fin hg hf (by unfold IR;decide) gA.out mh.out (by unfold fh;simp) (dr (by decide)) (fun _ _ _=>rfl) (by simp) (by simp[dw,bK,di,k5.out,lP.out]);(try simp only[aN,bx]);exact aJ (v:=.agg #[.int .i64 4,.bool false,.slice none 0 0,.string ⟨#[]⟩,.slice vo N vc]) (by simp[results,aQ,go_sem,r0,r1,r2,r3,r4]) rfl ⟨_,_,rfl,h1,h2,rfl,h3,h4⟩
 ·have eE:op=5:=gF.out;subst eE;clear gF;have bh:Hid (W1.heap.size<=W1.heap.size):=aa (ag _);obtain⟨⟨o0,o1,o2,o3,o4⟩,c_,cZ,cY,cX,cF⟩:=ay bG.out;obtain⟨m0,m1,kR,kQ⟩:=cV iE.out;go_wp2_with fail;refine (mY false _ z.natAbs 600 W1 HC.out.nat (by decide)).mono ?_;rintro e x9 ⟨va,rfl,ha,hb⟩;clear o0 c_ o1 cZ o2 cY o3 cX o4 cF m0 kR m1 kQ;replace aG:=bM hb aG;replace bN:=bM hb bN;replace aR:=bM hb aR;replace bG:=bM hb bG;replace HW:=aa (HW.out.trans (hb.mono HW.out.size));replace HC:=aa (HC.out.below hb);replace bh:=aa (ai bh.out hb.size);have Qw:=aa ha;clear ha hb;go_wp2_with fail;refine (si 1 x9 (by decide) (by decide)).mono ?_;rintro e MS ⟨vb,rfl,ha,hb⟩;replace aG:=bM hb aG
  replace bN:=bM hb bN;replace aR:=bM hb aR;replace bG:=bM hb bG;replace HW:=aa (HW.out.trans (hb.mono HW.out.size));replace HC:=aa (HC.out.below hb);replace bh:=aa (ai bh.out hb.size);replace Qw:=aa (Qw.out.below hb);have Ve:=aa ha;clear ha hb;go_wp2_with fail;refine (xn va vb _ _ 600 2 MS Qw.out.gi Ve.out.gi (by decide) (by decide)).mono ?_;rintro e CF ⟨vd,rfl,ha,hb⟩;replace aG:=bM hb aG;replace bN:=bM hb bN;replace aR:=bM hb aR;replace bG:=bM hb bG;replace HW:=aa (HW.out.trans (hb.mono HW.out.size));replace HC:=aa (HC.out.below hb);replace bh:=aa (ai bh.out hb.size);obtain⟨sb,so,sl,sc,rfl⟩:=ha.shape;have Bc:=M0 PB.out;obtain⟨Z,hZ⟩:∃ Z,Z=sg false z.natAbs+1:=⟨_,rfl⟩;rw[<-hZ] at ha Bc
  replace HC:=aa (ha.tight (dZ (k:=4) (k':=600) Bc.1 (by decide)));have CT:=aa Bc;clear ha hb Qw Ve Bc hZ;obtain⟨⟨o0,o1,o2,o3,o4⟩,c_,cZ,cY,cX,cF⟩:=ay bG.out;go_upto_region 21 with fail;clear o0 c_ o1 cZ o2 cY o3 cX o4 cF;have cC:CF.grownBy ((CF.setCell ⟨ko,1,none⟩ (.bool sb)).setCell ⟨ko,2,none⟩ (.slice so sl sc)) (some ko):=by refine aD ?_ _;refine aD ?_ _;exact aE _ _
  have eM:((CF.setCell ⟨ko,1,none⟩ (.bool sb)).setCell ⟨ko,2,none⟩ (.slice so sl sc)).heap[ko]?=_:=(aA _ ko 2 _ _ (.slice so sl sc) (aA _ ko 1 _ _ (.bool sb) bG.out));obtain⟨W2,iX⟩:∃ q,q=(CF.setCell ⟨ko,1,none⟩ (.bool sb)).setCell ⟨ko,2,none⟩ (.slice so sl sc):=⟨_,rfl⟩;rw[<-iX] at cC eM ⊢;have hfo:Fr 29 CF W2:=.aI cC (fun j hj=>by injection hj with hj;subst hj;exact⟨_,bG.out,bO⟩);replace HW:=aa (bF HW.out cC gS.out);replace HC:=aa (HC.out.fr hfo);replace aG:=aa ((cC.block _ (ae aG.out) (fun e=>by injection e with e;exact cm.out.1 e)).trans aG.out);replace bN:=aa ((cC.block _ (ae bN.out) (fun e=>by injection e with e;exact cm.out.2.1 e)).trans bN.out)
  replace aR:=aa ((cC.block _ (ae aR.out) (fun e=>by injection e with e;exact cm.out.2.2 e)).trans aR.out);have eO:Hid (W1.heap.size<=W2.heap.size):=aa (ai bh.out cC.size);replace bG:=aa eM;clear cC eM iX hfo bh;have bh:=eO;clear eO;have HT:Hid (fL w W1.heap.size kf kd kr ko ⟨xo,xb,eB,xl,xc,eA,eI,d_,ei⟩ ((d:Nat)+1) 5 sb so sl sc (⟨#[]⟩) (Z) d [] (.slice none 0 0) [] W2):=aa (fL.zero bG.out aG.out bN.out aR.out (HC.out) fM.out cm.out gS.out HW.out bh.out);have yZ:Hid (W2.heap.size<=W2.heap.size):=aa (ag _);obtain⟨⟨o0,o1,o2,o3,o4⟩,c_,cZ,cY,cX,cF⟩:=ay bG.out;go_wp2_with fail;clear o0 c_ o1 cZ o2 cY o3 cX o4 cF
  refine (gL d HD.out rj.out w W2 W1.heap.size kf kd kr ko ⟨xo,xb,eB,xl,xc,eA,eI,d_,ei⟩ HX.out 5 sb so sl sc ⟨#[]⟩ (Z) [] _ [] 0 0 (by decide) (by decide) HT.out (by rw[HT.out.len];simp)).mono ?_;rintro e X1 ⟨⟨q0,rfl⟩,t0,v0,qI,hs,ht⟩;replace HT:=aa ht;have k5:=aa hs;clear hs ht;obtain⟨vo,vc,hv,-⟩:=HT.out.row.form;subst hv;obtain⟨N,hN⟩:∃ N,N=qI.length:=⟨_,rfl⟩;rw[<-hN] at HT;clear hN;replace bG:=aa HT.out.ho;replace aR:=aa HT.out.hr;obtain⟨⟨o0,o1,o2,o3,o4⟩,c_,cZ,cY,cX,cF⟩:=ay bG.out;obtain⟨⟨r0,r1,r2,r3,r4⟩,jU,jT,kP,kO,kN⟩:=ay aR.out;go_wp2_with fail;clear o0 c_ o1 cZ o2 cY o3 cX o4 cF;have hg:=bJ (w:=X1) (k:=kr) (.int .i64 5) (.bool sb) (.slice so sl sc) (.string ⟨#[]⟩) (.slice vo N vc)
  have hf:Fr 29 X1 _:=.aI hg (fun j hj=>by injection hj with hj;subst hj;exact⟨_,aR.out,bO⟩);obtain⟨h1,h2,h3,h4⟩:=HT.out.fin hg hf (by unfold IR;decide) gA.out mh.out (by unfold fh;simp) (CT.out.1) (fun _ _ h=>absurd rfl h) (by simp) (by simp[CT.out.2,dw,bK,di,k5.out]);(try simp only[aN,bx]);exact aJ (v:=.agg #[.int .i64 5,.bool sb,.slice so sl sc,.string ⟨#[]⟩,.slice vo N vc]) (by simp[results,aQ,go_sem,r0,r1,r2,r3,r4]) rfl ⟨_,_,rfl,h1,h2,rfl,h3,h4⟩
 ·have eE:op=6:=gF.out;subst eE;clear gF;have bh:Hid (W1.heap.size<=W1.heap.size):=aa (ag _);have HT:Hid (fL w W1.heap.size kf kd kr ko ⟨xo,xb,eB,xl,xc,eA,eI,d_,ei⟩ ((d:Nat)+1) 6 false none 0 0 (⟨#[]⟩) (0) d [] (.slice none 0 0) [] W1):=aa (fL.zero bG.out aG.out bN.out aR.out (nB _) fM.out cm.out gS.out HW.out bh.out);clear iE;have yZ:Hid (W1.heap.size<=W1.heap.size):=aa (ag _);obtain⟨⟨o0,o1,o2,o3,o4⟩,c_,cZ,cY,cX,cF⟩:=ay bG.out;go_wp2_with fail;clear o0 c_ o1 cZ o2 cY o3 cX o4 cF;refine (gL d HD.out rj.out w W1 W1.heap.size kf kd kr ko ⟨xo,xb,eB,xl,xc,eA,eI,d_,ei⟩ HX.out 6 false none 0 0 ⟨#[]⟩ (0) [] _ [] 0 2 (by decide) (by decide) HT.out (by rw[HT.out.len];simp)).mono ?_
  rintro e X1 ⟨⟨q0,rfl⟩,t0,v0,qI,hs,ht⟩;replace HT:=aa ht;have k5:=aa hs;clear hs ht;obtain⟨vo,vc,hv,-⟩:=HT.out.row.form;subst hv;obtain⟨N,hN⟩:∃ N,N=qI.length:=⟨_,rfl⟩;rw[<-hN] at HT;clear hN;replace bG:=aa HT.out.ho;replace aR:=aa HT.out.hr;obtain⟨⟨o0,o1,o2,o3,o4⟩,c_,cZ,cY,cX,cF⟩:=ay bG.out;obtain⟨⟨r0,r1,r2,r3,r4⟩,jU,jT,kP,kO,kN⟩:=ay aR.out;go_wp2_with fail;clear o0 c_ o1 cZ o2 cY o3 cX o4 cF;have hg:=bJ (w:=X1) (k:=kr) (.int .i64 6) (.bool false) (.slice none 0 0) (.string ⟨#[]⟩) (.slice vo N vc);have hf:Fr 29 X1 _:=.aI hg (fun j hj=>by injection hj with hj;subst hj;exact⟨_,aR.out,bO⟩)
  obtain⟨h1,h2,h3,h4⟩:=HT.out.fin hg hf (by unfold IR;decide) gA.out mh.out (by unfold fh;simp) (dr (by decide)) (fun _ _ _=>rfl) (by simp) (by simp[dw,bK,di,k5.out]);(try simp only[aN,bx]);exact aJ (v:=.agg #[.int .i64 6,.bool false,.slice none 0 0,.string ⟨#[]⟩,.slice vo N vc]) (by simp[results,aQ,go_sem,r0,r1,r2,r3,r4]) rfl ⟨_,_,rfl,h1,h2,rfl,h3,h4⟩
 have eE:op=7:=gF.out;subst eE;clear gF;have bh:Hid (W1.heap.size<=W1.heap.size):=aa (ag _);have HT:Hid (fL w W1.heap.size kf kd kr ko ⟨xo,xb,eB,xl,xc,eA,eI,d_,ei⟩ ((d:Nat)+1) 7 false none 0 0 (⟨#[]⟩) (0) d [] (.slice none 0 0) [] W1):=aa (fL.zero bG.out aG.out bN.out aR.out (nB _) fM.out cm.out gS.out HW.out bh.out);clear iE;have yZ:Hid (W1.heap.size<=W1.heap.size):=aa (ag _);obtain⟨⟨o0,o1,o2,o3,o4⟩,c_,cZ,cY,cX,cF⟩:=ay bG.out;go_wp2_with fail;clear o0 c_ o1 cZ o2 cY o3 cX o4 cF;refine (gL d HD.out rj.out w W1 W1.heap.size kf kd kr ko ⟨xo,xb,eB,xl,xc,eA,eI,d_,ei⟩ HX.out 7 false none 0 0 ⟨#[]⟩ (0) [] _ [] 0 2 (by decide) (by decide) HT.out (by rw[HT.out.len];simp)).mono ?_
 rintro e X1 ⟨⟨q0,rfl⟩,t0,v0,qI,hs,ht⟩;replace HT:=aa ht;have k5:=aa hs;clear hs ht;obtain⟨vo,vc,hv,-⟩:=HT.out.row.form;subst hv;obtain⟨N,hN⟩:∃ N,N=qI.length:=⟨_,rfl⟩;rw[<-hN] at HT;clear hN;replace bG:=aa HT.out.ho;replace aR:=aa HT.out.hr;obtain⟨⟨o0,o1,o2,o3,o4⟩,c_,cZ,cY,cX,cF⟩:=ay bG.out;obtain⟨⟨r0,r1,r2,r3,r4⟩,jU,jT,kP,kO,kN⟩:=ay aR.out;go_wp2_with fail;clear o0 c_ o1 cZ o2 cY o3 cX o4 cF;have hg:=bJ (w:=X1) (k:=kr) (.int .i64 7) (.bool false) (.slice none 0 0) (.string ⟨#[]⟩) (.slice vo N vc);have hf:Fr 29 X1 _:=.aI hg (fun j hj=>by injection hj with hj;subst hj;exact⟨_,aR.out,bO⟩)
 obtain⟨h1,h2,h3,h4⟩:=HT.out.fin hg hf (by unfold IR;decide) gA.out mh.out (by unfold fh;simp) (dr (by decide)) (fun _ _ _=>rfl) (by simp) (by simp[dw,bK,di,k5.out]);(try simp only[aN,bx]);exact aJ (v:=.agg #[.int .i64 7,.bool false,.slice none 0 0,.string ⟨#[]⟩,.slice vo N vc]) (by simp[results,aQ,go_sem,r0,r1,r2,r3,r4]) rfl ⟨_,_,rfl,h1,h2,rfl,h3,h4⟩
def rF (j:Nat):Int:=[(14:Int),(12:Int),(13:Int),(15:Int),(16:Int),(16:Int),(17:Int),(18:Int),(19:Int),(20:Int)].getD j 0
theorem Gg (d:Nat) (Io:1<=d) (hd:d<=100) (IT:rS d) (xo:Int) (xb:Bool) (eB:Option Addr) (xl xc:Nat) (eA:ByteArray) (eI:Option Addr) (d_ ei:Nat) (w:af) (hx:ld w (d+1) ⟨xo,xb,eB,xl,xc,eA,eI,d_,ei⟩) :
  aV aj 13 #[.agg #[.int .i64 xo,.bool xb,.slice eB xl xc,.string eA,.slice eI d_ ei],.int .i64 1,.int .i64 ((d:Nat)+1:Int)] w (jA (d+1) 1 w):=by
 have HX:=aa hx;have rj:=aa IT;have HD:=aa hd;have N5:decide (((d:Nat)+1:Int)<=1)=false:=by simp;omega
 clear IT Io hd;obtain⟨-,hn,-,⟨iA,eR⟩,-⟩:=hx;simp only at hn iA eR;have Hw:ei<=9223372036854775807:=eR;obtain⟨m,hm⟩:∃ m,m=min xl 2:=⟨_,rfl⟩;have hmin:min (xl:Int) 2=(m:Int):=by omega
 have yV:m<=2:=by omega
 have hml:m<=xl:=by omega
 have uj:∃ q,GN w (.slice eB m xc) q 2/\xl<=xc/\xc<=9223372036854775807:=by
  obtain⟨xs,hs,Cb⟩:=hn;have hl:=pL hs;obtain⟨_,_,e,h1,h2,_⟩:=id hs;injection e with e1 e2 e3;subst e3;exact⟨_,⟨xs.take m,hs.take m (by omega),Cb.take m,rfl,by rw[bD];omega⟩,by omega,h2⟩
 obtain⟨q,hq,hlc,hc⟩:=uj;have Ia:m<=xc:=by omega
 have HG:=aa hq;clear hq hn hm eR;obtain⟨K,hK,Ep⟩:=oO xo;obtain⟨j,hj⟩:∃ j,j=K % 10:=⟨_,rfl⟩;have zV:((K:Nat):Int).tmod 10=((j:Nat):Int):=by rw[hj];exact (oz K 10).symm
 have N0:j<10:=by rw[hj];exact ig _ (by decide)
 clear hj Ep;have HW:=aa (ax w.heap.size w);go_enter Tryz.func13,Tryz.ntmps13;obtain⟨x1,kf,ef,ki,cn,jC,aG⟩:=aW w #[.int .i64 xo,.bool xb,.slice eB xl xc,.string eA,.slice eI d_ ei] 29;replace HW:=aa (HW.out.trans (cn.out.mono HW.out.size));replace HG:=aa (HG.out.below cn.out);obtain⟨x2,kd,ed,OC,hbd,wA,bN⟩:=aW x1 #[.int .i64 ((d:Nat)+1:Int)] 3;replace aG:=bM hbd.out aG;replace HW:=aa (HW.out.trans (hbd.out.mono HW.out.size));replace HG:=aa (HG.out.below hbd.out);obtain⟨x3,kr,er,sG,eY,lj,aR⟩:=aW x2 #[.int .i64 0,.bool false,.slice none 0 0,.string ⟨#[]⟩,.slice none 0 0] 29;replace aG:=bM eY.out aG;replace bN:=bM eY.out bN;replace HW:=aa (HW.out.trans (eY.out.mono HW.out.size));replace HG:=aa (HG.out.below eY.out)
 have mh:Hid (w.heap.size<=kr):=aa (by have h1:=cn.out.size;have h2:=hbd.out.size;have h3:=lj.out;omega);obtain⟨x4,kp,ep,OB,nI,hkp,qG⟩:=aW x3 #[.int .i64 1,.int .i64 0,.int .i64 2,.int .i64 3,.int .i64 4,.int .i64 5,.int .i64 6,.int .i64 7] 22;replace aG:=bM nI.out aG;replace bN:=bM nI.out bN;replace aR:=bM nI.out aR;replace HW:=aa (HW.out.trans (nI.out.mono HW.out.size));replace HG:=aa (HG.out.below nI.out);obtain⟨x5,kq,eq,yY,gu,qw,mz⟩:=aW x4 #[.int .i64 14,.int .i64 12,.int .i64 13,.int .i64 15,.int .i64 16,.int .i64 16,.int .i64 17,.int .i64 18,.int .i64 19,.int .i64 20] 22;replace aG:=bM gu.out aG;replace bN:=bM gu.out bN;replace aR:=bM gu.out aR;replace HW:=aa (HW.out.trans (gu.out.mono HW.out.size))
 replace HG:=aa (HG.out.below gu.out);obtain⟨x6,kt,et,Iz,ir,lZ,wY⟩:=aW x5 #[.int .i64 8,.int .i64 9,.int .i64 10,.int .i64 11] 22;replace aG:=bM ir.out aG;replace bN:=bM ir.out bN;replace aR:=bM ir.out aR;replace mz:=bM ir.out mz;replace HW:=aa (HW.out.trans (ir.out.mono HW.out.size));replace HG:=aa (HG.out.below ir.out);have hidx:=D4 (some ⟨kp,0,none⟩) (some ⟨kq,0,none⟩) (some ⟨kt,0,none⟩) 8 10 4 8 10 4;obtain⟨⟨f0,f1,f2,f3,f4⟩,kZ,kY,kX,kW,kV⟩:=ay aG.out;have d0:=aq (v:=.int .i64 ((d:Nat)+1:Int)) bN.out 0 rfl;have yX:=aY bN.out 0;have hop:x6.cell? ⟨kq,j,none⟩=some (.int .i64 (rF j)):=by
  have:j=0\/j=1\/j=2\/j=3\/j=4\/j=5\/j=6\/j=7\/j=8\/j=9:=by omega
  rcases this with rfl | rfl | rfl | rfl | rfl | rfl | rfl | rfl | rfl | rfl<;>exact aq mz.out _ rfl
 obtain⟨op,kJ⟩:∃ op,op=rF j:=⟨_,rfl⟩;rw[<-kJ] at hop;have gF:=aa kJ;clear kJ;go_upto_region 7 with fail;clear f0 kZ f1 kY f2 kX f3 kW f4 kV d0 yX hop;clear hidx zV hK;have ET:=HW;have tZ:=aG;have t_:=bN;have tY:=aR;obtain⟨x7,ko,eo,yy,eM,B8,bG⟩:=aW x6 #[.int .i64 op,.bool false,.slice none 0 0,.string ⟨#[]⟩,.slice none 0 0] 29;replace aG:=bM eM.out aG;replace bN:=bM eM.out bN;replace aR:=bM eM.out aR;replace HW:=aa (HW.out.trans (eM.out.mono HW.out.size));replace HG:=aa (HG.out.below eM.out);rw[eo,yy];have gS:Hid (w.heap.size<=ko):=aa (by have:=ET.out.size;have:=B8.out;omega);go_upto_region 8 with fail;have HY:=aa (ax x7.heap.size x7);have mj:=aG;have mo:=bN;have ow:=aR;have iD:=bG
 have dS:=ae aG.out;have fO:Hid (∀ q,q<0->(fun q=>0) q<x7.heap.size):=aa (fun q h=>absurd h (an _));refine R7.region (by kernel_rfl) [[],[0],[0,1],[],[3],[3,4],[],[6],[6,7],[6,7,8],[6,7,8,9],[3,4,5,6,7,8,9,10],[0,1,2,3,4,5,6,7,8,9,10,11],[],[0,1,2,3,4,5,6,7,8,9,10,11,12,13]] [] [] (fun q=>0) 0 14 (by kernel_rfl) (by kernel_rfl) (by rfl) fO.out (fun q q' h h' hn=>absurd hn (by omega)) ?_;refine R7.aF.dL ?_ (by rfl) (fun T xs wr hA=>?_) ?_;rotate_left 1
 ·have e3:=hA.pre 3 (by kernel_rfl);simp only[kM,lO,lF] at e3;clear hA;refine⟨(by rfl),?_⟩;go_simp<;>(try with_reducible rfl)
 refine R7.aF.dL ?_ (by rfl) (fun T xs wr hA=>?_) ?_;rotate_left 1
 ·have Bo:=hA.tm 0 36 (by rfl) (by rfl);have f36:xs 0=_:=hA.fa 0 (by rfl);(try simp (disch:=first | rfl | decide) only [R7.au] at f36);rw[f36] at Bo;clear f36;clear hA;refine⟨(by rfl),?_⟩;go_simp<;>(try with_reducible rfl)
 refine R7.aF.dL ?_ (by rfl) (fun T xs wr hA=>?_) ?_;rotate_left 1
 ·have yA:=hA.tm 1 37 (by rfl) (by rfl);have f37:xs 1=_:=hA.fa 1 (by rfl);(try simp (disch:=first | rfl | decide) only [R7.au] at f37);rw[f37] at yA;clear f37;have bB:wr.heap[kf]?=_:=(hA.bl _ dS (fun q h=>absurd h (an _))).trans aG.out;have q0:=aq (v:=.int .i64 xo) bB 0 rfl;have q1:=aq (v:=.bool xb) bB 1 rfl;have q2:=aq (v:=.slice eB xl xc) bB 2 rfl;have q3:=aq (v:=.string eA) bB 3 rfl;have q4:=aq (v:=.slice eI d_ ei) bB 4 rfl;clear bB;clear hA;refine⟨(by rfl),?_⟩;go_simp<;>(try with_reducible rfl)
 refine R7.aF.dL ?_ (by rfl) (fun T xs wr hA=>?_) ?_;rotate_left 1
 ·have e3:=hA.pre 3 (by kernel_rfl);simp only[kM,lO,lF] at e3;clear hA;refine⟨(by rfl),?_⟩;go_simp<;>(try with_reducible rfl)
 refine R7.aF.dL ?_ (by rfl) (fun T xs wr hA=>?_) ?_;rotate_left 1
 ·have vv:=hA.tm 3 39 (by rfl) (by rfl);have f39:xs 3=_:=hA.fa 3 (by rfl);(try simp (disch:=first | rfl | decide) only [R7.au] at f39);rw[f39] at vv;clear f39;clear hA;refine⟨(by rfl),?_⟩;go_simp<;>(try with_reducible rfl)
 refine R7.aF.dL ?_ (by rfl) (fun T xs wr hA=>?_) ?_;rotate_left 1
 ·have uz:=hA.tm 4 40 (by rfl) (by rfl);have f40:xs 4=_:=hA.fa 4 (by rfl);(try simp (disch:=first | rfl | decide) only [R7.au] at f40);rw[f40] at uz;clear f40;have bB:wr.heap[kf]?=_:=(hA.bl _ dS (fun q h=>absurd h (an _))).trans aG.out;have q0:=aq (v:=.int .i64 xo) bB 0 rfl;have q1:=aq (v:=.bool xb) bB 1 rfl;have q2:=aq (v:=.slice eB xl xc) bB 2 rfl;have q3:=aq (v:=.string eA) bB 3 rfl;have q4:=aq (v:=.slice eI d_ ei) bB 4 rfl;clear bB;clear hA;refine⟨(by rfl),?_⟩;go_simp<;>(try with_reducible rfl)
 refine R7.aF.dL ?_ (by rfl) (fun T xs wr hA=>?_) ?_;rotate_left 1
 ·have e3:=hA.pre 3 (by kernel_rfl);simp only[kM,lO,lF] at e3;clear hA;refine⟨(by rfl),?_⟩;go_simp<;>(try with_reducible rfl)
 refine R7.aF.dL ?_ (by rfl) (fun T xs wr hA=>?_) ?_;rotate_left 1
 ·have xg:=hA.tm 6 42 (by rfl) (by rfl);have f42:xs 6=_:=hA.fa 6 (by rfl);(try simp (disch:=first | rfl | decide) only [R7.au] at f42);rw[f42] at xg;clear f42;clear hA;refine⟨(by rfl),?_⟩;go_simp<;>(try with_reducible rfl)
 refine R7.aF.dL ?_ (by rfl) (fun T xs wr hA=>?_) ?_;rotate_left 1
 ·have uK:=hA.tm 7 43 (by rfl) (by rfl);have f43:xs 7=_:=hA.fa 7 (by rfl);(try simp (disch:=first | rfl | decide) only [R7.au] at f43);rw[f43] at uK;clear f43;have bB:wr.heap[kf]?=_:=(hA.bl _ dS (fun q h=>absurd h (an _))).trans aG.out;have q0:=aq (v:=.int .i64 xo) bB 0 rfl;have q1:=aq (v:=.bool xb) bB 1 rfl;have q2:=aq (v:=.slice eB xl xc) bB 2 rfl;have q3:=aq (v:=.string eA) bB 3 rfl;have q4:=aq (v:=.slice eI d_ ei) bB 4 rfl;clear bB;clear hA;refine⟨(by rfl),?_⟩;go_simp<;>(try with_reducible rfl)
 refine R7.aF.dL ?_ (by rfl) (fun T xs wr hA=>?_) ?_;rotate_left 1
 ·have wG:=hA.tm 8 44 (by rfl) (by rfl);have f44:xs 8=_:=hA.fa 8 (by rfl);(try simp (disch:=first | rfl | decide) only [R7.au] at f44);rw[f44] at wG;clear f44;clear hA;refine⟨(by rfl),?_⟩;go_simp<;>(try with_reducible rfl)
 refine R7.aF.dL ?_ (by rfl) (fun T xs wr hA=>?_) ?_;rotate_left 1
 ·have Bn:=hA.tm 9 45 (by rfl) (by rfl);have f45:xs 9=_:=hA.fa 9 (by rfl);(try simp (disch:=first | rfl | decide) only [R7.au] at f45);rw[f45] at Bn;clear f45;clear hA;refine⟨(by rfl),?_⟩;go_simp<;>(try with_reducible rfl)
 refine R7.aF.dL ?_ (by rfl) (fun T xs wr hA=>?_) ?_;rotate_left 1
 ·have xh:=hA.tm 5 41 (by rfl) (by rfl);have f41:xs 5=_:=hA.fa 5 (by rfl);(try simp (disch:=first | rfl | decide) only [R7.au] at f41);rw[f41] at xh;clear f41;have Ao:=hA.tm 10 46 (by rfl) (by rfl);have f46:xs 10=_:=hA.fa 10 (by rfl);(try simp (disch:=first | rfl | decide) only [R7.au] at f46);rw[f46] at Ao;clear f46;clear hA;refine⟨(by rfl),?_⟩;go_simp<;>(try with_reducible rfl)
 refine R7.aF.call (fun xs v w=>∃ z,CI w v z 2) (fun _ _ _ _ h hb=>by obtain⟨z,h2⟩:=h;exact⟨z,h2.below hb⟩) (fun _ _ _ _ _ _ h _=>by obtain⟨q,hq,_⟩:=h;exact absurd hq (an _)) (by rfl) (fun T xs wr hA=>?_) ?_
 ·have nH:=(hA.be 0 (ah _) (fun _ _=>ah _)).size;have yz:=hA.tm 2 38 (by rfl) (by rfl);have f38:xs 2=_:=hA.fa 2 (by rfl);(try simp (disch:=first | rfl | decide) only [R7.au] at f38);rw[f38] at yz;clear f38;have Bm:=hA.tm 11 47 (by rfl) (by rfl);have f47:xs 11=_:=hA.fa 11 (by rfl);(try simp (disch:=first | rfl | decide) only [R7.au] at f47);rw[f47] at Bm;clear f47;have gq:=ck (hA.be x7.heap.size (ag _) (fun q h=>absurd h (an q)));clear hA;refine⟨(by rfl),fun K hK=>?_⟩;go_simp;refine (mY xb _ q 2 wr (HG.out.below gq) (by decide)).mono ?_;rintro e w' ⟨v,rfl,hc,hb'⟩;exact hK.out _ _ ⟨_,hc⟩ hb'
 refine R7.aF.call (fun xs v w=>∃ g,v=.pointer (some ⟨g,0,none⟩)/\x7.heap.size<=g/\w.heap[g]?=some (.cells #[.bool false,.slice none 0 0] 26 (0,0))) (fun _ _ _ _ h hb=>by obtain⟨g,h1,h2,h3⟩:=h;exact⟨g,h1,h2,by rw[hb.block g (ae h3)];exact h3⟩) (fun _ _ _ _ _ _ h _=>by obtain⟨q,hq,_⟩:=h;exact absurd hq (an _)) (by rfl) (fun T xs wr hA=>?_) ?_
 ·have nH:=(hA.be 0 (ah _) (fun _ _=>ah _)).size;have gq:=ck (hA.be x7.heap.size (ag _) (fun q h=>absurd h (an q)));clear hA;refine⟨(by rfl),fun K hK=>?_⟩;go_simp;exact hK.out _ _ ⟨_,rfl,gq.size,iI _ _ _ rfl⟩ ((ax _ _).alloc (ag _) _)
 refine R7.aF.done (fun xs x8 hL=>?_);obtain⟨⟨iB,cS⟩,hf,-,-⟩:=hL;have f0:xs 0=_:=hf 0 (by decide);(try simp (disch:=first | rfl | decide) only [R7.au] at f0);have f1:xs 1=_:=hf 1 (by decide);(try simp (disch:=first | rfl | decide) only [R7.au] at f1);have f2:xs 2=_:=hf 2 (by decide);(try simp (disch:=first | rfl | decide) only [R7.au] at f2);have f3:xs 3=_:=hf 3 (by decide);(try simp (disch:=first | rfl | decide) only [R7.au] at f3);have f4:xs 4=_:=hf 4 (by decide);(try simp (disch:=first | rfl | decide) only [R7.au] at f4);have f5:xs 5=_:=hf 5 (by decide);(try simp (disch:=first | rfl | decide) only [R7.au] at f5);have f6:xs 6=_:=hf 6 (by decide);(try simp (disch:=first | rfl | decide) only [R7.au] at f6);have f7:xs 7=_:=hf 7 (by decide)
 (try simp (disch:=first | rfl | decide) only [R7.au] at f7);have f8:xs 8=_:=hf 8 (by decide);(try simp (disch:=first | rfl | decide) only [R7.au] at f8);have f9:xs 9=_:=hf 9 (by decide);(try simp (disch:=first | rfl | decide) only [R7.au] at f9);have f10:xs 10=_:=hf 10 (by decide);(try simp (disch:=first | rfl | decide) only [R7.au] at f10);have f11:xs 11=_:=hf 11 (by decide);(try simp (disch:=first | rfl | decide) only [R7.au] at f11);have Fl:∃ z,CI x8 (xs 12) z 2:=hf 12 (by decide);have Fj:∃ g,(xs 13)=.pointer (some ⟨g,0,none⟩)/\x7.heap.size<=g/\x8.heap[g]?=some (.cells #[.bool false,.slice none 0 0] 26 (0,0)):=hf 13 (by decide);have hb0:aB 0 x7 x8:=ck (iB 0 (ah _) (fun _ _=>ah _))
 have jl:∀ j,j<x7.heap.size->(∀ q,q<0->(fun q=>0) q≠j)->x8.heap[j]?=x7.heap[j]?:=cS;clear iB cS hf;have hb:aB x7.heap.size x7 x8:=⟨hb0.os,hb0.tape,hb0.output,hb0.size,fun q hq=>jl q hq (fun q h=>absurd h (an _))⟩;refine R7.ji (by decide) (by kernel_rfl) ?_;simp only[R7.fill,Gp,Gn,Gm,Gl,AU,AT,AS,f0,f1,f2,f3,f4,f5,f6,f7,f8,f9,f10,f11];clear hb0 jl fO dS f0 f1 f2 f3 f4 f5 f6 f7 f8 f9 f10 f11;replace aG:=bM hb aG;replace bN:=bM hb bN;replace aR:=bM hb aR;replace bG:=bM hb bG;replace HW:=aa (HW.out.trans (hb.mono HW.out.size));replace HY:=aa (HY.out.trans (hb.mono HY.out.size));replace hb:=aa hb;obtain⟨z,qF⟩:=Fl;obtain⟨zb,zo,zl,zc,tA⟩:=qF.shape;obtain⟨km,hkm,kL,nZ⟩:=Fj;rw[tA] at qF;rw[tA,hkm]
 have HC:=aa (qF.mono (k':=600) (by decide));have iE:=aa nZ;clear qF tA hkm nZ;obtain⟨m0,m1,kR,kQ⟩:=cV iE.out;go_upto_region 9 with fail;clear m0 kR m1 kQ;have ic:=lu (w:=x8) (k:=km) (.bool zb) (.slice zo zl zc);have gp:((x8.setCell ⟨km,0,none⟩ (.bool zb)).setCell ⟨km,1,none⟩ (.slice zo zl zc)).heap[km]?=_:=aA _ km 1 _ _ _ (aA _ km 0 _ _ _ iE.out);obtain⟨W1,rO⟩:∃ q,q=(x8.setCell ⟨km,0,none⟩ (.bool zb)).setCell ⟨km,1,none⟩ (.slice zo zl zc):=⟨_,rfl⟩;rw[<-rO] at ic gp ⊢;have sE:Fr 26 x8 W1:=.aI ic (fun j hj=>by injection hj with hj;subst hj;exact⟨_,iE.out,rJ⟩);have Fc:Hid (w.heap.size<=km):=aa (ai (by have:=gS.out;have:=ae iD.out;omega) kL)
 replace HW:=aa (bF HW.out ic Fc.out);replace HY:=aa (bF HY.out ic kL);replace aG:=aa ((HY.out.block _ (ae mj.out)).trans mj.out);replace bN:=aa ((HY.out.block _ (ae mo.out)).trans mo.out);replace aR:=aa ((HY.out.block _ (ae ow.out)).trans ow.out);replace bG:=aa ((HY.out.block _ (ae iD.out)).trans iD.out);replace iE:=aa gp;clear ic gp rO sE kL;have fM:Hid (kf<W1.heap.size/\kd<W1.heap.size/\kr<W1.heap.size/\ko<W1.heap.size):=aa ⟨ae aG.out,ae bN.out,ae aR.out,ae bG.out⟩;have cm:Hid (kf≠ko/\kd≠ko/\kr≠ko):=aa (by have h1:=ae tZ.out;have h2:=ae t_.out;have h3:=ae tY.out;rw[yy] at h1 h2 h3;omega)
 have gA:Hid (w.heap.size<=W1.heap.size):=aa HW.out.size;have Ej:j=0\/j=1\/j=2\/j=3\/j=4\/j=5\/j=6\/j=7\/j=8\/j=9:=by omega
 rcases Ej with rfl | rfl | rfl | rfl | rfl | rfl | rfl | rfl | rfl | rfl
 ·have eE:op=14:=gF.out;subst eE;clear gF;have bh:Hid (W1.heap.size<=W1.heap.size):=aa (ag _);rcases (jh eA.size).2 with hr | hr
  ·obtain⟨⟨o0,o1,o2,o3,o4⟩,c_,cZ,cY,cX,cF⟩:=ay bG.out;obtain⟨m0,m1,kR,kQ⟩:=cV iE.out;obtain⟨⟨f0,f1,f2,f3,f4⟩,kZ,kY,kX,kW,kV⟩:=ay aG.out;have lM:=eU 48 48 (by decide) W1;obtain⟨x9,ky,ey,mb,hby,pU,kA⟩:=aW W1 #[.int .u8 48] 5;replace aG:=bM hby.out aG;replace bN:=bM hby.out bN;replace aR:=bM hby.out aR;replace bG:=bM hby.out bG;replace HW:=aa (HW.out.trans (hby.out.mono HW.out.size));rw[ey,mb] at lM;obtain⟨⟨p0,p1,p2,p3,p4⟩,q7,qZ,qY,qX,qW⟩:=ay bG.out;replace bh:=aa (ai bh.out hby.out.size);go_upto_region 21 with fail;clear o0 c_ o1 cZ o2 cY o3 cX o4 cF m0 kR m1 kQ f0 kZ f1 kY f2 kX f3 kW f4 kV p0 q7 p1 qZ p2 qY p3 qX p4 qW;try clear lM
   try clear hr
   rw[show ((⟨#[98]⟩:ByteArray)++⟨#[48]⟩)=⟨#[98,48]⟩ from rfl];have cC:x9.grownBy (x9.setCell ⟨ko,3,none⟩ (.string ⟨#[98,48]⟩)) (some ko):=by refine aD ?_ _;exact aE _ _
   have eM:(x9.setCell ⟨ko,3,none⟩ (.string ⟨#[98,48]⟩)).heap[ko]?=_:=(aA _ ko 3 _ _ (.string ⟨#[98,48]⟩) bG.out);obtain⟨W2,iX⟩:∃ q,q=x9.setCell ⟨ko,3,none⟩ (.string ⟨#[98,48]⟩):=⟨_,rfl⟩;rw[<-iX] at cC eM ⊢;have hfo:Fr 29 x9 W2:=.aI cC (fun j hj=>by injection hj with hj;subst hj;exact⟨_,bG.out,bO⟩);replace HW:=aa (bF HW.out cC gS.out);replace aG:=aa ((cC.block _ (ae aG.out) (fun e=>by injection e with e;exact cm.out.1 e)).trans aG.out);replace bN:=aa ((cC.block _ (ae bN.out) (fun e=>by injection e with e;exact cm.out.2.1 e)).trans bN.out);replace aR:=aa ((cC.block _ (ae aR.out) (fun e=>by injection e with e;exact cm.out.2.2 e)).trans aR.out)
   have eO:Hid (W1.heap.size<=W2.heap.size):=aa (ai bh.out cC.size);replace bG:=aa eM;clear cC eM iX hfo bh;have bh:=eO;clear eO;have HT:Hid (fL w W1.heap.size kf kd kr ko ⟨xo,xb,eB,xl,xc,eA,eI,d_,ei⟩ ((d:Nat)+1) 14 false none 0 0 (⟨#[98,48]⟩) (0) d [] (.slice none 0 0) [] W2):=aa (fL.zero bG.out aG.out bN.out aR.out (nB _) fM.out cm.out gS.out HW.out bh.out);obtain⟨⟨o0,o1,o2,o3,o4⟩,c_,cZ,cY,cX,cF⟩:=ay bG.out;obtain⟨⟨r0,r1,r2,r3,r4⟩,jU,jT,kP,kO,kN⟩:=ay aR.out;go_wp2_with fail;clear o0 c_ o1 cZ o2 cY o3 cX o4 cF;have hg:=bJ (w:=W2) (k:=kr) (.int .i64 14) (.bool false) (.slice none 0 0) (.string ⟨#[98,48]⟩) (.slice none 0 0)
   have hf:Fr 29 W2 _:=.aI hg (fun j hj=>by injection hj with hj;subst hj;exact⟨_,aR.out,bO⟩);obtain⟨h1,h2,h3,h4⟩:=HT.out.fin hg hf (by unfold IR;decide) gA.out mh.out (by unfold fh;simp) (dr (by decide)) (fun _ _ _=>rfl) (by simp) (rfl);(try simp only[aN,bx]);exact aJ (v:=.agg #[.int .i64 14,.bool false,.slice none 0 0,.string ⟨#[98,48]⟩,.slice none 0 0]) (by simp[results,aQ,go_sem,r0,r1,r2,r3,r4]) rfl ⟨_,_,rfl,h1,h2,rfl,h3,h4⟩
  obtain⟨⟨o0,o1,o2,o3,o4⟩,c_,cZ,cY,cX,cF⟩:=ay bG.out;obtain⟨m0,m1,kR,kQ⟩:=cV iE.out;obtain⟨⟨f0,f1,f2,f3,f4⟩,kZ,kY,kX,kW,kV⟩:=ay aG.out;have lM:=eU 49 49 (by decide) W1;obtain⟨x9,ky,ey,mb,hby,pU,kA⟩:=aW W1 #[.int .u8 49] 5;replace aG:=bM hby.out aG;replace bN:=bM hby.out bN;replace aR:=bM hby.out aR;replace bG:=bM hby.out bG;replace HW:=aa (HW.out.trans (hby.out.mono HW.out.size));rw[ey,mb] at lM;obtain⟨⟨p0,p1,p2,p3,p4⟩,q7,qZ,qY,qX,qW⟩:=ay bG.out;replace bh:=aa (ai bh.out hby.out.size);go_upto_region 21 with fail;clear o0 c_ o1 cZ o2 cY o3 cX o4 cF m0 kR m1 kQ f0 kZ f1 kY f2 kX f3 kW f4 kV p0 q7 p1 qZ p2 qY p3 qX p4 qW;try clear lM
  try clear hr
  rw[show ((⟨#[98]⟩:ByteArray)++⟨#[49]⟩)=⟨#[98,49]⟩ from rfl];have cC:x9.grownBy (x9.setCell ⟨ko,3,none⟩ (.string ⟨#[98,49]⟩)) (some ko):=by refine aD ?_ _;exact aE _ _
  have eM:(x9.setCell ⟨ko,3,none⟩ (.string ⟨#[98,49]⟩)).heap[ko]?=_:=(aA _ ko 3 _ _ (.string ⟨#[98,49]⟩) bG.out);obtain⟨W2,iX⟩:∃ q,q=x9.setCell ⟨ko,3,none⟩ (.string ⟨#[98,49]⟩):=⟨_,rfl⟩;rw[<-iX] at cC eM ⊢;have hfo:Fr 29 x9 W2:=.aI cC (fun j hj=>by injection hj with hj;subst hj;exact⟨_,bG.out,bO⟩);replace HW:=aa (bF HW.out cC gS.out);replace aG:=aa ((cC.block _ (ae aG.out) (fun e=>by injection e with e;exact cm.out.1 e)).trans aG.out);replace bN:=aa ((cC.block _ (ae bN.out) (fun e=>by injection e with e;exact cm.out.2.1 e)).trans bN.out);replace aR:=aa ((cC.block _ (ae aR.out) (fun e=>by injection e with e;exact cm.out.2.2 e)).trans aR.out)
  have eO:Hid (W1.heap.size<=W2.heap.size):=aa (ai bh.out cC.size);replace bG:=aa eM;clear cC eM iX hfo bh;have bh:=eO;clear eO;have HT:Hid (fL w W1.heap.size kf kd kr ko ⟨xo,xb,eB,xl,xc,eA,eI,d_,ei⟩ ((d:Nat)+1) 14 false none 0 0 (⟨#[98,49]⟩) (0) d [] (.slice none 0 0) [] W2):=aa (fL.zero bG.out aG.out bN.out aR.out (nB _) fM.out cm.out gS.out HW.out bh.out);obtain⟨⟨o0,o1,o2,o3,o4⟩,c_,cZ,cY,cX,cF⟩:=ay bG.out;obtain⟨⟨r0,r1,r2,r3,r4⟩,jU,jT,kP,kO,kN⟩:=ay aR.out;go_wp2_with fail;clear o0 c_ o1 cZ o2 cY o3 cX o4 cF;have hg:=bJ (w:=W2) (k:=kr) (.int .i64 14) (.bool false) (.slice none 0 0) (.string ⟨#[98,49]⟩) (.slice none 0 0)
  have hf:Fr 29 W2 _:=.aI hg (fun j hj=>by injection hj with hj;subst hj;exact⟨_,aR.out,bO⟩);obtain⟨h1,h2,h3,h4⟩:=HT.out.fin hg hf (by unfold IR;decide) gA.out mh.out (by unfold fh;simp) (dr (by decide)) (fun _ _ _=>rfl) (by simp) (rfl);(try simp only[aN,bx]);exact aJ (v:=.agg #[.int .i64 14,.bool false,.slice none 0 0,.string ⟨#[98,49]⟩,.slice none 0 0]) (by simp[results,aQ,go_sem,r0,r1,r2,r3,r4]) rfl ⟨_,_,rfl,h1,h2,rfl,h3,h4⟩
 ·have eE:op=12:=gF.out;subst eE;clear gF;have bh:Hid (W1.heap.size<=W1.heap.size):=aa (ag _);have HT:Hid (fL w W1.heap.size kf kd kr ko ⟨xo,xb,eB,xl,xc,eA,eI,d_,ei⟩ ((d:Nat)+1) 12 false none 0 0 (⟨#[]⟩) (0) d [] (.slice none 0 0) [] W1):=aa (fL.zero bG.out aG.out bN.out aR.out (nB _) fM.out cm.out gS.out HW.out bh.out);obtain⟨⟨o0,o1,o2,o3,o4⟩,c_,cZ,cY,cX,cF⟩:=ay bG.out;obtain⟨⟨r0,r1,r2,r3,r4⟩,jU,jT,kP,kO,kN⟩:=ay aR.out;go_wp2_with fail;clear o0 c_ o1 cZ o2 cY o3 cX o4 cF;have hg:=bJ (w:=W1) (k:=kr) (.int .i64 12) (.bool false) (.slice none 0 0) (.string ⟨#[]⟩) (.slice none 0 0);have hf:Fr 29 W1 _:=.aI hg (fun j hj=>by injection hj with hj;subst hj;exact⟨_,aR.out,bO⟩)
  obtain⟨h1,h2,h3,h4⟩:=HT.out.fin hg hf (by unfold IR;decide) gA.out mh.out (by unfold fh;simp) (dr (by decide)) (fun _ _ _=>rfl) (by simp) (rfl);(try simp only[aN,bx]);exact aJ (v:=.agg #[.int .i64 12,.bool false,.slice none 0 0,.string ⟨#[]⟩,.slice none 0 0]) (by simp[results,aQ,go_sem,r0,r1,r2,r3,r4]) rfl ⟨_,_,rfl,h1,h2,rfl,h3,h4⟩
 ·have eE:op=13:=gF.out;subst eE;clear gF;have bh:Hid (W1.heap.size<=W1.heap.size):=aa (ag _);have HT:Hid (fL w W1.heap.size kf kd kr ko ⟨xo,xb,eB,xl,xc,eA,eI,d_,ei⟩ ((d:Nat)+1) 13 false none 0 0 (⟨#[]⟩) (0) d [] (.slice none 0 0) [] W1):=aa (fL.zero bG.out aG.out bN.out aR.out (nB _) fM.out cm.out gS.out HW.out bh.out);obtain⟨⟨o0,o1,o2,o3,o4⟩,c_,cZ,cY,cX,cF⟩:=ay bG.out;obtain⟨⟨r0,r1,r2,r3,r4⟩,jU,jT,kP,kO,kN⟩:=ay aR.out;go_wp2_with fail;clear o0 c_ o1 cZ o2 cY o3 cX o4 cF;have hg:=bJ (w:=W1) (k:=kr) (.int .i64 13) (.bool false) (.slice none 0 0) (.string ⟨#[]⟩) (.slice none 0 0);have hf:Fr 29 W1 _:=.aI hg (fun j hj=>by injection hj with hj;subst hj;exact⟨_,aR.out,bO⟩)
  obtain⟨h1,h2,h3,h4⟩:=HT.out.fin hg hf (by unfold IR;decide) gA.out mh.out (by unfold fh;simp) (dr (by decide)) (fun _ _ _=>rfl) (by simp) (rfl);(try simp only[aN,bx]);exact aJ (v:=.agg #[.int .i64 13,.bool false,.slice none 0 0,.string ⟨#[]⟩,.slice none 0 0]) (by simp[results,aQ,go_sem,r0,r1,r2,r3,r4]) rfl ⟨_,_,rfl,h1,h2,rfl,h3,h4⟩
 ·have eE:op=15:=gF.out;subst eE;clear gF;have bh:Hid (W1.heap.size<=W1.heap.size):=aa (ag _);have HT:Hid (fL w W1.heap.size kf kd kr ko ⟨xo,xb,eB,xl,xc,eA,eI,d_,ei⟩ ((d:Nat)+1) 15 false none 0 0 (⟨#[]⟩) (0) d [] (.slice none 0 0) [] W1):=aa (fL.zero bG.out aG.out bN.out aR.out (nB _) fM.out cm.out gS.out HW.out bh.out);clear iE;have yZ:Hid (W1.heap.size<=W1.heap.size):=aa (ag _);obtain⟨⟨o0,o1,o2,o3,o4⟩,c_,cZ,cY,cX,cF⟩:=ay bG.out;go_wp2_with fail;clear o0 c_ o1 cZ o2 cY o3 cX o4 cF;refine (gL d HD.out rj.out w W1 W1.heap.size kf kd kr ko ⟨xo,xb,eB,xl,xc,eA,eI,d_,ei⟩ HX.out 15 false none 0 0 ⟨#[]⟩ (0) [] _ [] 0 0 (by decide) (by decide) HT.out (by rw[HT.out.len];simp)).mono ?_
  rintro e X1 ⟨⟨q0,rfl⟩,t0,v0,qI,hs,ht⟩;replace HT:=aa ht;have k5:=aa hs;clear hs ht;go_wp2_with fail;refine (gL d HD.out rj.out w X1 W1.heap.size kf kd kr ko ⟨xo,xb,eB,xl,xc,eA,eI,d_,ei⟩ HX.out 15 false none 0 0 ⟨#[]⟩ (0) ([]++[t0]) _ qI 1 0 (by decide) (by decide) HT.out (by rw[HT.out.len];simp)).mono ?_;rintro e X2 ⟨⟨q1,rfl⟩,t1,v1,BK,hs,ht⟩;replace HT:=aa ht;have lP:=aa hs;clear hs ht;obtain⟨vo,vc,hv,-⟩:=HT.out.row.form;subst hv;obtain⟨N,hN⟩:∃ N,N=BK.length:=⟨_,rfl⟩;rw[<-hN] at HT;clear hN;replace bG:=aa HT.out.ho;replace aR:=aa HT.out.hr;obtain⟨⟨o0,o1,o2,o3,o4⟩,c_,cZ,cY,cX,cF⟩:=ay bG.out;obtain⟨⟨r0,r1,r2,r3,r4⟩,jU,jT,kP,kO,kN⟩:=ay aR.out;go_wp2_with fail
  clear o0 c_ o1 cZ o2 cY o3 cX o4 cF;have hg:=bJ (w:=X2) (k:=kr) (.int .i64 15) (.bool false) (.slice none 0 0) (.string ⟨#[]⟩) (.slice vo N vc);have hf:Fr 29 X2 _:=.aI hg (fun j hj=>by injection hj with hj;subst hj;exact⟨_,aR.out,bO⟩);obtain⟨h1,h2,h3,h4⟩:=HT.out.fin hg hf (by unfold IR;decide) gA.out mh.out (by unfold fh;simp) (dr (by decide)) (fun _ _ _=>rfl) (by simp) (by simp[dw,bK,di,k5.out,lP.out]);(try simp only[aN,bx]);exact aJ (v:=.agg #[.int .i64 15,.bool false,.slice none 0 0,.string ⟨#[]⟩,.slice vo N vc]) (by simp[results,aQ,go_sem,r0,r1,r2,r3,r4]) rfl ⟨_,_,rfl,h1,h2,rfl,h3,h4⟩
 ·have eE:op=16:=gF.out;subst eE;clear gF;have bh:Hid (W1.heap.size<=W1.heap.size):=aa (ag _);have Mz:(((4:Nat):Int)==5)=false:=rfl;have HT:Hid (fL w W1.heap.size kf kd kr ko ⟨xo,xb,eB,xl,xc,eA,eI,d_,ei⟩ ((d:Nat)+1) 16 false none 0 0 (⟨#[]⟩) (0) d [] (.slice none 0 0) [] W1):=aa (fL.zero bG.out aG.out bN.out aR.out (nB _) fM.out cm.out gS.out HW.out bh.out);clear iE;have yZ:Hid (W1.heap.size<=W1.heap.size):=aa (ag _);obtain⟨⟨o0,o1,o2,o3,o4⟩,c_,cZ,cY,cX,cF⟩:=ay bG.out;go_wp2_with fail;clear o0 c_ o1 cZ o2 cY o3 cX o4 cF
  refine (gL d HD.out rj.out w W1 W1.heap.size kf kd kr ko ⟨xo,xb,eB,xl,xc,eA,eI,d_,ei⟩ HX.out 16 false none 0 0 ⟨#[]⟩ (0) [] _ [] 0 0 (by decide) (by decide) HT.out (by rw[HT.out.len];simp)).mono ?_;rintro e X1 ⟨⟨q0,rfl⟩,t0,v0,qI,hs,ht⟩;replace HT:=aa ht;have k5:=aa hs;clear hs ht;go_wp2_with fail;refine (gL d HD.out rj.out w X1 W1.heap.size kf kd kr ko ⟨xo,xb,eB,xl,xc,eA,eI,d_,ei⟩ HX.out 16 false none 0 0 ⟨#[]⟩ (0) ([]++[t0]) _ qI 1 0 (by decide) (by decide) HT.out (by rw[HT.out.len];simp)).mono ?_;rintro e X2 ⟨⟨q1,rfl⟩,t1,v1,BK,hs,ht⟩;replace HT:=aa ht;have lP:=aa hs;clear hs ht;obtain⟨vo,vc,hv,-⟩:=HT.out.row.form;subst hv;obtain⟨N,hN⟩:∃ N,N=BK.length:=⟨_,rfl⟩;rw[<-hN] at HT;clear hN;replace bG:=aa HT.out.ho
  replace aR:=aa HT.out.hr;obtain⟨⟨o0,o1,o2,o3,o4⟩,c_,cZ,cY,cX,cF⟩:=ay bG.out;obtain⟨⟨r0,r1,r2,r3,r4⟩,jU,jT,kP,kO,kN⟩:=ay aR.out;go_wp2_with fail;clear o0 c_ o1 cZ o2 cY o3 cX o4 cF;have hg:=bJ (w:=X2) (k:=kr) (.int .i64 16) (.bool false) (.slice none 0 0) (.string ⟨#[]⟩) (.slice vo N vc);have hf:Fr 29 X2 _:=.aI hg (fun j hj=>by injection hj with hj;subst hj;exact⟨_,aR.out,bO⟩);obtain⟨h1,h2,h3,h4⟩:=HT.out.fin hg hf (by unfold IR;decide) gA.out mh.out (by unfold fh;simp) (dr (by decide)) (fun _ _ _=>rfl) (by simp) (by simp[dw,bK,di,k5.out,lP.out]);(try simp only[aN,bx])
  exact aJ (v:=.agg #[.int .i64 16,.bool false,.slice none 0 0,.string ⟨#[]⟩,.slice vo N vc]) (by simp[results,aQ,go_sem,r0,r1,r2,r3,r4]) rfl ⟨_,_,rfl,h1,h2,rfl,h3,h4⟩
 ·have eE:op=16:=gF.out;subst eE;clear gF;have bh:Hid (W1.heap.size<=W1.heap.size):=aa (ag _);have Mz:(((5:Nat):Int)==5)=true:=rfl;have HT:Hid (fL w W1.heap.size kf kd kr ko ⟨xo,xb,eB,xl,xc,eA,eI,d_,ei⟩ ((d:Nat)+1) 16 false none 0 0 (⟨#[]⟩) (0) d [] (.slice none 0 0) [] W1):=aa (fL.zero bG.out aG.out bN.out aR.out (nB _) fM.out cm.out gS.out HW.out bh.out);clear iE;have yZ:Hid (W1.heap.size<=W1.heap.size):=aa (ag _);obtain⟨⟨o0,o1,o2,o3,o4⟩,c_,cZ,cY,cX,cF⟩:=ay bG.out;go_wp2_with fail;clear o0 c_ o1 cZ o2 cY o3 cX o4 cF
  refine (gL d HD.out rj.out w W1 W1.heap.size kf kd kr ko ⟨xo,xb,eB,xl,xc,eA,eI,d_,ei⟩ HX.out 16 false none 0 0 ⟨#[]⟩ (0) [] _ [] 0 2 (by decide) (by decide) HT.out (by rw[HT.out.len];simp)).mono ?_;rintro e X1 ⟨⟨q0,rfl⟩,t0,v0,qI,hs,ht⟩;replace HT:=aa ht;have k5:=aa hs;clear hs ht;go_wp2_with fail;refine (gL d HD.out rj.out w X1 W1.heap.size kf kd kr ko ⟨xo,xb,eB,xl,xc,eA,eI,d_,ei⟩ HX.out 16 false none 0 0 ⟨#[]⟩ (0) ([]++[t0]) _ qI 1 2 (by decide) (by decide) HT.out (by rw[HT.out.len];simp)).mono ?_;rintro e X2 ⟨⟨q1,rfl⟩,t1,v1,BK,hs,ht⟩;replace HT:=aa ht;have lP:=aa hs;clear hs ht;obtain⟨vo,vc,hv,-⟩:=HT.out.row.form;subst hv;obtain⟨N,hN⟩:∃ N,N=BK.length:=⟨_,rfl⟩;rw[<-hN] at HT;clear hN;replace bG:=aa HT.out.ho
  replace aR:=aa HT.out.hr;obtain⟨⟨o0,o1,o2,o3,o4⟩,c_,cZ,cY,cX,cF⟩:=ay bG.out;obtain⟨⟨r0,r1,r2,r3,r4⟩,jU,jT,kP,kO,kN⟩:=ay aR.out;go_wp2_with fail;clear o0 c_ o1 cZ o2 cY o3 cX o4 cF;have hg:=bJ (w:=X2) (k:=kr) (.int .i64 16) (.bool false) (.slice none 0 0) (.string ⟨#[]⟩) (.slice vo N vc);have hf:Fr 29 X2 _:=.aI hg (fun j hj=>by injection hj with hj;subst hj;exact⟨_,aR.out,bO⟩);obtain⟨h1,h2,h3,h4⟩:=HT.out.fin hg hf (by unfold IR;decide) gA.out mh.out (by unfold fh;simp) (dr (by decide)) (fun _ _ _=>rfl) (by simp) (by simp[dw,bK,di,k5.out,lP.out]);(try simp only[aN,bx])
  exact aJ (v:=.agg #[.int .i64 16,.bool false,.slice none 0 0,.string ⟨#[]⟩,.slice vo N vc]) (by simp[results,aQ,go_sem,r0,r1,r2,r3,r4]) rfl ⟨_,_,rfl,h1,h2,rfl,h3,h4⟩
 ·have eE:op=17:=gF.out;subst eE;clear gF;have bh:Hid (W1.heap.size<=W1.heap.size):=aa (ag _);have HT:Hid (fL w W1.heap.size kf kd kr ko ⟨xo,xb,eB,xl,xc,eA,eI,d_,ei⟩ ((d:Nat)+1) 17 false none 0 0 (⟨#[]⟩) (0) d [] (.slice none 0 0) [] W1):=aa (fL.zero bG.out aG.out bN.out aR.out (nB _) fM.out cm.out gS.out HW.out bh.out);clear iE;have yZ:Hid (W1.heap.size<=W1.heap.size):=aa (ag _);obtain⟨⟨o0,o1,o2,o3,o4⟩,c_,cZ,cY,cX,cF⟩:=ay bG.out;go_wp2_with fail;clear o0 c_ o1 cZ o2 cY o3 cX o4 cF;refine (gL d HD.out rj.out w W1 W1.heap.size kf kd kr ko ⟨xo,xb,eB,xl,xc,eA,eI,d_,ei⟩ HX.out 17 false none 0 0 ⟨#[]⟩ (0) [] _ [] 0 1 (by decide) (by decide) HT.out (by rw[HT.out.len];simp)).mono ?_
  rintro e X1 ⟨⟨q0,rfl⟩,t0,v0,qI,hs,ht⟩;replace HT:=aa ht;have k5:=aa hs;clear hs ht;obtain⟨vo,vc,hv,-⟩:=HT.out.row.form;subst hv;obtain⟨N,hN⟩:∃ N,N=qI.length:=⟨_,rfl⟩;rw[<-hN] at HT;clear hN;replace bG:=aa HT.out.ho;replace aR:=aa HT.out.hr;obtain⟨⟨o0,o1,o2,o3,o4⟩,c_,cZ,cY,cX,cF⟩:=ay bG.out;obtain⟨⟨r0,r1,r2,r3,r4⟩,jU,jT,kP,kO,kN⟩:=ay aR.out;go_wp2_with fail;clear o0 c_ o1 cZ o2 cY o3 cX o4 cF;have hg:=bJ (w:=X1) (k:=kr) (.int .i64 17) (.bool false) (.slice none 0 0) (.string ⟨#[]⟩) (.slice vo N vc);have hf:Fr 29 X1 _:=.aI hg (fun j hj=>by injection hj with hj;subst hj;exact⟨_,aR.out,bO⟩)
  obtain⟨h1,h2,h3,h4⟩:=HT.out.fin hg hf (by unfold IR;decide) gA.out mh.out (by unfold fh;simp) (dr (by decide)) (fun _ _ _=>rfl) (by simp) (by simp[dw,bK,di,k5.out]);(try simp only[aN,bx]);exact aJ (v:=.agg #[.int .i64 17,.bool false,.slice none 0 0,.string ⟨#[]⟩,.slice vo N vc]) (by simp[results,aQ,go_sem,r0,r1,r2,r3,r4]) rfl ⟨_,_,rfl,h1,h2,rfl,h3,h4⟩
 ·have eE:op=18:=gF.out;subst eE;clear gF;have bh:Hid (W1.heap.size<=W1.heap.size):=aa (ag _);have HT:Hid (fL w W1.heap.size kf kd kr ko ⟨xo,xb,eB,xl,xc,eA,eI,d_,ei⟩ ((d:Nat)+1) 18 false none 0 0 (⟨#[]⟩) (0) d [] (.slice none 0 0) [] W1):=aa (fL.zero bG.out aG.out bN.out aR.out (nB _) fM.out cm.out gS.out HW.out bh.out);clear iE;obtain⟨M,hM⟩:∃ M,M=min d_ 3:=⟨_,rfl⟩;have NV:min (d_:Int) 3=(M:Int):=by omega
  have XN:M<=3:=by omega
  clear hM;obtain⟨⟨o0,o1,o2,o3,o4⟩,c_,cZ,cY,cX,cF⟩:=ay bG.out;obtain⟨⟨f0,f1,f2,f3,f4⟩,kZ,kY,kX,kW,kV⟩:=ay aG.out;go_upto_region 51 with fail;clear o0 c_ o1 cZ o2 cY o3 cX o4 cF f0 kZ f1 kY f2 kX f3 kW f4 kV;rw[show (((7:Nat):Int))=(7:Int) from rfl];go_loopw [154] (fun i wr=>∃ (j:Nat) (ts:List F) (v:ak) (us:List FU),i=.int .i64 (j:Nat)/\j<=M/\Hid (ts.length=j/\∀ t ∈ ts,cU t.op=1)/\Hid (fL w W1.heap.size kf kd kr ko ⟨xo,xb,eB,xl,xc,eA,eI,d_,ei⟩ ((d:Nat)+1) 18 false none 0 0 ⟨#[]⟩ 0 d ts v us wr)) (fun i _=>M - (eT i).toNat)
  case atStart=>exact⟨0,[],_,[],rfl,ah _,aa ⟨rfl,fun t ht=>by cases ht⟩,HT⟩
  case round =>
   clear HT aG bN aR bG HC HW bh;obtain⟨j,ts,v,us,rfl,hj,HJ,HT⟩:=hrel;by_cases hlt:j<M
   ·have Rt:j<=3:=by omega
    go_wp2_with fail;refine (gL d HD.out rj.out w wr W1.heap.size kf kd kr ko ⟨xo,xb,eB,xl,xc,eA,eI,d_,ei⟩ HX.out 18 false none 0 0 ⟨#[]⟩ 0 ts v us j 1 (by decide) (by omega) HT.out (by rw[HT.out.len,HJ.out.1];omega)).mono ?_;rintro e X1 ⟨⟨q0,rfl⟩,t0,v0,qI,hs,ht⟩;have HN:Hid ((ts++[t0]).length=j+1/\∀ t ∈ ts++[t0],cU t.op=1):=aa ⟨by simp[HJ.out.1],fun t h=>(List.mem_append.1 h).elim (fun h=>HJ.out.2 t h) (fun h=>by rw[aX] at h;subst h;exact hs)⟩;replace HT:=aa ht;clear hs ht HJ;go_wp2_with fail;go_roundw
    case rel=>exact⟨j+1,_,_,_,by go_num,hlt,HN,HT⟩
    case measure=>simp[eT];omega
   obtain⟨vo,vc,hv,-⟩:=HT.out.row.form;subst hv;obtain⟨N,hN⟩:∃ N,N=us.length:=⟨_,rfl⟩;rw[<-hN] at HT;clear hN;have bG:=aa HT.out.ho;have aR:=aa HT.out.hr;obtain⟨⟨o0,o1,o2,o3,o4⟩,c_,cZ,cY,cX,cF⟩:=ay bG.out;obtain⟨⟨r0,r1,r2,r3,r4⟩,jU,jT,kP,kO,kN⟩:=ay aR.out;go_wp2_with fail;clear o0 c_ o1 cZ o2 cY o3 cX o4 cF;have hg:=bJ (w:=wr) (k:=kr) (.int .i64 18) (.bool false) (.slice none 0 0) (.string ⟨#[]⟩) (.slice vo N vc);have hf:Fr 29 wr _:=.aI hg (fun j hj=>by injection hj with hj;subst hj;exact⟨_,aR.out,bO⟩);obtain⟨h1,h2,h3,h4⟩:=HT.out.fin hg hf (by unfold IR;decide) gA.out mh.out (by unfold fh;simp) (dr (by decide)) (fun _ _ _=>rfl) (by rw[HJ.out.1];omega) (Bh (by decide) HJ.out.2)
   (try simp only[aN,bx]);exact aJ (v:=.agg #[.int .i64 18,.bool false,.slice none 0 0,.string ⟨#[]⟩,.slice vo N vc]) (by simp[results,aQ,go_sem,r0,r1,r2,r3,r4]) rfl ⟨_,_,rfl,h1,h2,rfl,h3,h4⟩
 ·have eE:op=19:=gF.out;subst eE;clear gF;have bh:Hid (W1.heap.size<=W1.heap.size):=aa (ag _);have HT:Hid (fL w W1.heap.size kf kd kr ko ⟨xo,xb,eB,xl,xc,eA,eI,d_,ei⟩ ((d:Nat)+1) 19 false none 0 0 (⟨#[]⟩) (0) d [] (.slice none 0 0) [] W1):=aa (fL.zero bG.out aG.out bN.out aR.out (nB _) fM.out cm.out gS.out HW.out bh.out);clear iE;obtain⟨M,hM⟩:∃ M,M=min d_ 3:=⟨_,rfl⟩;have NV:min (d_:Int) 3=(M:Int):=by omega
  have XN:M<=3:=by omega
  clear hM;obtain⟨⟨o0,o1,o2,o3,o4⟩,c_,cZ,cY,cX,cF⟩:=ay bG.out;obtain⟨⟨f0,f1,f2,f3,f4⟩,kZ,kY,kX,kW,kV⟩:=ay aG.out;go_upto_region 51 with fail;clear o0 c_ o1 cZ o2 cY o3 cX o4 cF f0 kZ f1 kY f2 kX f3 kW f4 kV;rw[show (((8:Nat):Int))=(8:Int) from rfl];go_loopw [154] (fun i wr=>∃ (j:Nat) (ts:List F) (v:ak) (us:List FU),i=.int .i64 (j:Nat)/\j<=M/\Hid (ts.length=j/\∀ t ∈ ts,cU t.op=1)/\Hid (fL w W1.heap.size kf kd kr ko ⟨xo,xb,eB,xl,xc,eA,eI,d_,ei⟩ ((d:Nat)+1) 19 false none 0 0 ⟨#[]⟩ 0 d ts v us wr)) (fun i _=>M - (eT i).toNat)
  case atStart=>exact⟨0,[],_,[],rfl,ah _,aa ⟨rfl,fun t ht=>by cases ht⟩,HT⟩
  case round =>
   clear HT aG bN aR bG HC HW bh;obtain⟨j,ts,v,us,rfl,hj,HJ,HT⟩:=hrel;by_cases hlt:j<M
   ·have Rt:j<=3:=by omega
    go_wp2_with fail;refine (gL d HD.out rj.out w wr W1.heap.size kf kd kr ko ⟨xo,xb,eB,xl,xc,eA,eI,d_,ei⟩ HX.out 19 false none 0 0 ⟨#[]⟩ 0 ts v us j 1 (by decide) (by omega) HT.out (by rw[HT.out.len,HJ.out.1];omega)).mono ?_;rintro e X1 ⟨⟨q0,rfl⟩,t0,v0,qI,hs,ht⟩;have HN:Hid ((ts++[t0]).length=j+1/\∀ t ∈ ts++[t0],cU t.op=1):=aa ⟨by simp[HJ.out.1],fun t h=>(List.mem_append.1 h).elim (fun h=>HJ.out.2 t h) (fun h=>by rw[aX] at h;subst h;exact hs)⟩;replace HT:=aa ht;clear hs ht HJ;go_wp2_with fail;go_roundw
    case rel=>exact⟨j+1,_,_,_,by go_num,hlt,HN,HT⟩
    case measure=>simp[eT];omega
   obtain⟨vo,vc,hv,-⟩:=HT.out.row.form;subst hv;obtain⟨N,hN⟩:∃ N,N=us.length:=⟨_,rfl⟩;rw[<-hN] at HT;clear hN;have bG:=aa HT.out.ho;have aR:=aa HT.out.hr;obtain⟨⟨o0,o1,o2,o3,o4⟩,c_,cZ,cY,cX,cF⟩:=ay bG.out;obtain⟨⟨r0,r1,r2,r3,r4⟩,jU,jT,kP,kO,kN⟩:=ay aR.out;go_wp2_with fail;clear o0 c_ o1 cZ o2 cY o3 cX o4 cF;have hg:=bJ (w:=wr) (k:=kr) (.int .i64 19) (.bool false) (.slice none 0 0) (.string ⟨#[]⟩) (.slice vo N vc);have hf:Fr 29 wr _:=.aI hg (fun j hj=>by injection hj with hj;subst hj;exact⟨_,aR.out,bO⟩);obtain⟨h1,h2,h3,h4⟩:=HT.out.fin hg hf (by unfold IR;decide) gA.out mh.out (by unfold fh;simp) (dr (by decide)) (fun _ _ _=>rfl) (by rw[HJ.out.1];omega) (Bh (by decide) HJ.out.2)
   (try simp only[aN,bx]);exact aJ (v:=.agg #[.int .i64 19,.bool false,.slice none 0 0,.string ⟨#[]⟩,.slice vo N vc]) (by simp[results,aQ,go_sem,r0,r1,r2,r3,r4]) rfl ⟨_,_,rfl,h1,h2,rfl,h3,h4⟩
 have eE:op=20:=gF.out;subst eE;clear gF;have bh:Hid (W1.heap.size<=W1.heap.size):=aa (ag _);have HT:Hid (fL w W1.heap.size kf kd kr ko ⟨xo,xb,eB,xl,xc,eA,eI,d_,ei⟩ ((d:Nat)+1) 20 false none 0 0 (⟨#[]⟩) (0) d [] (.slice none 0 0) [] W1):=aa (fL.zero bG.out aG.out bN.out aR.out (nB _) fM.out cm.out gS.out HW.out bh.out);clear iE;have yZ:Hid (W1.heap.size<=W1.heap.size):=aa (ag _);obtain⟨⟨o0,o1,o2,o3,o4⟩,c_,cZ,cY,cX,cF⟩:=ay bG.out;go_wp2_with fail;clear o0 c_ o1 cZ o2 cY o3 cX o4 cF;refine (gL d HD.out rj.out w W1 W1.heap.size kf kd kr ko ⟨xo,xb,eB,xl,xc,eA,eI,d_,ei⟩ HX.out 20 false none 0 0 ⟨#[]⟩ (0) [] _ [] 0 1 (by decide) (by decide) HT.out (by rw[HT.out.len];simp)).mono ?_
 rintro e X1 ⟨⟨q0,rfl⟩,t0,v0,qI,hs,ht⟩;replace HT:=aa ht;have k5:=aa hs;clear hs ht;go_wp2_with fail;refine (gL d HD.out rj.out w X1 W1.heap.size kf kd kr ko ⟨xo,xb,eB,xl,xc,eA,eI,d_,ei⟩ HX.out 20 false none 0 0 ⟨#[]⟩ (0) ([]++[t0]) _ qI 1 1 (by decide) (by decide) HT.out (by rw[HT.out.len];simp)).mono ?_;rintro e X2 ⟨⟨q1,rfl⟩,t1,v1,BK,hs,ht⟩;replace HT:=aa ht;have lP:=aa hs;clear hs ht;obtain⟨vo,vc,hv,-⟩:=HT.out.row.form;subst hv;obtain⟨N,hN⟩:∃ N,N=BK.length:=⟨_,rfl⟩;rw[<-hN] at HT;clear hN;replace bG:=aa HT.out.ho;replace aR:=aa HT.out.hr;obtain⟨⟨o0,o1,o2,o3,o4⟩,c_,cZ,cY,cX,cF⟩:=ay bG.out;obtain⟨⟨r0,r1,r2,r3,r4⟩,jU,jT,kP,kO,kN⟩:=ay aR.out;go_wp2_with fail
 clear o0 c_ o1 cZ o2 cY o3 cX o4 cF;have hg:=bJ (w:=X2) (k:=kr) (.int .i64 20) (.bool false) (.slice none 0 0) (.string ⟨#[]⟩) (.slice vo N vc);have hf:Fr 29 X2 _:=.aI hg (fun j hj=>by injection hj with hj;subst hj;exact⟨_,aR.out,bO⟩);obtain⟨h1,h2,h3,h4⟩:=HT.out.fin hg hf (by unfold IR;decide) gA.out mh.out (by unfold fh;simp) (dr (by decide)) (fun _ _ _=>rfl) (by simp) (by simp[dw,bK,di,k5.out,lP.out]);(try simp only[aN,bx]);exact aJ (v:=.agg #[.int .i64 20,.bool false,.slice none 0 0,.string ⟨#[]⟩,.slice vo N vc]) (by simp[results,aQ,go_sem,r0,r1,r2,r3,r4]) rfl ⟨_,_,rfl,h1,h2,rfl,h3,h4⟩
def rD (j:Nat):Int:=[(8:Int),(9:Int),(10:Int),(11:Int)].getD j 0
theorem Ge (d:Nat) (Io:1<=d) (hd:d<=100) (IT:rS d) (xo:Int) (xb:Bool) (eB:Option Addr) (xl xc:Nat) (eA:ByteArray) (eI:Option Addr) (d_ ei:Nat) (w:af) (hx:ld w (d+1) ⟨xo,xb,eB,xl,xc,eA,eI,d_,ei⟩) :
  aV aj 13 #[.agg #[.int .i64 xo,.bool xb,.slice eB xl xc,.string eA,.slice eI d_ ei],.int .i64 2,.int .i64 ((d:Nat)+1:Int)] w (jA (d+1) 2 w):=by
 have HX:=aa hx;have rj:=aa IT;have HD:=aa hd;have N5:decide (((d:Nat)+1:Int)<=1)=false:=by simp;omega
 clear IT Io hd;obtain⟨-,hn,-,⟨iA,eR⟩,-⟩:=hx;simp only at hn iA eR;have Hw:ei<=9223372036854775807:=eR;obtain⟨m,hm⟩:∃ m,m=min xl 2:=⟨_,rfl⟩;have hmin:min (xl:Int) 2=(m:Int):=by omega
 have yV:m<=2:=by omega
 have hml:m<=xl:=by omega
 have uj:∃ q,GN w (.slice eB m xc) q 2/\xl<=xc/\xc<=9223372036854775807:=by
  obtain⟨xs,hs,Cb⟩:=hn;have hl:=pL hs;obtain⟨_,_,e,h1,h2,_⟩:=id hs;injection e with e1 e2 e3;subst e3;exact⟨_,⟨xs.take m,hs.take m (by omega),Cb.take m,rfl,by rw[bD];omega⟩,by omega,h2⟩
 obtain⟨q,hq,hlc,hc⟩:=uj;have Ia:m<=xc:=by omega
 have HG:=aa hq;clear hq hn hm eR;obtain⟨K,hK,Ep⟩:=oO xo;obtain⟨j,hj⟩:∃ j,j=K % 4:=⟨_,rfl⟩;have zV:((K:Nat):Int).tmod 4=((j:Nat):Int):=by rw[hj];exact (oz K 4).symm
 have N0:j<4:=by rw[hj];exact ig _ (by decide)
 clear hj Ep;have HW:=aa (ax w.heap.size w);go_enter Tryz.func13,Tryz.ntmps13;obtain⟨x1,kf,ef,ki,cn,jC,aG⟩:=aW w #[.int .i64 xo,.bool xb,.slice eB xl xc,.string eA,.slice eI d_ ei] 29;replace HW:=aa (HW.out.trans (cn.out.mono HW.out.size));replace HG:=aa (HG.out.below cn.out);obtain⟨x2,kd,ed,OC,hbd,wA,bN⟩:=aW x1 #[.int .i64 ((d:Nat)+1:Int)] 3;replace aG:=bM hbd.out aG;replace HW:=aa (HW.out.trans (hbd.out.mono HW.out.size));replace HG:=aa (HG.out.below hbd.out);obtain⟨x3,kr,er,sG,eY,lj,aR⟩:=aW x2 #[.int .i64 0,.bool false,.slice none 0 0,.string ⟨#[]⟩,.slice none 0 0] 29;replace aG:=bM eY.out aG;replace bN:=bM eY.out bN;replace HW:=aa (HW.out.trans (eY.out.mono HW.out.size));replace HG:=aa (HG.out.below eY.out)
 have mh:Hid (w.heap.size<=kr):=aa (by have h1:=cn.out.size;have h2:=hbd.out.size;have h3:=lj.out;omega);obtain⟨x4,kp,ep,OB,nI,hkp,qG⟩:=aW x3 #[.int .i64 1,.int .i64 0,.int .i64 2,.int .i64 3,.int .i64 4,.int .i64 5,.int .i64 6,.int .i64 7] 22;replace aG:=bM nI.out aG;replace bN:=bM nI.out bN;replace aR:=bM nI.out aR;replace HW:=aa (HW.out.trans (nI.out.mono HW.out.size));replace HG:=aa (HG.out.below nI.out);obtain⟨x5,kq,eq,yY,gu,qw,mz⟩:=aW x4 #[.int .i64 14,.int .i64 12,.int .i64 13,.int .i64 15,.int .i64 16,.int .i64 16,.int .i64 17,.int .i64 18,.int .i64 19,.int .i64 20] 22;replace aG:=bM gu.out aG;replace bN:=bM gu.out bN;replace aR:=bM gu.out aR;replace HW:=aa (HW.out.trans (gu.out.mono HW.out.size))
 replace HG:=aa (HG.out.below gu.out);obtain⟨x6,kt,et,Iz,ir,lZ,wY⟩:=aW x5 #[.int .i64 8,.int .i64 9,.int .i64 10,.int .i64 11] 22;replace aG:=bM ir.out aG;replace bN:=bM ir.out bN;replace aR:=bM ir.out aR;replace HW:=aa (HW.out.trans (ir.out.mono HW.out.size));replace HG:=aa (HG.out.below ir.out);have hidx:=D2 (some ⟨kp,0,none⟩) (some ⟨kq,0,none⟩) (some ⟨kt,0,none⟩) 8 10 4 8 10 4;obtain⟨⟨f0,f1,f2,f3,f4⟩,kZ,kY,kX,kW,kV⟩:=ay aG.out;have d0:=aq (v:=.int .i64 ((d:Nat)+1:Int)) bN.out 0 rfl;have yX:=aY bN.out 0;have hop:x6.cell? ⟨kt,j,none⟩=some (.int .i64 (rD j)):=by
  have:j=0\/j=1\/j=2\/j=3:=by omega
  rcases this with rfl | rfl | rfl | rfl<;>exact aq wY.out _ rfl
 obtain⟨op,kJ⟩:∃ op,op=rD j:=⟨_,rfl⟩;rw[<-kJ] at hop;have gF:=aa kJ;clear kJ;go_upto_region 7 with fail;clear f0 kZ f1 kY f2 kX f3 kW f4 kV d0 yX hop;clear hidx zV hK;have ET:=HW;have tZ:=aG;have t_:=bN;have tY:=aR;obtain⟨x7,ko,eo,yy,eM,B8,bG⟩:=aW x6 #[.int .i64 op,.bool false,.slice none 0 0,.string ⟨#[]⟩,.slice none 0 0] 29;replace aG:=bM eM.out aG;replace bN:=bM eM.out bN;replace aR:=bM eM.out aR;replace HW:=aa (HW.out.trans (eM.out.mono HW.out.size));replace HG:=aa (HG.out.below eM.out);rw[eo,yy];have gS:Hid (w.heap.size<=ko):=aa (by have:=ET.out.size;have:=B8.out;omega);go_upto_region 8 with fail;have HY:=aa (ax x7.heap.size x7);have mj:=aG;have mo:=bN;have ow:=aR;have iD:=bG
 have dS:=ae aG.out;have fO:Hid (∀ q,q<0->(fun q=>0) q<x7.heap.size):=aa (fun q h=>absurd h (an _));refine R7.region (by kernel_rfl) [[],[0],[0,1],[],[3],[3,4],[],[6],[6,7],[6,7,8],[6,7,8,9],[3,4,5,6,7,8,9,10],[0,1,2,3,4,5,6,7,8,9,10,11],[],[0,1,2,3,4,5,6,7,8,9,10,11,12,13]] [] [] (fun q=>0) 0 14 (by kernel_rfl) (by kernel_rfl) (by rfl) fO.out (fun q q' h h' hn=>absurd hn (by omega)) ?_;refine R7.aF.dL ?_ (by rfl) (fun T xs wr hA=>?_) ?_;rotate_left 1
 ·have e3:=hA.pre 3 (by kernel_rfl);simp only[kM,lO,lF] at e3;clear hA;refine⟨(by rfl),?_⟩;go_simp<;>(try with_reducible rfl)
 refine R7.aF.dL ?_ (by rfl) (fun T xs wr hA=>?_) ?_;rotate_left 1
 ·have Bo:=hA.tm 0 36 (by rfl) (by rfl);have f36:xs 0=_:=hA.fa 0 (by rfl);(try simp (disch:=first | rfl | decide) only [R7.au] at f36);rw[f36] at Bo;clear f36;clear hA;refine⟨(by rfl),?_⟩;go_simp<;>(try with_reducible rfl)
 refine R7.aF.dL ?_ (by rfl) (fun T xs wr hA=>?_) ?_;rotate_left 1
 ·have yA:=hA.tm 1 37 (by rfl) (by rfl);have f37:xs 1=_:=hA.fa 1 (by rfl);(try simp (disch:=first | rfl | decide) only [R7.au] at f37);rw[f37] at yA;clear f37;have bB:wr.heap[kf]?=_:=(hA.bl _ dS (fun q h=>absurd h (an _))).trans aG.out;have q0:=aq (v:=.int .i64 xo) bB 0 rfl;have q1:=aq (v:=.bool xb) bB 1 rfl;have q2:=aq (v:=.slice eB xl xc) bB 2 rfl;have q3:=aq (v:=.string eA) bB 3 rfl;have q4:=aq (v:=.slice eI d_ ei) bB 4 rfl;clear bB;clear hA;refine⟨(by rfl),?_⟩;go_simp<;>(try with_reducible rfl)
 refine R7.aF.dL ?_ (by rfl) (fun T xs wr hA=>?_) ?_;rotate_left 1
 ·have e3:=hA.pre 3 (by kernel_rfl);simp only[kM,lO,lF] at e3;clear hA;refine⟨(by rfl),?_⟩;go_simp<;>(try with_reducible rfl)
 refine R7.aF.dL ?_ (by rfl) (fun T xs wr hA=>?_) ?_;rotate_left 1
 ·have vv:=hA.tm 3 39 (by rfl) (by rfl);have f39:xs 3=_:=hA.fa 3 (by rfl);(try simp (disch:=first | rfl | decide) only [R7.au] at f39);rw[f39] at vv;clear f39;clear hA;refine⟨(by rfl),?_⟩;go_simp<;>(try with_reducible rfl)
 refine R7.aF.dL ?_ (by rfl) (fun T xs wr hA=>?_) ?_;rotate_left 1
 ·have uz:=hA.tm 4 40 (by rfl) (by rfl);have f40:xs 4=_:=hA.fa 4 (by rfl);(try simp (disch:=first | rfl | decide) only [R7.au] at f40);rw[f40] at uz;clear f40;have bB:wr.heap[kf]?=_:=(hA.bl _ dS (fun q h=>absurd h (an _))).trans aG.out;have q0:=aq (v:=.int .i64 xo) bB 0 rfl;have q1:=aq (v:=.bool xb) bB 1 rfl;have q2:=aq (v:=.slice eB xl xc) bB 2 rfl;have q3:=aq (v:=.string eA) bB 3 rfl;have q4:=aq (v:=.slice eI d_ ei) bB 4 rfl;clear bB;clear hA;refine⟨(by rfl),?_⟩;go_simp<;>(try with_reducible rfl)
 refine R7.aF.dL ?_ (by rfl) (fun T xs wr hA=>?_) ?_;rotate_left 1
 ·have e3:=hA.pre 3 (by kernel_rfl);simp only[kM,lO,lF] at e3;clear hA;refine⟨(by rfl),?_⟩;go_simp<;>(try with_reducible rfl)
 refine R7.aF.dL ?_ (by rfl) (fun T xs wr hA=>?_) ?_;rotate_left 1
 ·have xg:=hA.tm 6 42 (by rfl) (by rfl);have f42:xs 6=_:=hA.fa 6 (by rfl);(try simp (disch:=first | rfl | decide) only [R7.au] at f42);rw[f42] at xg;clear f42;clear hA;refine⟨(by rfl),?_⟩;go_simp<;>(try with_reducible rfl)
 refine R7.aF.dL ?_ (by rfl) (fun T xs wr hA=>?_) ?_;rotate_left 1
 ·have uK:=hA.tm 7 43 (by rfl) (by rfl);have f43:xs 7=_:=hA.fa 7 (by rfl);(try simp (disch:=first | rfl | decide) only [R7.au] at f43);rw[f43] at uK;clear f43;have bB:wr.heap[kf]?=_:=(hA.bl _ dS (fun q h=>absurd h (an _))).trans aG.out;have q0:=aq (v:=.int .i64 xo) bB 0 rfl;have q1:=aq (v:=.bool xb) bB 1 rfl;have q2:=aq (v:=.slice eB xl xc) bB 2 rfl;have q3:=aq (v:=.string eA) bB 3 rfl;have q4:=aq (v:=.slice eI d_ ei) bB 4 rfl;clear bB;clear hA;refine⟨(by rfl),?_⟩;go_simp<;>(try with_reducible rfl)
 refine R7.aF.dL ?_ (by rfl) (fun T xs wr hA=>?_) ?_;rotate_left 1
 ·have wG:=hA.tm 8 44 (by rfl) (by rfl);have f44:xs 8=_:=hA.fa 8 (by rfl);(try simp (disch:=first | rfl | decide) only [R7.au] at f44);rw[f44] at wG;clear f44;clear hA;refine⟨(by rfl),?_⟩;go_simp<;>(try with_reducible rfl)
 refine R7.aF.dL ?_ (by rfl) (fun T xs wr hA=>?_) ?_;rotate_left 1
 ·have Bn:=hA.tm 9 45 (by rfl) (by rfl);have f45:xs 9=_:=hA.fa 9 (by rfl);(try simp (disch:=first | rfl | decide) only [R7.au] at f45);rw[f45] at Bn;clear f45;clear hA;refine⟨(by rfl),?_⟩;go_simp<;>(try with_reducible rfl)
 refine R7.aF.dL ?_ (by rfl) (fun T xs wr hA=>?_) ?_;rotate_left 1
 ·have xh:=hA.tm 5 41 (by rfl) (by rfl);have f41:xs 5=_:=hA.fa 5 (by rfl);(try simp (disch:=first | rfl | decide) only [R7.au] at f41);rw[f41] at xh;clear f41;have Ao:=hA.tm 10 46 (by rfl) (by rfl);have f46:xs 10=_:=hA.fa 10 (by rfl);(try simp (disch:=first | rfl | decide) only [R7.au] at f46);rw[f46] at Ao;clear f46;clear hA;refine⟨(by rfl),?_⟩;go_simp<;>(try with_reducible rfl)
 refine R7.aF.call (fun xs v w=>∃ z,CI w v z 2) (fun _ _ _ _ h hb=>by obtain⟨z,h2⟩:=h;exact⟨z,h2.below hb⟩) (fun _ _ _ _ _ _ h _=>by obtain⟨q,hq,_⟩:=h;exact absurd hq (an _)) (by rfl) (fun T xs wr hA=>?_) ?_
 ·have nH:=(hA.be 0 (ah _) (fun _ _=>ah _)).size;have yz:=hA.tm 2 38 (by rfl) (by rfl);have f38:xs 2=_:=hA.fa 2 (by rfl);(try simp (disch:=first | rfl | decide) only [R7.au] at f38);rw[f38] at yz;clear f38;have Bm:=hA.tm 11 47 (by rfl) (by rfl);have f47:xs 11=_:=hA.fa 11 (by rfl);(try simp (disch:=first | rfl | decide) only [R7.au] at f47);rw[f47] at Bm;clear f47;have gq:=ck (hA.be x7.heap.size (ag _) (fun q h=>absurd h (an q)));clear hA;refine⟨(by rfl),fun K hK=>?_⟩;go_simp;refine (mY xb _ q 2 wr (HG.out.below gq) (by decide)).mono ?_;rintro e w' ⟨v,rfl,hc,hb'⟩;exact hK.out _ _ ⟨_,hc⟩ hb'
 refine R7.aF.call (fun xs v w=>∃ g,v=.pointer (some ⟨g,0,none⟩)/\x7.heap.size<=g/\w.heap[g]?=some (.cells #[.bool false,.slice none 0 0] 26 (0,0))) (fun _ _ _ _ h hb=>by obtain⟨g,h1,h2,h3⟩:=h;exact⟨g,h1,h2,by rw[hb.block g (ae h3)];exact h3⟩) (fun _ _ _ _ _ _ h _=>by obtain⟨q,hq,_⟩:=h;exact absurd hq (an _)) (by rfl) (fun T xs wr hA=>?_) ?_
 ·have nH:=(hA.be 0 (ah _) (fun _ _=>ah _)).size;have gq:=ck (hA.be x7.heap.size (ag _) (fun q h=>absurd h (an q)));clear hA;refine⟨(by rfl),fun K hK=>?_⟩;go_simp;exact hK.out _ _ ⟨_,rfl,gq.size,iI _ _ _ rfl⟩ ((ax _ _).alloc (ag _) _)
 refine R7.aF.done (fun xs x8 hL=>?_);obtain⟨⟨iB,cS⟩,hf,-,-⟩:=hL;have f0:xs 0=_:=hf 0 (by decide);(try simp (disch:=first | rfl | decide) only [R7.au] at f0);have f1:xs 1=_:=hf 1 (by decide);(try simp (disch:=first | rfl | decide) only [R7.au] at f1);have f2:xs 2=_:=hf 2 (by decide);(try simp (disch:=first | rfl | decide) only [R7.au] at f2);have f3:xs 3=_:=hf 3 (by decide);(try simp (disch:=first | rfl | decide) only [R7.au] at f3);have f4:xs 4=_:=hf 4 (by decide);(try simp (disch:=first | rfl | decide) only [R7.au] at f4);have f5:xs 5=_:=hf 5 (by decide);(try simp (disch:=first | rfl | decide) only [R7.au] at f5);have f6:xs 6=_:=hf 6 (by decide);(try simp (disch:=first | rfl | decide) only [R7.au] at f6);have f7:xs 7=_:=hf 7 (by decide)
 (try simp (disch:=first | rfl | decide) only [R7.au] at f7);have f8:xs 8=_:=hf 8 (by decide);(try simp (disch:=first | rfl | decide) only [R7.au] at f8);have f9:xs 9=_:=hf 9 (by decide);(try simp (disch:=first | rfl | decide) only [R7.au] at f9);have f10:xs 10=_:=hf 10 (by decide);(try simp (disch:=first | rfl | decide) only [R7.au] at f10);have f11:xs 11=_:=hf 11 (by decide);(try simp (disch:=first | rfl | decide) only [R7.au] at f11);have Fl:∃ z,CI x8 (xs 12) z 2:=hf 12 (by decide);have Fj:∃ g,(xs 13)=.pointer (some ⟨g,0,none⟩)/\x7.heap.size<=g/\x8.heap[g]?=some (.cells #[.bool false,.slice none 0 0] 26 (0,0)):=hf 13 (by decide);have hb0:aB 0 x7 x8:=ck (iB 0 (ah _) (fun _ _=>ah _))
 have jl:∀ j,j<x7.heap.size->(∀ q,q<0->(fun q=>0) q≠j)->x8.heap[j]?=x7.heap[j]?:=cS;clear iB cS hf;have hb:aB x7.heap.size x7 x8:=⟨hb0.os,hb0.tape,hb0.output,hb0.size,fun q hq=>jl q hq (fun q h=>absurd h (an _))⟩;refine R7.ji (by decide) (by kernel_rfl) ?_;simp only[R7.fill,Gp,Gn,Gm,Gl,AU,AT,AS,f0,f1,f2,f3,f4,f5,f6,f7,f8,f9,f10,f11];clear hb0 jl fO dS f0 f1 f2 f3 f4 f5 f6 f7 f8 f9 f10 f11;replace aG:=bM hb aG;replace bN:=bM hb bN;replace aR:=bM hb aR;replace bG:=bM hb bG;replace HW:=aa (HW.out.trans (hb.mono HW.out.size));replace HY:=aa (HY.out.trans (hb.mono HY.out.size));replace hb:=aa hb;obtain⟨z,qF⟩:=Fl;obtain⟨zb,zo,zl,zc,tA⟩:=qF.shape;obtain⟨km,hkm,kL,nZ⟩:=Fj;rw[tA] at qF;rw[tA,hkm];have iE:=aa nZ
 clear qF tA hkm nZ;obtain⟨m0,m1,kR,kQ⟩:=cV iE.out;go_upto_region 9 with fail;clear m0 kR m1 kQ;have ic:=lu (w:=x8) (k:=km) (.bool zb) (.slice zo zl zc);have gp:((x8.setCell ⟨km,0,none⟩ (.bool zb)).setCell ⟨km,1,none⟩ (.slice zo zl zc)).heap[km]?=_:=aA _ km 1 _ _ _ (aA _ km 0 _ _ _ iE.out);obtain⟨W1,rO⟩:∃ q,q=(x8.setCell ⟨km,0,none⟩ (.bool zb)).setCell ⟨km,1,none⟩ (.slice zo zl zc):=⟨_,rfl⟩;rw[<-rO] at ic gp ⊢;have sE:Fr 26 x8 W1:=.aI ic (fun j hj=>by injection hj with hj;subst hj;exact⟨_,iE.out,rJ⟩);have Fc:Hid (w.heap.size<=km):=aa (ai (by have:=gS.out;have:=ae iD.out;omega) kL);replace HW:=aa (bF HW.out ic Fc.out);replace HY:=aa (bF HY.out ic kL)
 replace aG:=aa ((HY.out.block _ (ae mj.out)).trans mj.out);replace bN:=aa ((HY.out.block _ (ae mo.out)).trans mo.out);replace aR:=aa ((HY.out.block _ (ae ow.out)).trans ow.out);replace bG:=aa ((HY.out.block _ (ae iD.out)).trans iD.out);replace iE:=aa gp;clear ic gp rO sE kL;have fM:Hid (kf<W1.heap.size/\kd<W1.heap.size/\kr<W1.heap.size/\ko<W1.heap.size):=aa ⟨ae aG.out,ae bN.out,ae aR.out,ae bG.out⟩;have cm:Hid (kf≠ko/\kd≠ko/\kr≠ko):=aa (by have h1:=ae tZ.out;have h2:=ae t_.out;have h3:=ae tY.out;rw[yy] at h1 h2 h3;omega);have gA:Hid (w.heap.size<=W1.heap.size):=aa HW.out.size;have Ej:j=0\/j=1\/j=2\/j=3:=by omega
 rcases Ej with rfl | rfl | rfl | rfl
 ·have eE:op=8:=gF.out;subst eE;clear gF;have bh:Hid (W1.heap.size<=W1.heap.size):=aa (ag _);rcases (jh eA.size).2 with hr | hr
  ·obtain⟨⟨o0,o1,o2,o3,o4⟩,c_,cZ,cY,cX,cF⟩:=ay bG.out;obtain⟨m0,m1,kR,kQ⟩:=cV iE.out;obtain⟨⟨f0,f1,f2,f3,f4⟩,kZ,kY,kX,kW,kV⟩:=ay aG.out;have lM:=eU 48 48 (by decide) W1;obtain⟨x9,ky,ey,mb,hby,pU,kA⟩:=aW W1 #[.int .u8 48] 5;replace aG:=bM hby.out aG;replace bN:=bM hby.out bN;replace aR:=bM hby.out aR;replace bG:=bM hby.out bG;replace HW:=aa (HW.out.trans (hby.out.mono HW.out.size));rw[ey,mb] at lM;obtain⟨⟨p0,p1,p2,p3,p4⟩,q7,qZ,qY,qX,qW⟩:=ay bG.out;replace bh:=aa (ai bh.out hby.out.size);go_upto_region 21 with fail;clear o0 c_ o1 cZ o2 cY o3 cX o4 cF m0 kR m1 kQ f0 kZ f1 kY f2 kX f3 kW f4 kV p0 q7 p1 qZ p2 qY p3 qX p4 qW;try clear lM
   try clear hr
   rw[show ((⟨#[108]⟩:ByteArray)++⟨#[48]⟩)=⟨#[108,48]⟩ from rfl];have cC:x9.grownBy (x9.setCell ⟨ko,3,none⟩ (.string ⟨#[108,48]⟩)) (some ko):=by refine aD ?_ _;exact aE _ _
   have eM:(x9.setCell ⟨ko,3,none⟩ (.string ⟨#[108,48]⟩)).heap[ko]?=_:=(aA _ ko 3 _ _ (.string ⟨#[108,48]⟩) bG.out);obtain⟨W2,iX⟩:∃ q,q=x9.setCell ⟨ko,3,none⟩ (.string ⟨#[108,48]⟩):=⟨_,rfl⟩;rw[<-iX] at cC eM ⊢;have hfo:Fr 29 x9 W2:=.aI cC (fun j hj=>by injection hj with hj;subst hj;exact⟨_,bG.out,bO⟩);replace HW:=aa (bF HW.out cC gS.out);replace aG:=aa ((cC.block _ (ae aG.out) (fun e=>by injection e with e;exact cm.out.1 e)).trans aG.out);replace bN:=aa ((cC.block _ (ae bN.out) (fun e=>by injection e with e;exact cm.out.2.1 e)).trans bN.out);replace aR:=aa ((cC.block _ (ae aR.out) (fun e=>by injection e with e;exact cm.out.2.2 e)).trans aR.out)
   have eO:Hid (W1.heap.size<=W2.heap.size):=aa (ai bh.out cC.size);replace bG:=aa eM;clear cC eM iX hfo bh;have bh:=eO;clear eO;have HT:Hid (fL w W1.heap.size kf kd kr ko ⟨xo,xb,eB,xl,xc,eA,eI,d_,ei⟩ ((d:Nat)+1) 8 false none 0 0 (⟨#[108,48]⟩) (0) d [] (.slice none 0 0) [] W2):=aa (fL.zero bG.out aG.out bN.out aR.out (nB _) fM.out cm.out gS.out HW.out bh.out);obtain⟨⟨o0,o1,o2,o3,o4⟩,c_,cZ,cY,cX,cF⟩:=ay bG.out;obtain⟨⟨r0,r1,r2,r3,r4⟩,jU,jT,kP,kO,kN⟩:=ay aR.out;go_wp2_with fail;clear o0 c_ o1 cZ o2 cY o3 cX o4 cF;have hg:=bJ (w:=W2) (k:=kr) (.int .i64 8) (.bool false) (.slice none 0 0) (.string ⟨#[108,48]⟩) (.slice none 0 0)
   have hf:Fr 29 W2 _:=.aI hg (fun j hj=>by injection hj with hj;subst hj;exact⟨_,aR.out,bO⟩);obtain⟨h1,h2,h3,h4⟩:=HT.out.fin hg hf (by unfold IR;decide) gA.out mh.out (by unfold fh;simp) (dr (by decide)) (fun _ _ _=>rfl) (by simp) (rfl);(try simp only[aN,bx]);exact aJ (v:=.agg #[.int .i64 8,.bool false,.slice none 0 0,.string ⟨#[108,48]⟩,.slice none 0 0]) (by simp[results,aQ,go_sem,r0,r1,r2,r3,r4]) rfl ⟨_,_,rfl,h1,h2,rfl,h3,h4⟩
  obtain⟨⟨o0,o1,o2,o3,o4⟩,c_,cZ,cY,cX,cF⟩:=ay bG.out;obtain⟨m0,m1,kR,kQ⟩:=cV iE.out;obtain⟨⟨f0,f1,f2,f3,f4⟩,kZ,kY,kX,kW,kV⟩:=ay aG.out;have lM:=eU 49 49 (by decide) W1;obtain⟨x9,ky,ey,mb,hby,pU,kA⟩:=aW W1 #[.int .u8 49] 5;replace aG:=bM hby.out aG;replace bN:=bM hby.out bN;replace aR:=bM hby.out aR;replace bG:=bM hby.out bG;replace HW:=aa (HW.out.trans (hby.out.mono HW.out.size));rw[ey,mb] at lM;obtain⟨⟨p0,p1,p2,p3,p4⟩,q7,qZ,qY,qX,qW⟩:=ay bG.out;replace bh:=aa (ai bh.out hby.out.size);go_upto_region 21 with fail;clear o0 c_ o1 cZ o2 cY o3 cX o4 cF m0 kR m1 kQ f0 kZ f1 kY f2 kX f3 kW f4 kV p0 q7 p1 qZ p2 qY p3 qX p4 qW;try clear lM
  try clear hr
  rw[show ((⟨#[108]⟩:ByteArray)++⟨#[49]⟩)=⟨#[108,49]⟩ from rfl];have cC:x9.grownBy (x9.setCell ⟨ko,3,none⟩ (.string ⟨#[108,49]⟩)) (some ko):=by refine aD ?_ _;exact aE _ _
  have eM:(x9.setCell ⟨ko,3,none⟩ (.string ⟨#[108,49]⟩)).heap[ko]?=_:=(aA _ ko 3 _ _ (.string ⟨#[108,49]⟩) bG.out);obtain⟨W2,iX⟩:∃ q,q=x9.setCell ⟨ko,3,none⟩ (.string ⟨#[108,49]⟩):=⟨_,rfl⟩;rw[<-iX] at cC eM ⊢;have hfo:Fr 29 x9 W2:=.aI cC (fun j hj=>by injection hj with hj;subst hj;exact⟨_,bG.out,bO⟩);replace HW:=aa (bF HW.out cC gS.out);replace aG:=aa ((cC.block _ (ae aG.out) (fun e=>by injection e with e;exact cm.out.1 e)).trans aG.out);replace bN:=aa ((cC.block _ (ae bN.out) (fun e=>by injection e with e;exact cm.out.2.1 e)).trans bN.out);replace aR:=aa ((cC.block _ (ae aR.out) (fun e=>by injection e with e;exact cm.out.2.2 e)).trans aR.out)
  have eO:Hid (W1.heap.size<=W2.heap.size):=aa (ai bh.out cC.size);replace bG:=aa eM;clear cC eM iX hfo bh;have bh:=eO;clear eO;have HT:Hid (fL w W1.heap.size kf kd kr ko ⟨xo,xb,eB,xl,xc,eA,eI,d_,ei⟩ ((d:Nat)+1) 8 false none 0 0 (⟨#[108,49]⟩) (0) d [] (.slice none 0 0) [] W2):=aa (fL.zero bG.out aG.out bN.out aR.out (nB _) fM.out cm.out gS.out HW.out bh.out);obtain⟨⟨o0,o1,o2,o3,o4⟩,c_,cZ,cY,cX,cF⟩:=ay bG.out;obtain⟨⟨r0,r1,r2,r3,r4⟩,jU,jT,kP,kO,kN⟩:=ay aR.out;go_wp2_with fail;clear o0 c_ o1 cZ o2 cY o3 cX o4 cF;have hg:=bJ (w:=W2) (k:=kr) (.int .i64 8) (.bool false) (.slice none 0 0) (.string ⟨#[108,49]⟩) (.slice none 0 0)
  have hf:Fr 29 W2 _:=.aI hg (fun j hj=>by injection hj with hj;subst hj;exact⟨_,aR.out,bO⟩);obtain⟨h1,h2,h3,h4⟩:=HT.out.fin hg hf (by unfold IR;decide) gA.out mh.out (by unfold fh;simp) (dr (by decide)) (fun _ _ _=>rfl) (by simp) (rfl);(try simp only[aN,bx]);exact aJ (v:=.agg #[.int .i64 8,.bool false,.slice none 0 0,.string ⟨#[108,49]⟩,.slice none 0 0]) (by simp[results,aQ,go_sem,r0,r1,r2,r3,r4]) rfl ⟨_,_,rfl,h1,h2,rfl,h3,h4⟩
 ·have eE:op=9:=gF.out;subst eE;clear gF;have bh:Hid (W1.heap.size<=W1.heap.size):=aa (ag _);have HT:Hid (fL w W1.heap.size kf kd kr ko ⟨xo,xb,eB,xl,xc,eA,eI,d_,ei⟩ ((d:Nat)+1) 9 false none 0 0 (⟨#[]⟩) (0) d [] (.slice none 0 0) [] W1):=aa (fL.zero bG.out aG.out bN.out aR.out (nB _) fM.out cm.out gS.out HW.out bh.out);obtain⟨⟨o0,o1,o2,o3,o4⟩,c_,cZ,cY,cX,cF⟩:=ay bG.out;obtain⟨⟨r0,r1,r2,r3,r4⟩,jU,jT,kP,kO,kN⟩:=ay aR.out;go_wp2_with fail;clear o0 c_ o1 cZ o2 cY o3 cX o4 cF;have hg:=bJ (w:=W1) (k:=kr) (.int .i64 9) (.bool false) (.slice none 0 0) (.string ⟨#[]⟩) (.slice none 0 0);have hf:Fr 29 W1 _:=.aI hg (fun j hj=>by injection hj with hj;subst hj;exact⟨_,aR.out,bO⟩)
  obtain⟨h1,h2,h3,h4⟩:=HT.out.fin hg hf (by unfold IR;decide) gA.out mh.out (by unfold fh;simp) (dr (by decide)) (fun _ _ _=>rfl) (by simp) (rfl);(try simp only[aN,bx]);exact aJ (v:=.agg #[.int .i64 9,.bool false,.slice none 0 0,.string ⟨#[]⟩,.slice none 0 0]) (by simp[results,aQ,go_sem,r0,r1,r2,r3,r4]) rfl ⟨_,_,rfl,h1,h2,rfl,h3,h4⟩
 ·have eE:op=10:=gF.out;subst eE;clear gF;have bh:Hid (W1.heap.size<=W1.heap.size):=aa (ag _);have HT:Hid (fL w W1.heap.size kf kd kr ko ⟨xo,xb,eB,xl,xc,eA,eI,d_,ei⟩ ((d:Nat)+1) 10 false none 0 0 (⟨#[]⟩) (0) d [] (.slice none 0 0) [] W1):=aa (fL.zero bG.out aG.out bN.out aR.out (nB _) fM.out cm.out gS.out HW.out bh.out);clear iE;have yZ:Hid (W1.heap.size<=W1.heap.size):=aa (ag _);obtain⟨⟨o0,o1,o2,o3,o4⟩,c_,cZ,cY,cX,cF⟩:=ay bG.out;go_wp2_with fail;clear o0 c_ o1 cZ o2 cY o3 cX o4 cF;refine (gL d HD.out rj.out w W1 W1.heap.size kf kd kr ko ⟨xo,xb,eB,xl,xc,eA,eI,d_,ei⟩ HX.out 10 false none 0 0 ⟨#[]⟩ (0) [] _ [] 0 0 (by decide) (by decide) HT.out (by rw[HT.out.len];simp)).mono ?_
  rintro e X1 ⟨⟨q0,rfl⟩,t0,v0,qI,hs,ht⟩;replace HT:=aa ht;have k5:=aa hs;clear hs ht;go_wp2_with fail;refine (gL d HD.out rj.out w X1 W1.heap.size kf kd kr ko ⟨xo,xb,eB,xl,xc,eA,eI,d_,ei⟩ HX.out 10 false none 0 0 ⟨#[]⟩ (0) ([]++[t0]) _ qI 1 2 (by decide) (by decide) HT.out (by rw[HT.out.len];simp)).mono ?_;rintro e X2 ⟨⟨q1,rfl⟩,t1,v1,BK,hs,ht⟩;replace HT:=aa ht;have lP:=aa hs;clear hs ht;obtain⟨vo,vc,hv,-⟩:=HT.out.row.form;subst hv;obtain⟨N,hN⟩:∃ N,N=BK.length:=⟨_,rfl⟩;rw[<-hN] at HT;clear hN;replace bG:=aa HT.out.ho;replace aR:=aa HT.out.hr;obtain⟨⟨o0,o1,o2,o3,o4⟩,c_,cZ,cY,cX,cF⟩:=ay bG.out;obtain⟨⟨r0,r1,r2,r3,r4⟩,jU,jT,kP,kO,kN⟩:=ay aR.out;go_wp2_with fail
  clear o0 c_ o1 cZ o2 cY o3 cX o4 cF;have hg:=bJ (w:=X2) (k:=kr) (.int .i64 10) (.bool false) (.slice none 0 0) (.string ⟨#[]⟩) (.slice vo N vc);have hf:Fr 29 X2 _:=.aI hg (fun j hj=>by injection hj with hj;subst hj;exact⟨_,aR.out,bO⟩);obtain⟨h1,h2,h3,h4⟩:=HT.out.fin hg hf (by unfold IR;decide) gA.out mh.out (by unfold fh;simp) (dr (by decide)) (fun _ _ _=>rfl) (by simp) (by simp[dw,bK,di,k5.out,lP.out]);(try simp only[aN,bx]);exact aJ (v:=.agg #[.int .i64 10,.bool false,.slice none 0 0,.string ⟨#[]⟩,.slice vo N vc]) (by simp[results,aQ,go_sem,r0,r1,r2,r3,r4]) rfl ⟨_,_,rfl,h1,h2,rfl,h3,h4⟩
 have eE:op=11:=gF.out;subst eE;clear gF;have bh:Hid (W1.heap.size<=W1.heap.size):=aa (ag _);have HT:Hid (fL w W1.heap.size kf kd kr ko ⟨xo,xb,eB,xl,xc,eA,eI,d_,ei⟩ ((d:Nat)+1) 11 false none 0 0 (⟨#[]⟩) (0) d [] (.slice none 0 0) [] W1):=aa (fL.zero bG.out aG.out bN.out aR.out (nB _) fM.out cm.out gS.out HW.out bh.out);clear iE;have yZ:Hid (W1.heap.size<=W1.heap.size):=aa (ag _);obtain⟨⟨o0,o1,o2,o3,o4⟩,c_,cZ,cY,cX,cF⟩:=ay bG.out;go_wp2_with fail;clear o0 c_ o1 cZ o2 cY o3 cX o4 cF;refine (gL d HD.out rj.out w W1 W1.heap.size kf kd kr ko ⟨xo,xb,eB,xl,xc,eA,eI,d_,ei⟩ HX.out 11 false none 0 0 ⟨#[]⟩ (0) [] _ [] 0 2 (by decide) (by decide) HT.out (by rw[HT.out.len];simp)).mono ?_
 rintro e X1 ⟨⟨q0,rfl⟩,t0,v0,qI,hs,ht⟩;replace HT:=aa ht;have k5:=aa hs;clear hs ht;obtain⟨vo,vc,hv,-⟩:=HT.out.row.form;subst hv;obtain⟨N,hN⟩:∃ N,N=qI.length:=⟨_,rfl⟩;rw[<-hN] at HT;clear hN;replace bG:=aa HT.out.ho;replace aR:=aa HT.out.hr;obtain⟨⟨o0,o1,o2,o3,o4⟩,c_,cZ,cY,cX,cF⟩:=ay bG.out;obtain⟨⟨r0,r1,r2,r3,r4⟩,jU,jT,kP,kO,kN⟩:=ay aR.out;go_wp2_with fail;clear o0 c_ o1 cZ o2 cY o3 cX o4 cF;have hg:=bJ (w:=X1) (k:=kr) (.int .i64 11) (.bool false) (.slice none 0 0) (.string ⟨#[]⟩) (.slice vo N vc);have hf:Fr 29 X1 _:=.aI hg (fun j hj=>by injection hj with hj;subst hj;exact⟨_,aR.out,bO⟩)
 obtain⟨h1,h2,h3,h4⟩:=HT.out.fin hg hf (by unfold IR;decide) gA.out mh.out (by unfold fh;simp) (dr (by decide)) (fun _ _ _=>rfl) (by simp) (by simp[dw,bK,di,k5.out]);(try simp only[aN,bx]);exact aJ (v:=.agg #[.int .i64 11,.bool false,.slice none 0 0,.string ⟨#[]⟩,.slice vo N vc]) (by simp[results,aQ,go_sem,r0,r1,r2,r3,r4]) rfl ⟨_,_,rfl,h1,h2,rfl,h3,h4⟩
theorem C8:rS 1:=by
 intro s o b ao l c nm ko kl kc w hs h;rcases hs with rfl | rfl | rfl
 ·exact Gh o b ao l c nm ko kl kc w h
 ·exact Gf o b ao l c nm ko kl kc w h
 exact Gc o b ao l c nm ko kl kc w h
theorem BM (d:Nat) (h1:1<=d) (h2:d<=100) (IT:rS d):rS (d+1):=by
 intro s o b ao l c nm ko kl kc w hs h;rw[show ((d+1:Nat):Int)=(d:Int)+1 from Int.natCast_succ d];rcases hs with rfl | rfl | rfl
 ·exact Gi d h1 h2 IT o b ao l c nm ko kl kc w h
 ·exact Gg d h1 h2 IT o b ao l c nm ko kl kc w h
 exact Ge d h1 h2 IT o b ao l c nm ko kl kc w h
theorem Jb:∀ d:Nat,d<=100->rS (d+1)
 | 0,_=>C8
 | d+1,h=>BM (d+1) (Nat.succ_le_succ (ah d)) h (Jb d (by omega))
attribute [local go_sem] cL cK cJ cI
attribute [local go_sem] cL cK cJ cI
theorem M4 (j:Int) (nm:ByteArray) (h:j=0\/j=1\/j=2):rt (.node (jv j) 0 nm [])=true:=by rcases h with rfl | rfl | rfl<;>rfl
theorem IQ:0<bf:=by decide
def BE (e n:Nat):V->Prop
 | .I z=>z.natAbs<bf ^ e
 | .B _=>True
 | .L l=>l.length<=n/\∀ z ∈ l,z.natAbs<bf ^ e
theorem BE.zero (e n:Nat):BE e n (.I 0):=Nat.pow_pos IQ
theorem BE.sm {e n:Nat} {v:V} (h:BE e n v) (h1:e<=600) (h2:n<=1000):O5 v:=by
 cases v with
 | I z=>exact dZ (k:=e) (k':=600) h h1
 | B b=>trivial
 | L l=>exact⟨ai h.1 h2,fun z hz=>dZ (k:=e) (k':=600) (h.2 z hz) h1⟩
end Go.Proofs.YtoncclhbdkjhmaaGreatDoor
namespace Go.Proofs
open Go.Shelf
end Go.Proofs
namespace Go.Proofs.YtoncclhbdkjhmaaGreatDoor
open Go.RowKit
set_option maxRecDepth 100000
set_option linter.unusedVariables false
set_option linter.unusedSimpArgs false
attribute [local go_sem] cL cK cJ cI
def YA (w:af) (v:ak) (ns:List ByteArray):Prop:=∃ ko kc,v=.slice ko ns.length kc/\ns.length<=1000/\(ns=[]\/∃ g,ko=some ⟨g,0,none⟩/\∀ j,j<ns.length->w.cell? ⟨g,j,none⟩=some (.string (ns.getD j ByteArray.empty)))
theorem FL.TA {w:af} {S:Nat->Prop} {d:Nat} {v:ak} {ts:List F} (h:FL w S d v ts):FL w (fun g=>S g/\g<w.heap.size) d v ts:=by
 obtain⟨el,h1,h2⟩:=h;exact⟨el,h1.lt,h2⟩
theorem FL.zm {w:af} {B g n cap d:Nat} {us:List FU} {ts:List F} {S:Nat->Prop} (hrow:fR.Row w B (.slice (some ⟨g,0,none⟩) n cap) us) (hn:n=us.length) (hl:us.length=ts.length) (hS:S g) (h:∀ i (h1:i<us.length) (h2:i<ts.length),FT w S d us[i] ts[i]):FL w S d (.slice (some ⟨g,0,none⟩) n cap) ts:=by
 subst hn;have hz:(us.zip ts).length=us.length:=by rw[List.length_zip,hl,Nat.min_self]
 obtain⟨vo,vc,hv,h1,h2,h3⟩:=hrow.form;injection hv with e1 e2 e3;subst e3;refine⟨us.zip ts,⟨_,cap,by rw[hz],⟨by rw[hz];exact h1,h2,fun h=>by cases h⟩,fun _ a ha=>?_,fun i hi=>?_⟩,List.map_snd_zip (by rw[hl];exact ag _)⟩
 ·injection ha with ha;subst ha;exact hS
 have xd:i<us.length:=by rw[hz] at hi;exact hi
 have oV:i<ts.length:=by rw[<-hl];exact xd
 rw[List.getElem_zip];exact⟨A0 fC (fun _=>rfl) rfl hrow.own i xd,h i xd oV⟩
def i9:ByteArray:=⟨#[105,57]⟩
def Q0:F:=.node 0 1 ⟨#[]⟩ []
mutual
theorem gT.and {P Q:F->Prop}:∀ {t:F},gT P t->gT Q t->gT (fun u=>P u/\Q u) t
 | .node o z nm ks,h,k=>by rw[gT] at h k ⊢;exact⟨⟨h.1,k.1⟩,dI.and h.2 k.2⟩
theorem dI.and {P Q:F->Prop}:∀ {l:List F},dI P l->dI Q l->dI (fun u=>P u/\Q u) l
 | [],_,_=>by rw[dI];trivial
 | k::l,h,g=>by rw[dI] at h g ⊢;exact⟨gT.and h.1 g.1,dI.and h.2 g.2⟩
end
theorem Az:∀ (d:Nat) (t:F),Tm d t->rt t=true->gT (fun u=>rt u=true) t
 | 0,t,h,_=>absurd h id
 | d+1,.node o z nm ks,h,hr=>by
  rw[gT];exact⟨hr,dI.of fun k hk=>Az d k (h.2.2.2.2 k hk) ((gQ hr).2.2 k hk)⟩
def Qd (d:Nat) (t:F):Prop:=Tm (d+4) t/\(cU t.op≠1->Tm (d+2) t)/\(cU t.op=2->Tm (d+1) t)
def QA (d e:Nat) (t:F):Prop:=gT (Qd d) t/\Tm e t
theorem QA.up {d e e':Nat} {t:F} (h:QA d e t) (he:e<=e'):QA d e' t:=⟨h.1,h.2.up he⟩
theorem ER {d:Nat}:∀ (e:Nat),e<=d+1->∀ t:F,Tm e t->gT (Qd d) t
 | 0,_,t,h=>absurd h id
 | e+1,he,.node o z nm ks,h=>by
  rw[gT];exact⟨⟨h.up (by omega),fun _=>h.up (by omega),fun _=>h.up he⟩,dI.of fun k hk=>ER e (by omega) k (h.2.2.2.2 k hk)⟩
theorem uf {d e:Nat} {t:F} (h:Tm e t) (he:e<=d+1):QA d e t:=⟨ER e he t h,h⟩
theorem Ja {e:Nat} {o z:Int} {ks:List F} (ho:¬ (o=1\/o=8\/o=14)) (hz:z.natAbs<bf ^ 4) (h0:o≠0->o≠3->o≠5->z=0) (hl:ks.length<=3) (hk:∀ k ∈ ks,Tm e k):Tm (e+1) (.node o z ⟨#[]⟩ ks):=
 ⟨by unfold fh;simp only[F.op,F.name];rw[if_neg (by omega),if_neg (by omega),if_neg (by omega)];trivial,hz,h0,hl,hk⟩
theorem z4:(0:Int).natAbs<bf ^ 4:=Nat.pow_pos (by decide)
theorem xy {e:Nat} {o:Int} {ks:List F} (ho:¬ (o=1\/o=8\/o=14)) (hl:ks.length<=3) (hk:∀ k ∈ ks,Tm e k):Tm (e+1) (fo o ks):=Ja ho z4 (fun _ _ _=>rfl) hl hk
theorem qf {d e:Nat} {o:Int} {ks:List F} (ho:¬ (o=1\/o=8\/o=14)) (hs:cU o=1) (hl:ks.length<=3) (hk:∀ k ∈ ks,QA d e k) (he:e+1<=d+4):QA d (e+1) (fo o ks):=by
 have h:=xy ho hl fun k h=>(hk k h).2
 refine⟨?_,h⟩;unfold fo;rw[gT];exact⟨⟨h.up he,fun hn=>absurd hs hn,fun h2=>by have h3:cU o=2:=h2;rw[hs] at h3;exact absurd h3 (by decide)⟩,dI.of fun k h=>(hk k h).1⟩
theorem qi {d e:Nat} {o z:Int} {ks:List F} (ho:¬ (o=1\/o=8\/o=14)) (hz:z.natAbs<bf ^ 4) (h0:o≠0->o≠3->o≠5->z=0) (hs:cU o=0) (hl:ks.length<=3) (hk:∀ k ∈ ks,QA d e k) (he:e+1<=d+2):QA d (e+1) (.node o z ⟨#[]⟩ ks):=by
 have h:=Ja ho hz h0 hl fun k h=>(hk k h).2
 refine⟨?_,h⟩;rw[gT];exact⟨⟨h.up (by omega),fun _=>h.up he,fun h2=>by have h3:cU o=2:=h2;rw[hs] at h3;exact absurd h3 (by decide)⟩,dI.of fun k h=>(hk k h).1⟩
theorem m1 {P:F->Prop} {a:F} (h:P a):∀ k ∈ [a],P k:=fun k hk=>by rw[aX] at hk;rw[hk];exact h
theorem m2 {P:F->Prop} {a b:F} (h:P a) (g:P b):∀ k ∈ [a,b],P k:=fun k hk=>by
 simp only[aP,aK,or_false] at hk;rcases hk with rfl | rfl
 ·exact h
 exact g
theorem m3 {P:F->Prop} {a b c:F} (h:P a) (g:P b) (i:P c):∀ k ∈ [a,b,c],P k:=fun k hk=>by
 simp only[aP,aK,or_false] at hk;rcases hk with rfl | rfl | rfl
 ·exact h
 ·exact g
 exact i
section
variable {d e:Nat} {a b c x:F}
theorem xH (h:QA d e a) (k:QA d e b) (he:e+1<=d+4):QA d (e+1) (cN a b):=qf (by decide) rfl (by simp) (m2 h k) he
theorem BT (h:QA d e a) (k:QA d e b) (he:e+1<=d+4):QA d (e+1) (bL a b):=qf (by decide) rfl (by simp) (m2 h k) he
theorem Dm (h:QA d e a) (he:e+1<=d+4):QA d (e+1) (bH a):=qf (by decide) rfl (by simp) (m1 h) he
theorem BS (h:QA d e a) (k:QA d e b) (he:e+1<=d+4):QA d (e+1) (eZ [a,b]):=qf (by decide) rfl (by simp) (m2 h k) he
theorem QY (h:QA d e a) (k:QA d e b) (i:QA d e c) (he:e+1<=d+4):QA d (e+1) (eZ [a,b,c]):=qf (by decide) rfl (by simp) (m3 h k i) he
theorem KD (h:QA d e a) (k:QA d e b) (he:e+1<=d+2):QA d (e+1) (fe a b):=qi (by decide) z4 (fun _ _ _=>rfl) rfl (by simp) (m2 h k) he
theorem qn {n:Int} (hn:n.natAbs<bf ^ 4) (he:1<=e):QA d e (nF n):=
 QA.up (e:=1) (uf (⟨rfl,hn,fun h=>absurd rfl h,ah _,fun k hk=>by cases hk⟩:Tm 1 (nF n)) (by omega)) he
theorem Mp:(0:Int).natAbs<bf ^ 4:=z4
theorem Mo:(1:Int).natAbs<bf ^ 4:=by decide
theorem Wh (h:Tm e a):Tm (e+1) (sF a):=xy (by decide) (by simp) (m1 h)
theorem Wg (h:Tm e a):Tm (e+1) (Ga a):=xy (by decide) (by simp) (m1 h)
theorem Wi (h:Tm e a) (k:Tm e b):Tm (e+1) (me a b):=xy (by decide) (by simp) (m2 h k)
theorem Tt:Tm 1 i_:=xy (e:=0) (by decide) (by simp) (fun k hk=>by cases hk)
theorem ql (h:QA d e a) (he:e+1<=d+2):QA d (e+1) (cr a):=qi (by decide) z4 (fun _ _ _=>rfl) rfl (by simp) (m1 h) he
theorem Ko {e:Nat} {x:F} (h:Tm (e+1) x) {k:F} (hk:k ∈ x.kids):Tm e k:=h.2.2.2.2 k hk
theorem KM {o z:Int} {nm:ByteArray} {ks:List F} {i:Nat} (h:i<ks.length):kd (.node o z nm ks) i ∈ ks:=by
 unfold kd;show ks.getD i (nF 0) ∈ ks
 rw[List.getD_eq_getElem?_getD,List.getElem?_eq_getElem h];exact bS h
theorem DJ {d e:Nat} {x:F} (hx:rt x=true) (h:Tm e x) (he:e<=d+1):∀ y ∈ dM x,QA d (e+2) y:=by
 obtain⟨o,z,nm,ks⟩:=x;have hp:=gQ hx;cases e with
 | zero=>exact absurd h id
 | succ e =>
  generalize ex:F.node o z nm ks=x at *;have eo:x.op=o:=by rw[<-ex];rfl
  have L:=ql (uf h he) (by omega);intro y hy;unfold dM at hy;rcases List.mem_cons.1 hy with rfl | hy
  ·exact xH (qn Mp (by omega)) L (by omega)
  rw[eo] at hy;split at hy
  ·rw[aX] at hy;subst hy;exact BT L (qn Mp (by omega)) (by omega)
  split at hy
  ·rename_i h10;subst h10;obtain⟨a,b,e1,ha,hb⟩:=mT (by have:=hp.1;simpa [bK] using this);have wA:kd x 1=b:=by rw[<-ex,e1];rfl
   have e_:Tm e b:=Ko h (by rw[<-ex,e1];simp[F.kids]);rw[aX,wA] at hy;subst hy;exact BT L ((KD (ql (uf e_ (by omega)) (by omega)) (qn Mo (by omega)) (by omega)).up (by omega)) (by omega)
  cases hy
theorem EF {x:F} (h:Tm d x):QA d (d+4) (iw x):=by
 have L:=ql (uf (d:=d) h (by omega)) (by omega);exact BS (Dm (xH L (qn Mp (by omega)) (by omega)) (by omega)) ((BT (e:=d+1) ((uf h (by omega)).up (by omega)) (uf (Tt.up (by omega)) (by omega)) (by omega)).up (by omega)) (by omega)
theorem Ev {l:F} (h:Tm d l):QA d (d+2) (fb l):=xH (qn Mo (by omega)) (ql (uf h (by omega)) (by omega)) (by omega)
theorem Kr {l x:F} (hl:Tm d l) (hx:Tm (d+1) x):∀ y ∈ jH x l,QA (d+1) (d+5) y:=by
 have f:=Ev (d:=d+1) (hl.Fo);have nf:=Dm f (by omega);intro y hy;unfold jH at hy;simp only[aP,aK,or_false] at hy;rcases hy with rfl | rfl | rfl
 ·exact BS nf (BT ((ql (uf hl (by omega)) (by omega)).up (by omega)) (KD (ql (uf hx (by omega)) (by omega)) (qn Mo (by omega)) (by omega)) (by omega)) (by omega)
 ·exact BS (e:=d+4) (f.up (by omega)) ((BT (e:=d+1) (uf hx (by omega)) (uf (Tt.up (by omega)) (by omega)) (by omega)).up (by omega)) (by omega)
 exact BS nf ((BT (e:=d+2) (uf (hl.up (by omega)) (by omega)) (uf (Wi (Wh hl) hx) (by omega)) (by omega)).up (by omega)) (by omega)
theorem KF {a b x:F} (ha:Tm d a) (hb:Tm d b) (hx:Tm d x):∀ y ∈ kF x a b,QA d (d+4) y:=by
 cases d with
 | zero=>exact absurd ha id
 | succ d =>
  have A:=uf (d:=d+1) ha (by omega);have B:=uf (d:=d+1) hb (by omega);have X:=uf (d:=d+1) hx (by omega);have Z:=qn (d:=d+1) (e:=d+1) Mp (by omega);have N:=qn (d:=d+1) (e:=d+1) Mo (by omega);have PW:∀ {p q s:F},QA (d+1) (d+2) p->QA (d+1) (d+2) q->QA (d+1) (d+2) s->QA (d+1) (d+5) (eZ [bH p,bH q,s]):=fun h k i =>
   (QY (Dm h (by omega)) (Dm k (by omega)) (i.up (by omega)) (by omega)).up (by omega)
  have Tv:∀ {p s:F},QA (d+1) (d+2) p->QA (d+1) (d+2) s->QA (d+1) (d+5) (eZ [bH p,s]):=fun h i =>
   (BS (Dm h (by omega)) (i.up (by omega)) (by omega)).up (by omega)
  intro y hy;unfold kF at hy;simp only[aP,aK,or_false] at hy;rcases hy with rfl | rfl | rfl | rfl | rfl | rfl
  ·exact PW (xH Z A (by omega)) (xH Z B (by omega)) (xH Z X (by omega))
  ·exact PW (xH A Z (by omega)) (xH B Z (by omega)) (xH Z X (by omega))
  ·exact PW (xH Z A (by omega)) (xH B Z (by omega)) (xH X Z (by omega))
  ·exact PW (xH A Z (by omega)) (xH Z B (by omega)) (xH X Z (by omega))
  ·exact Tv (BT A N (by omega)) (BT X B (by omega))
  exact Tv (BT B N (by omega)) (BT X A (by omega))
theorem Iw {x:F} (hx:rt x=true) (h:Tm (d+1) x):∀ y ∈ cg x,QA (d+1) (d+5) y:=by
 obtain⟨o,z,nm,ks⟩:=x;have hp:=gQ hx;have hk:∀ i,i<ks.length->Tm d (kd (.node o z nm ks) i):=fun i hi=>h.2.2.2.2 _ (KM hi)
 have hz:z.natAbs<bf ^ 4:=h.2.1;generalize ex:F.node o z nm ks=x at *;have eo:x.op=o:=by rw[<-ex];rfl
 have ez:x.num=z:=by rw[<-ex];rfl
 have X:=uf (d:=d+1) h (by omega);have one:∀ s:Int,bK o (di ks)=decide (di ks=[s])->Tm d (kd x 0):=fun s h=>by
  obtain⟨k,e,-⟩:=wC (a:=s) (by have:=hp.1;rw[h] at this;exact of_decide_eq_true this);exact hk 0 (by rw[e];exact Nat.one_pos)
 have two:∀ s t:Int,bK o (di ks)=decide (di ks=[s,t])->Tm d (kd x 0)/\Tm d (kd x 1):=fun s t h=>by
  obtain⟨k,l,e,-⟩:=mT (a:=s) (b:=t) (by have:=hp.1;rw[h] at this;exact of_decide_eq_true this);exact⟨hk 0 (by rw[e];simp),hk 1 (by rw[e];simp)⟩
 have lens:∀ y ∈ dM x,QA (d+1) (d+5) y:=fun y hy=>(DJ hx h (by omega) y hy).up (by omega)
 intro y hy;unfold cg at hy;rw[eo] at hy;by_cases h8:o=8
 ·rw[if_pos h8] at hy;rcases List.mem_append.1 hy with hy | hy
  ·exact lens y hy
  rw[aX] at hy;rw[hy];exact EF h
 rw[if_neg h8] at hy;by_cases h9:o=9
 ·rw[if_pos h9] at hy;exact lens y hy
 rw[if_neg h9] at hy;by_cases h10:o=10
 ·rw[if_pos h10] at hy;obtain⟨k0,k1⟩:=two 0 2 (by rw[h10];rfl);rcases List.mem_append.1 hy with hy | hy
  ·exact lens y hy
  simp only[aP,aK,or_false] at hy;rcases hy with rfl | rfl
  ·exact (BT (qi (o:=7) (by decide) z4 (fun _ _ _=>rfl) rfl (by simp) (m1 X) (by omega)) ((uf k0 (by omega)).up (by omega)) (by omega)).up (by omega)
  exact (BT (e:=d+2) (uf (Wg h) (by omega)) ((uf k1 (by omega)).up (by omega)) (by omega)).up (by omega)
 rw[if_neg h10] at hy;by_cases h11:o=11
 ·rw[if_pos h11] at hy;have k0:=one 2 (by rw[h11];rfl);rcases List.mem_append.1 hy with hy | hy
  ·exact lens y hy
  rcases List.mem_append.1 hy with hy | hy
  ·rw[aX] at hy;rw[hy];exact EF h
  exact Kr k0 h y hy
 rw[if_neg h11] at hy;by_cases h7:o=7
 ·rw[if_pos h7] at hy;have k0:=one 2 (by rw[h7];rfl);rw[aX] at hy;subst hy;exact (BS (e:=d+3) (Ev (d:=d+1) k0.Fo) ((BT X (qn Mp (by omega)) (by omega)).up (by omega)) (by omega)).up (by omega)
 rw[if_neg h7] at hy;by_cases h5:o=5
 ·rw[if_pos h5] at hy;have k0:=one 0 (by rw[h5];rfl);have iq:=hp.2.1 h5;have S:QA (d+1) (d+2) (ue x.num x):=qi (by decide) (by rw[ez];exact hz) (fun _ h3=>absurd rfl h3) rfl (by simp) (m1 X) (by omega);simp only[aP,aK,or_false] at hy;rcases hy with rfl | rfl
  ·exact (xH S ((uf k0 (by omega)).up (by omega)) (by omega)).up (by omega)
  exact (xH (e:=d+3) ((uf k0 (by omega)).up (by omega)) (KD S (qn (by rw[ez];omega) (by omega)) (by omega)) (by omega)).up (by omega)
 rw[if_neg h5] at hy;by_cases h4:o=4
 ·rw[if_pos h4] at hy;obtain⟨k0,k1⟩:=two 0 0 (by rw[h4];rfl);exact KF k0.Fo k1.Fo h y hy
 rw[if_neg h4] at hy;cases hy
end
open Classical in
noncomputable def idx (s:List F) (c:F):Nat:=s.findIdx fun t=>decide (t=c)
theorem wg {s:List F} {c:F} (h:c ∈ s):idx s c<s.length:=by
 unfold idx;exact List.findIdx_lt_length_of_exists ⟨c,h,by simp⟩
theorem fW {s:List F} {c:F} (h:c ∈ s):s[idx s c]?=some c:=by
 have hl:=wg h;rw[List.getElem?_eq_getElem hl];have h2:=List.findIdx_getElem (p:=fun t=>@decide (t=c) (Classical.propDecidable _)) (xs:=s) (w:=hl);exact congrArg some (@of_decide_eq_true _ (Classical.propDecidable _) h2)
theorem zP {s:List F} (hn:s.Nodup) {i:Nat} {c:F} (h:s[i]?=some c):idx s c=i:=by
 have hm:c ∈ s:=List.mem_of_getElem? h;have h2:=fW hm;obtain⟨hi,e⟩:=List.getElem?_eq_some_iff.1 h;obtain⟨hj,e2⟩:=List.getElem?_eq_some_iff.1 h2;exact (List.getElem_inj hn).1 (by rw[e,e2]) |>.symm
theorem wh {s m:List F} {c:F} (h:c ∈ s):idx (s++m) c=idx s c:=by
 have hl:=wg h;unfold idx at hl ⊢;rw[List.findIdx_append,if_pos hl]
def jK (n:Nat):ByteArray:=⟨(Lib.itoa (n:Int)).toArray⟩
theorem mO (n:Nat):(jK n).data.toList=Lib.decDigits n:=by
 show Lib.itoa (n:Int)=_
 unfold Lib.itoa;rw[if_neg (by omega)];rfl
theorem B2 {m n:Nat} (h:jK m=jK n):m=n:=by
 have h1:=congrArg (fun b:ByteArray=>b.data.toList) h;simp only[mO] at h1;have a:=(q_ m).2.1;have b:=(q_ n).2.1;rw[<-a,<-b,h1]
theorem DV {n:Nat} (h:n<10 ^ 18):FE (jK n):=by
 have hd:=q_ n;have hl:=js h (by decide);refine⟨fun h0=>?_,by rw[mO];omega,fun c hc=>?_⟩
 ·have:(jK n).data.toList=[]:=by rw[h0]
  rw[mO] at this;exact hd.2.2.1 this
 rw[mO] at hc;have:=hd.1 c hc;unfold lD;omega
noncomputable def nW (s:List F) (c:F):F:=.node (jv (cU c.op)) 0 (jK (idx s c)) []
noncomputable def xS (s:List F) (t:F):F:=.node t.op t.num t.name (t.kids.map (nW s))
noncomputable def jx (s:List F) (t:F):Bs:=g_ (xS s t)
theorem xU {s m:List F} {t:F} (h:∀ c ∈ t.kids,c ∈ s):jx (s++m) t=jx s t:=by
 unfold jx xS;congr 2;apply ud;intro c hc;unfold nW;rw[wh (h c hc)]
theorem Gq (o:Int):cU (jv (cU o))=cU o:=by
 unfold cU;split
 ·rfl
 split<;>rfl
theorem rA (b:Int):jv b=1\/jv b=8\/jv b=14:=by
 unfold jv;split
 ·exact .inr (.inr rfl)
 split
 ·exact .inr (.inl rfl)
 exact .inl rfl
theorem Gr (o:Int):cU o=0\/cU o=1\/cU o=2:=by
 unfold cU;split
 ·exact .inr (.inr rfl)
 split
 ·exact .inr (.inl rfl)
 exact .inl rfl
theorem Kz (s:List F) (c:F):rt (nW s c)=true:=M4 _ _ (Gr _)
theorem Dc (s:List F) (l:List F):di (l.map (nW s))=di l:=by
 unfold di;rw[List.map_map];apply ud;intro c _;exact Gq c.op
theorem zD {s:List F} {t:F} (h:rt t=true):rt (xS s t)=true:=by
 obtain⟨o,z,nm,ks⟩:=t;unfold xS;rw[rt,Bool.and_eq_true] at h ⊢;refine⟨by rw[show (F.node o z nm ks).kids=ks from rfl,Dc];exact h.1,?_⟩;rw[jn,List.all_eq_true];intro x hx;obtain⟨c,_,rfl⟩:=List.mem_map.1 hx;exact Kz s c
theorem Kq {s:List F} {c:F} (h:idx s c<10 ^ 18):Tg 1 (nW s c):=
 ⟨by unfold FF;rw[if_pos (show (nW s c).op=1\/(nW s c).op=8\/(nW s c).op=14 from rA _)];exact DV h,z4,fun _ _ _=>rfl,ah _,fun k hk=>by cases hk⟩
theorem sN {d:Nat} {s:List F} {t:F} (h:Tg d t) (hs:s.length<=1000000) (hk:∀ c ∈ t.kids,c ∈ s):Tg 2 (xS s t):=by
 cases d with
 | zero=>exact absurd h id
 | succ d =>
  obtain⟨h1,h2,h3,h4,h5⟩:=h;refine⟨h1,h2,h3,by show (t.kids.map _).length<=8;rw[cQ];exact h4,fun k hk'=>?_⟩;obtain⟨c,hc,rfl⟩:=List.mem_map.1 (show k ∈ t.kids.map (nW s) from hk');exact Kq (az (wg (hk c hc)) (ai hs (by decide)))
theorem xT {d e:Nat} {s:List F} {t u:F} (ht:Tg d t) (hu:Tg e u) (QW:rt t=true) (QV:rt u=true) (hs:s.length<=1000000) (kt:∀ c ∈ t.kids,c ∈ s) (ku:∀ c ∈ u.kids,c ∈ s) (h:jx s t=jx s u):t=u:=by
 have e:=uS (sN ht hs kt) (sN hu hs ku) (zD QW) (zD QV) h;obtain⟨o,z,nm,ks⟩:=t;obtain⟨o',z',Nb,ks'⟩:=u;unfold xS at e;injection e with e1 e2 e3 e4;simp only[F.op,F.num,F.name,F.kids] at e1 e2 e3 e4 kt ku;have key:∀ (l l':List F),(∀ c ∈ l,c ∈ s)->(∀ c ∈ l',c ∈ s)->l.map (nW s)=l'.map (nW s)->l=l':=by
  intro l;induction l with
  | nil=>intro l' _ _ h;cases l' with | nil=>rfl | cons a m=>cases h
  | cons a l ih =>
   intro l' h h' hh;cases l' with
   | nil=>cases hh
   | cons b m =>
    rw[List.map_cons,List.map_cons] at hh;injection hh with h1 h2;have e5:=ih m (fun c hc=>h c (by simp[hc])) (fun c hc=>h' c (by simp[hc])) h2;unfold nW at h1;injection h1 with _ _ h3 _;have h4:=B2 h3;have p:=fW (h a (by simp));have q:=fW (h' b (by simp));rw[h4,q] at p;injection p with p;rw[e5,p]
 rw[e1,e2,e3,key ks ks' kt ku e4]
def Gd (t:F):Prop:=rt t=true/\Tg 9 t
structure JW (B k:Nat) (E:Nat->Prop) (L s:List F) (w:af) (km:Nat) (v:ak) (us:List xk) (M:Bs->Option ak):Prop where
 bk:w.heap[k]?=some (.cells #[.map (some km),v] 163 (0,0))
 kB:B<=k
 mB:B<=km
 sz:B<=w.heap.size
 mp:iz aj 9 w km M
 dom:I7 M s.length
 m1:∀ i t,s[i]?=some t->M (jx s t)=some (.int .i64 (i:Nat))
 m2:∀ x v,M x=some v->∃ i t,s[i]?=some t/\jx s t=x/\v=.int .i64 (i:Nat)
 row:nR.Row w (k+1) v us
 len:us.length=s.length
 nd:s.Nodup
 good:∀ t ∈ s,Gd t
 cl:∀ t ∈ s,∀ c ∈ t.kids,c ∈ s
 ft:∀ (i:Nat) (u:xk) (t:F),us[i]?=some u->s[i]?=some t->FT w (NS B k E w) 9 u.u t
 ids:∀ (i:Nat) (u:xk) (t:F),us[i]?=some u->s[i]?=some t->IL B k E w (.slice u.ko u.kl u.kc) (t.kids.map (idx s))
 vm:∀ (i:Nat) (u:xk) (t:F),us[i]?=some u->s[i]?=some t->(u.b=true ↔ t ∈ L)
 sub:∀ t ∈ L,t ∈ s
 max:s.length<=900000
 ex:∀ g,E g->g<w.heap.size
 tx:∃ w0,w0.heap.size=B/\vG w0/\aB B w0 w
def St (B k:Nat) (E:Nat->Prop) (L s:List F) (w:af):Prop:=∃ km v us M,JW B k E L s w km v us M
theorem St.below {B k:Nat} {E:Nat->Prop} {L s:List F} {w w':af} (h:St B k E L s w) (hb:aB w.heap.size w w'):St B k E L s w':=by
 obtain⟨km,v,us,M,h⟩:=h;obtain⟨w0,h1,h2,h3⟩:=h.tx;exact⟨km,v,us,M,{ h with
  bk:=(hb.block _ (ae h.bk)).trans h.bk
  sz:=ai h.sz hb.size
  mp:=h.mp.keep (hb.block _ h.mp.lt)
  row:=h.row.below hb
  ft:=fun i u t hu ht=>(h.ft i u t hu ht).rz (.aH hb)
  ids:=fun i u t hu ht=>(h.ids i u t hu ht).rz (.aH hb)
  ex:=fun g hg=>az (h.ex g hg) hb.size
  tx:=⟨w0,h1,h2,h3.trans (hb.mono h.sz)⟩ }⟩
theorem St.fresh {B k:Nat} {E:Nat->Prop} {L s:List F} {w:af} (h:St B k E L s w) {g:Nat} (hg:w.heap.size<=g):¬ E g:=fun he=>by
 obtain⟨km,v,us,M,h⟩:=h;exact absurd (h.ex g he) (by omega)
theorem Nc (w:af) (ht:vG w) :
  aV aj 69 #[] w fun e w'=>∃ k,e=.returned (.pointer (some ⟨k,0,none⟩))/\St w.heap.size k (fun _=>False) [] [] w'/\aB w.heap.size w w':=by
 have HT:=aa ht;clear ht;have Ub:=@run_makeMap aj;go_enter Tryz.func69,Tryz.ntmps69;go_wp2_with fail;go_ret;have e:(w.alloc (.map #[] 0)).heap.size=w.heap.size+1:=by simp only[World.size_alloc]
 have gp:=(ax w.heap.size w).alloc (ag _) (.map #[] 0);have hb:=gp.alloc gp.size (.cells #[.map (some w.heap.size),.slice none 0 0] 163);have hm:=iz.made w aj 9;refine⟨w.heap.size+1,rfl,⟨w.heap.size,.slice none 0 0,[],fun _=>none,?_⟩,hb⟩;exact {
  bk:=by rw[<-e];exact heap_alloc_new _ _
  kB:=by omega
  mB:=ag _
  sz:=hb.size
  mp:=hm.keep (Below.heap_alloc _ _ _ hm.lt)
  dom:=⟨[],ah _,fun x h=>by cases h⟩
  m1:=fun i t h=>by cases h
  m2:=fun x v h=>by cases h
  row:=El.Row.nil _ _
  len:=rfl
  nd:=List.nodup_nil
  good:=fun t h=>by cases h
  cl:=fun t h=>by cases h
  ft:=fun i u t h=>by cases h
  ids:=fun i u t h=>by cases h
  vm:=fun i u t h=>by cases h
  sub:=fun t h=>by cases h
  max:=ah _
  ex:=fun g h=>h.elim
  tx:=⟨w,rfl,HT.out,hb⟩ }
theorem JW.node {B k:Nat} {E:Nat->Prop} {L s:List F} {w:af} {km:Nat} {v:ak} {us:List xk} {M:Bs->Option ak} (h:JW B k E L s w km v us M) {i:Nat} {t:F} (hi:s[i]?=some t) :
  ∃ (g cap:Nat) (u:FU) (qo:Option Addr) (ql qc:Nat) (q:Bool),(v=.slice (some ⟨g,0,none⟩) s.length cap/\i<s.length/\s.length<=cap/\cap<=maxLen) /\
   (w.cell? ⟨g,i*7,none⟩=some (.int .i64 u.k)/\w.cell? ⟨g,i*7+1,none⟩=some (.bool (decide (u.n.z<0)))/\w.cell? ⟨g,i*7+2,none⟩=some (.slice u.n.o u.n.l u.n.c)/\w.cell? ⟨g,i*7+3,none⟩=some (.string u.nm)/\w.cell? ⟨g,i*7+4,none⟩=some (.slice u.ko u.kl u.kc)/\w.cell? ⟨g,i*7+5,none⟩=some (.slice qo ql qc)/\w.cell? ⟨g,i*7+6,none⟩=some (.bool q)) /\
   (FT w (NS B k E w) 9 u t/\u.k=t.op/\u.nm=t.name)/\IL B k E w (.slice qo ql qc) (t.kids.map (idx s))/\(q=true ↔ t ∈ L):=by
 obtain⟨oL,e⟩:=List.getElem?_eq_some_iff.1 hi;have Ju:i<us.length:=by rw[h.len];exact oL
 have hu:us[i]?=some us[i]:=List.getElem?_eq_getElem Ju;have hft:=h.ft i _ t hu hi;have gN:=h.ids i _ t hu hi;have hl:=h.vm i _ t hu hi;have h0:=h.row.own;rcases h0.2 with ⟨-,h1⟩ | ⟨g,cap,cur,hv,hb,hg,h1,h2,h3,h4⟩
 ·rw[h1] at Ju;exact absurd Ju (an _)
 subst hv;have key:∀ j q,(GW us[i])[j]?=some q->w.cell? ⟨g,i*7+j,none⟩=some q:=by
  intro j q hj;have Xy:j<7:=by have:=(List.getElem?_eq_some_iff.1 hj).1;simpa [GW] using this
  rw[World.ownsRow.cellAt h0 (i*7+j) (by show i*7+j<us.length*7;omega)];exact (kT nR.f nR.len us i j Ju Xy).trans hj
 obtain⟨⟨k1,k2,k3,k4⟩,Bd⟩:=id hft;exact⟨g,cap,us[i].u,_,_,_,_,⟨by rw[h.len],oL,by rw[<-h.len];exact h1,h2⟩,⟨key 0 _ rfl,key 1 _ rfl,key 2 _ rfl,key 3 _ rfl,key 4 _ rfl,key 5 _ rfl,key 6 _ rfl⟩,⟨hft,k1,k4⟩,gN,hl⟩
theorem vQ {B k:Nat} {E:Nat->Prop} {L s:List F} (w:af) (h:St B k E L s w) (i:Nat) (t:F) (hi:s[i]?=some t) :
  aV aj 73 #[.pointer (some ⟨k,0,none⟩),.int .i64 ((i:Nat):Int)] w fun e w'=>e=.returned (.int .i64 (cU t.op))/\aB w.heap.size w w':=by
 obtain⟨km,v,us,M,hU⟩:=h;obtain⟨g,cap,u,qo,ql,qc,q,⟨rfl,oL,hcap,pE⟩,⟨c0,c1,c2,c3,c4,c5,c6⟩,⟨-,hop,-⟩,-,-⟩:=hU.node hi;rw[<-hop];have d0:=aq (v:=.map (some km)) hU.bk 0 rfl;have d1:=aq (v:=.slice (some ⟨g,0,none⟩) s.length cap) hU.bk 1 rfl;have tD:cap<=9223372036854775807:=pE;clear hU hop hi;go_enter Tryz.func73,Tryz.ntmps73;go_wp2_with fail;refine (vP _ _ _ _ _ _ _ _ _ _).mono ?_;rintro e w' ⟨rfl,hb⟩;go_wp2_with fail;go_ret;exact⟨rfl,hb⟩
def PN (B k:Nat) (E:Nat->Prop) (g n:Nat) (X:af) (ts:List F) (i:ak) (wr:af):Prop:=
 ∃ (j:Nat) (el:List FU),i=.int .i64 (j:Nat)/\j<=n/\Hid (el.length=n)/\Hid (∀ q (h1:q<el.length) (h2:q<ts.length),q<j->FT wr (fun b=>NS B k E X b/\b<X.heap.size) 9 el[q] ts[q])/\Hid (fR.Row wr g (.slice (some ⟨g,0,none⟩) n n) el)/\Hid (aB g X wr)
theorem NO.cells {B k:Nat} {w:af} {g:Nat} {c:Array ak} {T:TypeId} (h:w.heap[g]?=some (.cells c T (0,0))) (hT:T≠163/\T≠167):NO B k w g:=by
 rintro⟨-,⟨es,cl,e⟩ | ⟨c',T',e,JC,-⟩⟩
 ·rw[h] at e;cases e
 rw[h] at e;injection e with e;injection e with _ e;rcases JC with rfl | ⟨rfl,-⟩
 ·exact hT.1 e
 exact hT.2 e
theorem cw {α β:Type} {f:α->Option β} {l:List α} {ts:List β} (h:l.map f=ts.map some):ts.length=l.length:=by
 have:=congrArg List.length h
 simpa using this.symm
theorem jS {α β:Type} {f:α->Option β} {l:List α} {ts:List β} (h:List.map f l=List.map some ts) (j:Nat) (h1:j<l.length) (h2:j<ts.length):f l[j]=some ts[j]:=by
 have:=congrArg (fun q:List (Option β)=>q[j]?) h
 simpa [h1,h2] using this
theorem tL {B k:Nat} {E:Nat->Prop} {L s:List F} (w:af) (h:St B k E L s w) (v:ak) (ids:List Nat) (hv:IL B k E w v ids) (ts:List F) (hi:ids.map (fun i=>s[i]?)=ts.map some) (hl:ids.length<=900000) :
  aV aj 75 #[.pointer (some ⟨k,0,none⟩),v] w fun e w'=>∃ v',e=.returned v'/\FL w' (NS B k E w') 9 v' ts/\aB w.heap.size w w':=by
 obtain⟨ko,kc,rfl,⟨iA,eR,pO⟩,hc⟩:=id hv;have hkm:kc<=9223372036854775807:=eR;have hlen:=cw hi;obtain⟨n,hn⟩:∃ n,n=ids.length:=⟨_,rfl⟩;have HS:=aa h;have HV:=aa hv;have HI:=aa hi;rw[<-hn] at iA hl hlen HV ⊢;have HN:=aa hn;have Pa:=aa hlen;clear h hv hi hn hc hlen;go_enter Tryz.func75,Tryz.ntmps75;obtain⟨k2,Jt⟩:∃ k,w.heap.size=k:=⟨_,rfl⟩;have Ff:=aa Jt;go_upto_region 2 with (first | (at_make;refine kC fR CV rfl (fun _=>trivial) _ rfl _ _ rfl w.heap.size _ _ _ _ n rfl rfl (by first | rfl | simp) (by first | rfl | simp) (by omega) (ag _) ?_;intro y2 hrow e_) | fail);rw[Jt] at hrow e_;have HR:=aa (show fR.Row y2 k2 (.slice (some ⟨k2,0,none⟩) n n) (List.replicate n CV) from hrow);have AH:=aa e_
 clear hrow e_ Jt;go_wp2_with fail;go_loopw [13] (PN B k E k2 n w ts) (fun i _=>n - (eT i).toNat)
 case atStart=>exact⟨0,_,rfl,ah _,aa fX,aa (fun q _ _ h=>absurd h (an _)),HR,AH⟩
 case round =>
  clear HR AH;obtain⟨j,el,rfl,hj,HE,HT,HR,HB⟩:=hrel;by_cases hlt:j<n
  ·have hBw:aB w.heap.size w wr:=by rw[Ff.out];exact HB.out
   have jq:j<ids.length:=by rw[<-HN.out];exact hlt
   have Bg:j<ts.length:=by rw[Pa.out];exact hlt
   obtain⟨i,hi⟩:∃ i,i=ids[j]:=⟨_,rfl⟩;obtain⟨t,ht⟩:∃ t,t=ts[j]:=⟨_,rfl⟩;have hst:s[i]?=some t:=by rw[hi,ht];exact jS HI.out j jq Bg
   obtain⟨v_,we,e,-,hc⟩:=HV.out.rz (cA.aH hBw);injection e with e1 e2 e3;subst e1;obtain⟨a,rfl,-,ca⟩:=hc j jq;rw[<-hi] at ca;obtain⟨km,v,us,M,hU⟩:=HS.out;obtain⟨g,cap,u,qo,ql,qc,q,⟨rfl,oL,hcap,pE⟩,⟨c0,c1,c2,c3,c4,-,-⟩,⟨hft,-,-⟩,-,-⟩:=hU.node hst;have tD:cap<=9223372036854775807:=pE;have d1:=aq (v:=.slice (some ⟨g,0,none⟩) s.length cap) hU.bk 1 rfl;rw[<-hBw.cell (cj c0)] at c0;rw[<-hBw.cell (cj c1)] at c1;rw[<-hBw.cell (cj c2)] at c2;rw[<-hBw.cell (cj c3)] at c3;rw[<-hBw.cell (cj c4)] at c4;rw[<-hBw.cell (cj d1)] at d1;have FK:=aa (hft.lt.below hBw);have YQ:=aa ht;obtain⟨⟨g0,g1,g2,g3,g4⟩,i0,i1,i2,i3,i4⟩:=Row.FB HR.out HE.out.symm (i:=j) (by rw[HE.out];exact hlt);have I6:=aa hBw
   clear hU hft hst hi ht hc e2 e3 jq hBw;go_wp2_with fail;go_roundw
   case rel =>
    obtain⟨r1,r2⟩:=Row.qh HR.out j (by rw[HE.out];exact hlt) HE.out.symm u rfl;have MA:=a_ wr k2 j u;refine⟨j+1,el.set j u,by go_num,hlt,aa (by rw[cP];exact HE.out),aa (fun q h1 h2 h3=>?_),aa r1,aa (HB.out.trans (iP MA (by rw[<-Ff.out];exact I6.out.size) (ag _)))⟩;by_cases hqj:q=j
    ·subst hqj;rw[CE,<-YQ.out];exact FK.out.grown MA (KN.eK r2) (fun b hb e=>by injection e with e;have h1:=Ff.out;omega)
    rw[List.getElem_set_ne (fun e=>hqj e.symm)];exact (HT.out q (by rw[cP] at h1;exact h1) h2 (by omega)).grown MA (KN.eK r2) (fun b hb e=>by injection e with e;have h1:=Ff.out;omega)
   case measure=>simp[eT];omega
  have ej:j=n:=by omega
  subst ej;go_wp2_with fail;go_ret;have hBw:aB w.heap.size w wr:=by rw[Ff.out];exact HB.out
  refine⟨_,rfl,FL.zm HR.out HE.out.symm (by rw[HE.out];exact Pa.out.symm) ?_ (fun q h1 h2=>(HT.out q h1 h2 (by have h3:=HE.out;omega)).mono fun b hb=>⟨(cA.aH hBw).no hb.2 hb.1.1,hb.1.2⟩),hBw⟩;obtain⟨c,hc,-⟩:=HR.out.n32 k2 rfl;exact⟨NO.cells hc (by decide),HS.out.fresh (by have:=Ff.out;omega)⟩
end Go.Proofs.YtoncclhbdkjhmaaGreatDoor
namespace Go.Proofs
open Go.Shelf
def Tryz.uG:Go.Shelf.Ren:=⟨fun | 171=>103 | 243=>152 | 246=>185 | 283=>198 | 284=>199 | 285=>200 | 286=>201 | 129=>217 | 317=>218 | 318=>219 | 319=>220 | 320=>221 | 337=>233 | 338=>234 | n=>n,fun | 3=>3 | 9=>9 | 2=>2 | 4=>4 | 171=>233 | 0=>0 | 53=>130 | 37=>99 | 5=>5 | 173=>236 | 212=>256 | 51=>153 | 20=>20 | 213=>257 | 46=>183 | 232=>277 | 233=>278 | n=>n,fun | 17=>3 | 18=>11 | 19=>12 | n=>n⟩
theorem Tryz.BY:Go.Proofs.LaysM.n171 aj Tryz.uG:={
 mixed:=by kernel_rfl
 f129:=Tryz.func217.trans (congrArg some (by kernel_rfl))
 f171:=Tryz.func103.trans (congrArg some (by kernel_rfl))
 f243:=Tryz.func152.trans (congrArg some (by kernel_rfl))
 f246:=Tryz.func185.trans (congrArg some (by kernel_rfl))
 f283:=Tryz.func198.trans (congrArg some (by kernel_rfl))
 f284:=Tryz.func199.trans (congrArg some (by kernel_rfl))
 f285:=Tryz.func200.trans (congrArg some (by kernel_rfl))
 f286:=Tryz.func201.trans (congrArg some (by kernel_rfl))
 f317:=Tryz.func218.trans (congrArg some (by kernel_rfl))
 f318:=Tryz.func219.trans (congrArg some (by kernel_rfl))
 f319:=Tryz.func220.trans (congrArg some (by kernel_rfl))
 f320:=Tryz.func221.trans (congrArg some (by kernel_rfl))
 f337:=Tryz.func233.trans (congrArg some (by kernel_rfl))
 f338:=Tryz.func234.trans (congrArg some (by kernel_rfl))
 t0:=Tryz.underlying0
 a0:=Tryz.isAgg0
 z0:=Tryz.sizeOf0
 v0:=Tryz.zeroValue0
 t2:=Tryz.underlying2
 a2:=Tryz.isAgg2
 z2:=Tryz.sizeOf2
 v2:=Tryz.zeroValue2
 t3:=Tryz.underlying3
 a3:=Tryz.isAgg3
 z3:=Tryz.sizeOf3
 v3:=Tryz.zeroValue3
 t4:=Tryz.underlying4
 a4:=Tryz.isAgg4
 z4:=Tryz.sizeOf4
 v4:=Tryz.zeroValue4
 t5:=Tryz.underlying5
 a5:=Tryz.isAgg5
 z5:=Tryz.sizeOf5
 v5:=Tryz.zeroValue5
 t9:=Tryz.underlying9
 a9:=Tryz.isAgg9
 z9:=Tryz.sizeOf9
 v9:=Tryz.zeroValue9
 t20:=Tryz.underlying20
 a20:=Tryz.isAgg20
 z20:=Tryz.sizeOf20
 v20:=Tryz.zeroValue20
 t37:=Tryz.underlying99
 a37:=Tryz.isAgg99
 z37:=Tryz.sizeOf99
 v37:=Tryz.zeroValue99
 t46:=Tryz.underlying183
 a46:=Tryz.isAgg183
 z46:=Tryz.sizeOf183
 v46:=Tryz.zeroValue183
 t51:=Tryz.underlying153
 a51:=Tryz.isAgg153
 z51:=Tryz.sizeOf153
 v51:=Tryz.zeroValue153
 t53:=Tryz.underlying130
 a53:=Tryz.isAgg130
 z53:=Tryz.sizeOf130
 v53:=Tryz.zeroValue130
 t171:=Tryz.underlying233
 a171:=Tryz.isAgg233
 z171:=Tryz.sizeOf233
 v171:=Tryz.zeroValue233
 t173:=Tryz.underlying236
 a173:=Tryz.isAgg236
 z173:=Tryz.sizeOf236
 v173:=Tryz.zeroValue236
 t212:=Tryz.underlying256
 a212:=Tryz.isAgg256
 z212:=Tryz.sizeOf256
 v212:=Tryz.zeroValue256
 t213:=Tryz.underlying257
 a213:=Tryz.isAgg257
 z213:=Tryz.sizeOf257
 t232:=Tryz.underlying277
 a232:=Tryz.isAgg277
 z232:=Tryz.sizeOf277
 v232:=Tryz.zeroValue277
 t233:=Tryz.underlying278
 a233:=Tryz.isAgg278
 z233:=Tryz.sizeOf278
 v233:=Tryz.zeroValue278
 g17:=by kernel_rfl
 g18:=by kernel_rfl
 g19:=by kernel_rfl
 i0:=by kernel_rfl
 i2:=by kernel_rfl
 i3:=by kernel_rfl
 i4:=by kernel_rfl
 i5:=by kernel_rfl
 i9:=by kernel_rfl
 i20:=by kernel_rfl
 i37:=by kernel_rfl
 i46:=by kernel_rfl
 i51:=by kernel_rfl
 i53:=by kernel_rfl
 i171:=by kernel_rfl
 i173:=by kernel_rfl
 i212:=by kernel_rfl
 i232:=by kernel_rfl
 i233:=by kernel_rfl
 m17:=by kernel_rfl
 m18:=by kernel_rfl
 m19:=by kernel_rfl }
open Go.RowKit Go.Sort Go.Lib in
theorem Tryz.uD (n : Int) (h0 : -9223372036854775808 ≤ n) (h1 : n ≤ 9223372036854775807) (w : af) (htab : Lib.TabIs aj w "internal/strconv.uint64pow10" .u64 Lib.pow10Tab) :
  aV aj 103 #[.int .i64 n] w fun e w'=>e=.returned (.string ⟨(Lib.itoa n).toArray⟩)/\∃ k os,w'=grow (w.drewN k) os:=Any.strconv_Itoa Tryz.BY n h0 h1 w htab
end Go.Proofs
namespace Go.Proofs.YtoncclhbdkjhmaaGreatDoor
open Go.RowKit Go.Sort
set_option maxRecDepth 100000
set_option linter.unusedVariables false
set_option linter.unusedSimpArgs false
attribute [local go_sem] cL cK cJ cI
theorem Hl (i:Nat) (hi:i<=1000000) (w:af) (ht:vG w):aV aj 103 #[.int .i64 ((i:Nat):Int)] w fun e w'=>e=.returned (.string (jK i))/\aB w.heap.size w w':=
 (Tryz.uD (i:Int) (by omega) (by omega) w ht.M7).mono fun e w' ⟨he,k,os,hw⟩=>⟨by rw[he];rfl,by
  subst hw
  exact⟨rfl,rfl,rfl,by show w.heap.size<=(w.heap++os).size;rw[Array.size_append];omega,fun i hi=>heap_grow_old w os hi⟩⟩
def O2 (g n:Nat) (X:af) (ts:List F) (i:ak) (wr:af):Prop:=
 ∃ (j:Nat) (el:List FU),i=.int .i64 (j:Nat)/\j<=n/\Hid (el.length=n)/\Hid (∀ q (h1:q<el.length) (h2:q<ts.length),q<j->FT wr (fun _=>False) 1 el[q] ts[q])/\Hid (fR.Row wr g (.slice (some ⟨g,0,none⟩) n n) el)/\Hid (aB g X wr)
theorem St.tx {B k:Nat} {E:Nat->Prop} {L s:List F} {w:af} (h:St B k E L s w):vG w:=by
 obtain⟨km,v,us,M,hU⟩:=h;obtain⟨w0,rfl,h2,h3⟩:=hU.tx;exact h2.below h3
theorem St.len {B k:Nat} {E:Nat->Prop} {L s:List F} {w:af} (h:St B k E L s w):s.length<=900000:=by
 obtain⟨km,v,us,M,hU⟩:=h;exact hU.max
theorem U_:Hid (∀ w:af,NR w ⟨none,0,0,0⟩):=aa fun w=>NR.of (by rw[show fJ bf (0:Int).natAbs=[] from by unfold fJ;rfl];exact Sl.nil w .u32) (dZ (k:=4) (k':=600) z4 (by decide))
theorem KB {w:af} {s:List F} {c:F}:FT w (fun _=>False) 1 ⟨jv (cU c.op),⟨none,0,0,0⟩,jK (idx s c),none,0,0⟩ (nW s c):=by
 have h:IR (jv (cU c.op)):=by rcases rA (cU c.op) with h | h | h<;>rw[h]<;>exact⟨by decide,by decide⟩
 exact⟨⟨rfl,h,rfl,rfl⟩,U_.out w,[],rfl,⟨rfl,ag _,ah _,fun _=>rfl⟩,fun h=>absurd rfl h,fun i hi=>absurd hi (an i)⟩
theorem Gb {B k:Nat} {E:Nat->Prop} {L s:List F} (w:af) (h:St B k E L s w) (S:Nat->Prop) (dd:Nat) (op:Int) (b:Bool) (ao:Option Addr) (l c:Nat) (nm:ByteArray) (po:Option Addr) (pl pc:Nat) (t:F) (hf:FC w S dd (.agg #[.int .i64 op,.bool b,.slice ao l c,.string nm,.slice po pl pc]) t)
  (hg:Gd t) (v:ak) (hv:IL B k E w v (t.kids.map (idx s))) (hks:∀ x ∈ t.kids,x ∈ s) :
  aV aj 166 #[.pointer (some ⟨k,0,none⟩),.agg #[.int .i64 op,.bool b,.slice ao l c,.string nm,.slice po pl pc],v] w fun e w'=>e=.returned (.string ⟨(jx s t).toArray⟩)/\aB w.heap.size w w':=by
 obtain⟨b',o',l',c',po',pl',pc',e,⟨Rv,hz,-,-,-⟩,-,-⟩:=hf.open;simp only[Value.agg.injEq,Array.mk.injEq,List.cons.injEq,Value.int.injEq,Value.bool.injEq,Value.slice.injEq,Value.string.injEq,true_and,and_true] at e;obtain⟨rfl,rfl,⟨rfl,rfl,rfl⟩,rfl,rfl,rfl,rfl⟩:=e;obtain⟨o,ho⟩:∃ o,o=t.op:=⟨_,rfl⟩;obtain⟨nm,hnm⟩:∃ o,o=t.name:=⟨_,rfl⟩;rw[<-ho] at Rv;rw[<-ho,<-hnm];obtain⟨ko,kc,rfl,⟨iA,eR,pO⟩,hc⟩:=id hv;have hkm:kc<=9223372036854775807:=eR;rw[cQ] at iA hv ⊢;have Fq:t.kids.length<=8:=hg.2.2.2.2.1;obtain⟨n,hn⟩:∃ n,n=t.kids.length:=⟨_,rfl⟩;rw[<-hn] at iA Fq hv ⊢;have HS:=aa h;have HV:=aa hv;have HN:=aa hn;have Fb:=aa hks;have HG:=aa hg;have HZ:=aa hz;have HO:=aa ho;have ML:=aa hnm
 have Zm:=aa Rv;clear h hv hf hn hc hz ho hnm hg hks Rv;have HW:=aa (ax w.heap.size w);go_enter Tryz.func166,Tryz.ntmps166;obtain⟨x1,kf,ef,ki,cn,jC,aG⟩:=aW w #[.int .i64 o,.bool b,.slice ao l c,.string nm,.slice po pl pc] 29;replace HW:=aa (HW.out.trans (cn.out.mono HW.out.size));have QC:Hid (w.heap.size<=kf):=jC;have Vp:=aa (ae aG.out);obtain⟨k2,Jt⟩:∃ k,x1.heap.size=k:=⟨_,rfl⟩;go_upto_region 2 with (first | (at_make;refine kC fR CV rfl (fun _=>trivial) _ rfl _ _ rfl x1.heap.size _ _ _ _ n rfl rfl (by first | rfl | simp) (by first | rfl | simp) (by omega) (ag _) ?_;intro y2 hrow e_;have PG:=bM e_ aG;have c4:=aq (v:=.slice po pl pc) PG.out 4 rfl;have dO:=aY PG.out 4) | fail);clear c4 dO;rw[Jt] at hrow e_
 have hlf:kf<k2:=by rw[<-Jt];exact Vp.out
 have ic:y2.grownBy (y2.setCell ⟨kf,4,none⟩ (.slice (some ⟨k2,0,none⟩) n n)) (some kf):=aD (aE _ _) _;have sE:=aA y2 kf 4 _ _ (.slice (some ⟨k2,0,none⟩) n n) PG.out;obtain⟨W1,rO⟩:∃ y,y=y2.setCell ⟨kf,4,none⟩ (.slice (some ⟨k2,0,none⟩) n n):=⟨_,rfl⟩;rw[<-rO] at ic sE ⊢;have nt:Fr 29 y2 W1:=.aI ic (fun j hj=>by injection hj with hj;subst hj;exact⟨_,PG.out,bO⟩);have HR:=aa (El.Row.h_ (show fR.Row y2 k2 (.slice (some ⟨k2,0,none⟩) n n) (List.replicate n CV) from hrow) ic (fun j hj e=>by have uJ:k2=j:=(by simpa [Value.ownBlock] using hj);omega) nt trivial);have Oe:aB w.heap.size w y2:=HW.out.trans ((show aB k2 x1 y2 from e_).mono (by rw[<-Jt];exact HW.out.size))
 have Li:=bF Oe ic QC.out;have hb:=Li;clear hb;replace aG:Hid (W1.heap[kf]?=some (.cells #[.int .i64 o,.bool b,.slice ao l c,.string nm,.slice (some ⟨k2,0,none⟩) n n] 29 (0,0))):=aa sE;replace HW:=aa Li;clear hrow e_ ic sE rO nt Oe Li PG Jt;have Pt:Hid (w.heap.size<=kf/\kf<k2):=aa ⟨QC.out,hlf⟩;clear hlf QC Vp cn jC;have Ze:Hid ((t.kids.map (nW s)).length=n):=aa (by rw[cQ];exact HN.out.symm);have gA:=aa (ax k2 W1);have mj:=aG;go_wp2_with fail;go_loopw [15] (O2 k2 n W1 (t.kids.map (nW s))) (fun i _=>n - (eT i).toNat)
 case atStart=>exact⟨0,_,rfl,ah _,aa fX,aa (fun q _ _ h=>absurd h (an _)),HR,gA⟩
 case round =>
  obtain⟨wl,rfl⟩:∃ q,q=wr:=⟨_,rfl⟩;clear HR aG gA;obtain⟨j,el,rfl,hj,HE,HT,HR,HB⟩:=hrel;have aG:=aa ((HB.out.block kf Pt.out.2).trans mj.out);have IW:Hid (aB w.heap.size w wl):=aa (HW.out.trans (HB.out.mono (by have:=Pt.out;omega)));have MO:Hid (k2<wl.heap.size):=aa (HR.out.ge rfl).2;by_cases hlt:j<n
  ·have HJ:Hid (j<t.kids.length):=aa (by rw[<-HN.out];exact hlt);obtain⟨x,hx⟩:∃ x,x=t.kids[j]'HJ.out:=⟨_,rfl⟩;have hxs:x ∈ s:=Fb.out x (by rw[hx];exact bS HJ.out);obtain⟨i,hi⟩:∃ i,i=idx s x:=⟨_,rfl⟩;obtain⟨ko9,kc9,e9,-,oX⟩:=HV.out.rz (cA.aH IW.out);injection e9 with e1 e2 e3;subst e1;obtain⟨a,rfl,-,ca⟩:=oX j (by rw[cQ];exact HJ.out);rw[fg,<-hx,<-hi] at ca;have hib:i<=1000000:=by rw[hi];exact ai (CD (wg hxs)) (ai HS.out.len (by decide))
   have Qx:Hid (s[i]?=some x):=aa (by rw[hi];exact fW hxs);obtain⟨sx,Bb⟩:∃ z,z=cU x.op:=⟨_,rfl⟩;have EV:=aa Bb;have HX:=aa hx;have Zn:=aa hi;have QE:=aa hib;clear oX e2 e3 hx hxs hi hib Bb;go_upto_region 5 with fail;clear ca;have dS:=ae aG.out;have fO:Hid (∀ q,q<0->(fun q=>0) q<wl.heap.size):=aa (fun q h=>absurd h (an _));refine R7.region (by kernel_rfl) [[],[0],[],[],[3],[],[],[3,4,5,6],[3,4,5,6,7],[0,1,2,3,4,5,6,7,8],[0,1,2,3,4,5,6,7,8,9]] [] [] (fun q=>0) 0 10 (by kernel_rfl) (by kernel_rfl) (by rfl) fO.out (fun q q' h h' hn=>absurd hn (by omega)) ?_;refine R7.aF.dL ?_ (by rfl) (fun T xs wr hA=>?_) ?_;rotate_left 1
   ·have e4:=hA.pre 4 (by kernel_rfl);simp only[kM,lO,lF] at e4;clear hA;refine⟨(by rfl),?_⟩;go_simp<;>(try with_reducible rfl)
   refine R7.aF.dL ?_ (by rfl) (fun T xs wr hA=>?_) ?_;rotate_left 1
   ·have EG:=hA.tm 0 20 (by rfl) (by rfl);have f20:xs 0=_:=hA.fa 0 (by rfl);(try simp (disch:=first | rfl | decide) only [R7.au] at f20);rw[f20] at EG;clear f20;have bB:wr.heap[kf]?=_:=(hA.bl _ dS (fun q h=>absurd h (an _))).trans aG.out;have q0:=aq (v:=.int .i64 o) bB 0 rfl;have q1:=aq (v:=.bool b) bB 1 rfl;have q2:=aq (v:=.slice ao l c) bB 2 rfl;have q3:=aq (v:=.string nm) bB 3 rfl;have q4:=aq (v:=.slice (some ⟨k2,0,none⟩) n n) bB 4 rfl;clear bB;clear hA;refine⟨(by rfl),?_⟩;go_simp<;>(try with_reducible rfl)
   refine R7.aF.dL ?_ (by rfl) (fun T xs wr hA=>?_) ?_;rotate_left 1
   ·have e7:=hA.pre 7 (by kernel_rfl);simp only[kM,lO,lF] at e7;clear hA;refine⟨(by rfl),?_⟩;go_simp<;>(try with_reducible rfl)
   refine R7.aF.dL ?_ (by rfl) (fun T xs wr hA=>?_) ?_;rotate_left 1
   ·have e8:=hA.pre 8 (by kernel_rfl);simp only[kM,lO,lF] at e8;clear hA;refine⟨(by rfl),?_⟩;go_simp<;>(try with_reducible rfl)
   refine R7.aF.call (fun xs v w=>v=.string (jK i)) (fun _ _ _ _ h _=>h) (fun _ _ _ _ _ h _ _=>h) (by rfl) (fun T xs wr hA=>?_) ?_
   ·have nH:=(hA.be 0 (ah _) (fun _ _=>ah _)).size;have Cl:=hA.tm 3 23 (by rfl) (by rfl);have f23:xs 3=_:=hA.fa 3 (by rfl);(try simp (disch:=first | rfl | decide) only [R7.au] at f23);rw[f23] at Cl;clear f23;have gq:=ck (hA.be wl.heap.size (ag _) (fun q h=>absurd h (an q)));have KT:=HS.out.below (IW.out.trans (gq.mono IW.out.size));clear hA;refine⟨(by rfl),fun K hK=>?_⟩;go_simp;refine (Hl i QE.out _ KT.tx).mono ?_;rintro e w' ⟨rfl,hb'⟩;exact hK.out _ _ rfl hb'
   refine R7.aF.dL ?_ (by rfl) (fun T xs wr hA=>?_) ?_;rotate_left 1
   ·have e0:=hA.pre 0 (by kernel_rfl);simp only[kM,lF] at e0;clear hA;refine⟨(by rfl),?_⟩;go_simp<;>(try with_reducible rfl)
   refine R7.aF.dL ?_ (by rfl) (fun T xs wr hA=>?_) ?_;rotate_left 1
   ·have e8:=hA.pre 8 (by kernel_rfl);simp only[kM,lO,lF] at e8;clear hA;refine⟨(by rfl),?_⟩;go_simp<;>(try with_reducible rfl)
   refine R7.aF.call (fun xs v w=>v=.int .i64 sx) (fun _ _ _ _ h _=>h) (fun _ _ _ _ _ h _ _=>h) (by rfl) (fun T xs wr hA=>?_) ?_
   ·have nH:=(hA.be 0 (ah _) (fun _ _=>ah _)).size;have JJ:=hA.tm 5 25 (by rfl) (by rfl);have f25:xs 5=_:=hA.fa 5 (by rfl);(try simp (disch:=first | rfl | decide) only [R7.au] at f25);rw[f25] at JJ;clear f25;have OE:=hA.tm 6 26 (by rfl) (by rfl);have f26:xs 6=_:=hA.fa 6 (by rfl);(try simp (disch:=first | rfl | decide) only [R7.au] at f26);rw[f26] at OE;clear f26;have gq:=ck (hA.be wl.heap.size (ag _) (fun q h=>absurd h (an q)));have KT:=HS.out.below (IW.out.trans (gq.mono IW.out.size));clear hA;refine⟨(by rfl),fun K hK=>?_⟩;go_simp;refine (vQ _ KT i x Qx.out).mono ?_;rintro e w' ⟨rfl,hb'⟩;rw[<-EV.out];exact hK.out _ _ rfl hb'
   refine R7.aF.call (fun xs v w=>v=.agg #[.int .i64 (jv sx),.bool false,.slice none 0 0,.string (jK i),.slice none 0 0]) (fun _ _ _ _ h _=>h) (fun _ _ _ _ _ h _ _=>h) (by rfl) (fun T xs wr hA=>?_) ?_
   ·have nH:=(hA.be 0 (ah _) (fun _ _=>ah _)).size;have Ck:=hA.tm 4 24 (by rfl) (by rfl);have f24:xs 4=(.string (jK i)):=hA.fa 4 (by rfl);rw[f24] at Ck;clear f24;have OD:=hA.tm 7 27 (by rfl) (by rfl);have f27:xs 7=(.int .i64 sx):=hA.fa 7 (by rfl);rw[f27] at OD;clear f27;have gq:=ck (hA.be wl.heap.size (ag _) (fun q h=>absurd h (an q)));clear hA;refine⟨(by rfl),fun K hK=>?_⟩;go_simp;refine (I9 _ _ _).mono ?_;rintro e w' ⟨rfl,hb'⟩;exact hK.out _ _ rfl hb'
   refine R7.aF.dL ?_ (by rfl) (fun T xs wr hA=>?_) ?_;rotate_left 1
   ·have CO:=hA.tm 1 21 (by rfl) (by rfl);have f21:xs 1=_:=hA.fa 1 (by rfl);(try simp (disch:=first | rfl | decide) only [R7.au] at f21);rw[f21] at CO;clear f21;have CN:=hA.tm 2 22 (by rfl) (by rfl);have f22:xs 2=_:=hA.fa 2 (by rfl);(try simp (disch:=first | rfl | decide) only [R7.au] at f22);rw[f22] at CN;clear f22;clear hA;refine⟨(by rfl),?_⟩;go_simp<;>(try with_reducible rfl)
   refine R7.aF.done (fun xs CF hL=>?_);obtain⟨⟨iB,cS⟩,hf,-,-⟩:=hL;have f0:xs 0=_:=hf 0 (by decide);(try simp (disch:=first | rfl | decide) only [R7.au] at f0);have f1:xs 1=_:=hf 1 (by decide);(try simp (disch:=first | rfl | decide) only [R7.au] at f1);have f2:xs 2=_:=hf 2 (by decide);(try simp (disch:=first | rfl | decide) only [R7.au] at f2);have f3:xs 3=_:=hf 3 (by decide);(try simp (disch:=first | rfl | decide) only [R7.au] at f3);have f4:xs 4=(.string (jK i)):=hf 4 (by decide);have f5:xs 5=_:=hf 5 (by decide);(try simp (disch:=first | rfl | decide) only [R7.au] at f5);have f6:xs 6=_:=hf 6 (by decide);(try simp (disch:=first | rfl | decide) only [R7.au] at f6);have f7:xs 7=(.int .i64 sx):=hf 7 (by decide)
   have f8:xs 8=(.agg #[.int .i64 (jv sx),.bool false,.slice none 0 0,.string (jK i),.slice none 0 0]):=hf 8 (by decide);have f9:xs 9=_:=hf 9 (by decide);(try simp (disch:=first | rfl | decide) only [R7.au] at f9);have hb0:aB 0 wl CF:=ck (iB 0 (ah _) (fun _ _=>ah _));have jl:∀ j,j<wl.heap.size->(∀ q,q<0->(fun q=>0) q≠j)->CF.heap[j]?=wl.heap[j]?:=cS;clear iB cS hf;have hb:aB wl.heap.size wl CF:=⟨hb0.os,hb0.tape,hb0.output,hb0.size,fun q hq=>jl q hq (fun q h=>absurd h (an _))⟩;refine R7.ji (by decide) (by kernel_rfl) ?_;simp only[R7.fill,Gp,Gn,Gm,Gl,AU,AT,AS,f0,f1,f2,f3,f4,f5,f6,f7,f8,f9];clear hb0 jl fO dS f0 f1 f2 f3 f4 f5 f6 f7 f8 f9;replace HR:=aa (HR.out.below hb)
   replace HB:=aa (HB.out.trans (hb.mono (CD MO.out)));replace HT:=aa (fun q h1 h2 h3=>(HT.out q h1 h2 h3).below hb);replace hb:=aa hb;obtain⟨⟨g0,g1,g2,g3,g4⟩,i0,i1,i2,i3,i4⟩:=Row.FB HR.out HE.out.symm (i:=j) (by rw[HE.out];exact hlt);go_wp2_with fail;go_roundw
   case rel =>
    obtain⟨r1,r2⟩:=Row.qh HR.out j (by rw[HE.out];exact hlt) HE.out.symm (⟨jv sx,⟨none,0,0,0⟩,jK i,none,0,0⟩:FU) rfl;have MA:=a_ CF k2 j (⟨jv sx,⟨none,0,0,0⟩,jK i,none,0,0⟩:FU);refine⟨j+1,el.set j (⟨jv sx,⟨none,0,0,0⟩,jK i,none,0,0⟩:FU),by go_num,hlt,aa (by rw[cP];exact HE.out),aa (fun q h1 h2 h3=>?_),aa r1,aa (HB.out.trans (iP MA (CD (HR.out.ge rfl).2) (ag _)))⟩;by_cases hqj:q=j
    ·subst hqj;rw[CE,fg,<-HX.out,EV.out,Zn.out];exact KB
    rw[List.getElem_set_ne (fun e=>hqj e.symm)];exact (HT.out q (by rw[cP] at h1;exact h1) h2 (by omega)).grown MA (KN.eK r2) (fun b hb e=>hb.elim)
   case measure=>simp[eT];omega
  have ej:j=n:=by omega
  subst ej;obtain⟨⟨c0,c1,c2,c3,c4⟩,dN,dY,dX,dW,dO⟩:=ay aG.out;go_wp2_with fail;have hfl:FL wl (fun b=>b=k2) 1 (.slice (some ⟨k2,0,none⟩) j j) (t.kids.map (nW s)):=FL.zm HR.out HE.out.symm (by rw[HE.out];exact Ze.out.symm) rfl (fun q h1 h2=>(HT.out q h1 h2 (by have h3:=HE.out;omega)).mono fun b hb=>hb.elim);have Im:=FC.mk (nm:=nm) Zm.out (HZ.out.below IW.out) hfl;have ek:F.node o t.num nm (t.kids.map (nW s))=xS s t:=by rw[HO.out,ML.out];rfl
  rw[ek] at Im;refine (vN 2 _ (xS s t) _ _ Im (zD HG.out.1) (sN HG.out.2 (ai HS.out.len (by decide)) Fb.out) (ai (sA 2 _ (sN HG.out.2 (ai HS.out.len (by decide)) Fb.out)) (A' 2 (by decide))) (HS.out.below IW.out).tx).mono ?_;rintro e w' ⟨rfl,hb⟩;clear c0 dN c1 dY c2 dX c3 dW c4 dO hfl Im ek;have HF:=aa (IW.out.trans (hb.mono IW.out.size));clear hb;go_wp2_with fail;go_ret;exact⟨rfl,HF.out⟩
end Go.Proofs.YtoncclhbdkjhmaaGreatDoor
