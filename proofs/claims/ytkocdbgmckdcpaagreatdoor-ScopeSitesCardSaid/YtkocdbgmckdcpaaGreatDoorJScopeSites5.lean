/-
 Joined texts: SsD,SsE,SsG,PsPa,PsPb,PsPc,PsPd,ScB,ScM.
-/
import Derived.Test.YtkocdbgmckdcpaaGreatDoorJScopeSites1
import Derived.Test.YtkocdbgmckdcpaaGreatDoorJScopeSites4
set_option maxHeartbeats 32000000
namespace Go.Proofs.YtkocdbgmckdcpaaGreatDoor
open Go.RowKit
set_option maxRecDepth 100000
set_option linter.unusedVariables false
set_option linter.unusedSimpArgs false
theorem symm1_p (w:World) (ko:Option Addr) (kc:Nat) (xs:List X) (hS:Srt w ko xs) (la lm lb:Nat) (h1:lm=la+1) (h2:lm<lb) (hab:lb<=xs.length) (hn:xs.length<=1000000) :
  Calls Tryz.prog 111 #[.slice ko xs.length kc,.int .i64 (la:Nat),.int .i64 (lm:Nat),.int .i64 (lb:Nat),.func (.func 50) #[] #[]] w fun e w'=>e=.returned (.tuple #[])/\Below w.heap.size w w':=by
 have HS:=h_ hS;have HW:=h_ (Below.refl w.heap.size w);clear hS;obtain⟨a,ha⟩:∃ a,ko=some a:=by obtain⟨a,ha,-⟩:=HS.out.1 la (by omega);exact⟨a,ha⟩
 subst ha;go_enter Tryz.func111,Tryz.ntmps111
 have ht:((lm:Int) - (la:Int)==1)=true:=by simp;omega
 have H1:=h_ h1;have hlm:la<lm:=by omega
 clear h1;go_wp2_with fail
 go_loopw [10,11] (fun i j wr=>∃ (jj:Nat),i=.int .i64 (lm:Nat)/\j=.int .i64 (jj:Nat)/\lm<=jj/\jj<=lb/\Hid (Below w.heap.size w wr)) (fun _ j _=>(intOf j).toNat)
 case atStart=>exact⟨lb,rfl,rfl,by omega,Nat.le_refl _,HW⟩
 case round =>
  obtain⟨wl,hwl⟩:∃ q,q=wr:=⟨_,rfl⟩
  subst hwl;clear HW;obtain⟨jj,rfl,rfl,hj1,hj2,HW⟩:=hrel
  by_cases hlt:lm<jj
  ·obtain⟨h,hmd,hm1,hm2⟩:∃ h:Nat,((lm:Int)+(jj:Int)) / 2=((h:Nat):Int)/\lm<=h/\h<jj:=⟨(lm+jj) / 2,by omega,by omega,by omega⟩
   have HMh:=h_ hmd;clear hmd;go_upto_region 5 with fail
   rw[HMh.out];obtain⟨yh,hyh⟩:∃ y,y=xs[h]'(by omega):=⟨_,rfl⟩
   have HCh:=h_ (srt_at HS.out HW.out (h) (by omega));rw[<-hyh] at HCh;obtain⟨ya,hya⟩:∃ y,y=xs[la]'(by omega):=⟨_,rfl⟩
   have HCa:=h_ (srt_at HS.out HW.out (la) (by omega));rw[<-hya] at HCa;obtain⟨z,hz⟩:∃ z,z=plcX yh ya:=⟨_,rfl⟩
   have hzp:0<z:=by rw[hz,hyh,hya];exact plcX_pos (HS.out.2 _ _ (by omega) (by omega))
   have HZ:=h_ hz;have hI:((h:Nat):Int)<((xs.length:Nat):Int):=by omega
   have hI2:((la:Nat):Int)<((xs.length:Nat):Int):=by omega
   clear hz hyh hya;refine R7.r0 [[],[],[],[1,2],[1,2,3],[],[],[5,6],[5,6,7],[0,1,2,3,4,5,6,7,8],[0,1,2,3,4,5,6,7,8,9]] 11 ?_;refine R7.cd ?_ (fun T xs wr hA=>?_) ?_
   rotate_left
   ·have e4:=hA.pq 4;simp only[gsa,gsc,gsz] at e4;clear hA;go_simp<;>(try with_reducible rfl)
   refine R7.cd ?_ (fun T xs wr hA=>?_) ?_
   rotate_left
   ·have e0:=hA.pq 0;simp only[gsa,gsz] at e0;clear hA;go_simp<;>(try with_reducible rfl)
   refine R7.cd ?_ (fun T xs wr hA=>?_) ?_
   rotate_left
   ·have e12:=hA.pq 12;simp only[gsa,gsc,gsz] at e12;clear hA;go_simp<;>(try with_reducible rfl)
   refine R7.cd ?_ (fun T xs wr hA=>?_) ?_
   rotate_left
   ·have e41:=tr_ (hA.tq 1 41) (hA.fq 1);have e42:=tr_ (hA.tq 2 42) (hA.fq 2)
    (try simp (disch:=decide) only [R7.mi] at e41 e42)
    clear hA;go_simp<;>(try with_reducible rfl)
   refine R7.cd ?_ (fun T xs wr hA=>?_) ?_
   rotate_left
   ·have e43:=tr_ (hA.tq 3 43) (hA.fq 3)
    (try simp (disch:=decide) only [R7.mi] at e43)
    have hbw:=undrew (hA.be wl.heap.size (Nat.le_refl _) (fun q h=>absurd h (Nat.not_lt_zero _)));obtain⟨d0,d1,d2,d3,d4,d5,d6,d7⟩:=cells8 (w:=wr) (p:=a.add (h*8)) (y:=yh) (fun j v hv=>by rw[hbw.cell (cell_lt (HCh.out j v hv))];exact HCh.out j v hv);clear hbw;clear hA;go_simp<;>(try with_reducible rfl)
   refine R7.cd ?_ (fun T xs wr hA=>?_) ?_
   rotate_left
   ·have e0:=hA.pq 0;simp only[gsa,gsz] at e0;clear hA;go_simp<;>(try with_reducible rfl)
   refine R7.cd ?_ (fun T xs wr hA=>?_) ?_
   rotate_left
   ·have e1:=hA.pq 1;simp only[gsa,gsc,gsz] at e1;clear hA;go_simp<;>(try with_reducible rfl)
   refine R7.cd ?_ (fun T xs wr hA=>?_) ?_
   rotate_left
   ·have e45:=tr_ (hA.tq 5 45) (hA.fq 5);have e46:=tr_ (hA.tq 6 46) (hA.fq 6)
    (try simp (disch:=decide) only [R7.mi] at e45 e46)
    clear hA;go_simp<;>(try with_reducible rfl)
   refine R7.cd ?_ (fun T xs wr hA=>?_) ?_
   rotate_left
   ·have e47:=tr_ (hA.tq 7 47) (hA.fq 7)
    (try simp (disch:=decide) only [R7.mi] at e47)
    have hbw:=undrew (hA.be wl.heap.size (Nat.le_refl _) (fun q h=>absurd h (Nat.not_lt_zero _)));obtain⟨d0,d1,d2,d3,d4,d5,d6,d7⟩:=cells8 (w:=wr) (p:=a.add (la*8)) (y:=ya) (fun j v hv=>by rw[hbw.cell (cell_lt (HCa.out j v hv))];exact HCa.out j v hv);clear hbw;clear hA;go_simp<;>(try with_reducible rfl)
   refine R7.Chain.call (fun xs v w=>v=.int .i64 z) (fun _ _ _ _ h _=>h) (fun _ _ _ _ _ h _ _=>h) (by rfl) (fun T xs wr hA=>?_) ?_
   ·have hsw:=(hA.be 0 (Nat.zero_le _) (fun _ _=>Nat.zero_le _)).size;have e40:=tr_ (hA.tq 0 40) (hA.fq 0);have e44:=tr_ (hA.tq 4 44) (hA.fq 4);have e48:=tr_ (hA.tq 8 48) (hA.fq 8)
    (try simp (disch:=decide) only [R7.mi] at e40 e44 e48)
    clear hA;refine⟨(by rfl),fun K hK=>?_⟩;go_simp
    refine (sortcmp_p yh ya _).mono ?_;rintro e w' ⟨rfl,hb⟩;exact hK.out _ _ (by rw[HZ.out]) hb
   refine R7.Chain.call (fun xs v w=>v=.bool false) (fun _ _ _ _ h _=>h) (fun _ _ _ _ _ h _ _=>h) (by rfl) (fun T xs wr hA=>?_) ?_
   ·have hsw:=(hA.be 0 (Nat.zero_le _) (fun _ _=>Nat.zero_le _)).size;have e49:=hA.tm 9 49 (by rfl) (by rfl);have f49:xs 9=(.int .i64 z):=hA.fa 9 (by rfl);rw[f49] at e49;clear f49;clear hA;refine⟨(by rfl),fun K hK=>?_⟩;go_simp
    exact hK.out _ _ (by first | rfl | (simp;omega)) (Below.refl _ _)
   refine R7.Chain.done (fun xs w1 hL=>?_);obtain⟨⟨hbe,hbl⟩,hf,-,-⟩:=hL;have f0:xs 0=_:=hf 0 (by decide);have f1:xs 1=_:=hf 1 (by decide);have f2:xs 2=_:=hf 2 (by decide);have f3:xs 3=_:=hf 3 (by decide);have f4:xs 4=_:=hf 4 (by decide);have f5:xs 5=_:=hf 5 (by decide);have f6:xs 6=_:=hf 6 (by decide);have f7:xs 7=_:=hf 7 (by decide);have f8:xs 8=_:=hf 8 (by decide);have f9:xs 9=(.int .i64 z):=hf 9 (by decide);have f10:xs 10=(.bool false):=hf 10 (by decide)
   (try simp (disch:=decide) only [R7.mi] at f0 f1 f2 f3 f4 f5 f6 f7 f8)
   have hb:Below wl.heap.size wl w1:=R7.b0_ hbe;clear hbe hbl hf;refine R7.rest_done ?_;simp only[R7.fill,t5_,t6_,t7_,f0,f1,f2,f3,f4,f5,f6,f7,f8,f9,f10];clear  f0 f1 f2 f3 f4 f5 f6 f7 f8 f9 f10;replace HW:=h_ (HW.out.trans (hb.mono HW.out.size));clear hb;clear hzp HZ hI hI2 HCh HCa;go_wp2_with fail
   go_roundw
   case rel=>exact⟨h,rfl,rfl,by omega,by omega,HW⟩
   case measure=>simp[intOf];omega
  obtain rfl:jj=lm:=by omega
  go_wp2_with fail
  refine wp_loop_rounds 1 ?_;rw[rounds_succ];have hk:¬ ((la:Int)<(jj:Int) - 1):=by have:=H1.out;omega
  go_wp2_with fail
  exact bodyPost_ret (results_none Tryz.results111 _ _ _) rfl ⟨rfl,HW.out⟩
theorem symm2_p (w:World) (ko:Option Addr) (kc:Nat) (xs:List X) (hS:Srt w ko xs) (la lm lb:Nat) (h1:la+1<lm) (h2:lb=lm+1) (hab:lb<=xs.length) (hn:xs.length<=1000000) :
  Calls Tryz.prog 111 #[.slice ko xs.length kc,.int .i64 (la:Nat),.int .i64 (lm:Nat),.int .i64 (lb:Nat),.func (.func 50) #[] #[]] w fun e w'=>e=.returned (.tuple #[])/\Below w.heap.size w w':=by
 have HS:=h_ hS;have HW:=h_ (Below.refl w.heap.size w);clear hS;obtain⟨a,ha⟩:∃ a,ko=some a:=by obtain⟨a,ha,-⟩:=HS.out.1 la (by omega);exact⟨a,ha⟩
 subst ha;go_enter Tryz.func111,Tryz.ntmps111
 have ht:((lm:Int) - (la:Int)==1)=false:=by simp;omega
 have ht2:((lb:Int) - (lm:Int)==1)=true:=by simp;omega
 have H1:=h_ h2;have hlb:lm<lb:=by omega
 have hlm:la<lm:=by omega
 clear h1 h2;go_wp2_with fail
 go_loopw [14,15] (fun i j wr=>∃ (jj:Nat),i=.int .i64 (jj:Nat)/\j=.int .i64 (lm:Nat)/\la<=jj/\jj<=lm/\Hid (Below w.heap.size w wr)) (fun i _ _=>lm - (intOf i).toNat)
 case atStart=>exact⟨la,rfl,rfl,Nat.le_refl _,by omega,HW⟩
 case round =>
  obtain⟨wl,hwl⟩:∃ q,q=wr:=⟨_,rfl⟩
  subst hwl;clear HW;obtain⟨jj,rfl,rfl,hj1,hj2,HW⟩:=hrel
  by_cases hlt:jj<lm
  ·obtain⟨h,hmd,hm1,hm2⟩:∃ h:Nat,((jj:Int)+(lm:Int)) / 2=((h:Nat):Int)/\jj<=h/\h<lm:=⟨(jj+lm) / 2,by omega,by omega,by omega⟩
   have HMh:=h_ hmd;clear hmd;go_upto_region 17 with fail
   rw[HMh.out];obtain⟨ym,hym⟩:∃ y,y=xs[lm]'(by omega):=⟨_,rfl⟩
   have HCm:=h_ (srt_at HS.out HW.out (lm) (by omega));rw[<-hym] at HCm;obtain⟨yh,hyh⟩:∃ y,y=xs[h]'(by omega):=⟨_,rfl⟩
   have HCh:=h_ (srt_at HS.out HW.out (h) (by omega));rw[<-hyh] at HCh;obtain⟨z,hz⟩:∃ z,z=plcX ym yh:=⟨_,rfl⟩
   have hzp:0<z:=by rw[hz,hym,hyh];exact plcX_pos (HS.out.2 _ _ (by omega) (by omega))
   have HZ:=h_ hz;have hI:((lm:Nat):Int)<((xs.length:Nat):Int):=by omega
   have hI2:((h:Nat):Int)<((xs.length:Nat):Int):=by omega
   clear hz hym hyh;refine R7.r0 [[],[],[],[1,2],[1,2,3],[],[],[5,6],[5,6,7],[0,1,2,3,4,5,6,7,8],[0,1,2,3,4,5,6,7,8,9],[0,1,2,3,4,5,6,7,8,9,10]] 12 ?_;refine R7.cd ?_ (fun T xs wr hA=>?_) ?_
   rotate_left
   ·have e4:=hA.pq 4;simp only[gsa,gsc,gsz] at e4;clear hA;go_simp<;>(try with_reducible rfl)
   refine R7.cd ?_ (fun T xs wr hA=>?_) ?_
   rotate_left
   ·have e0:=hA.pq 0;simp only[gsa,gsz] at e0;clear hA;go_simp<;>(try with_reducible rfl)
   refine R7.cd ?_ (fun T xs wr hA=>?_) ?_
   rotate_left
   ·have e2:=hA.pq 2;simp only[gsa,gsc,gsz] at e2;clear hA;go_simp<;>(try with_reducible rfl)
   refine R7.cd ?_ (fun T xs wr hA=>?_) ?_
   rotate_left
   ·have e93:=tr_ (hA.tq 1 93) (hA.fq 1);have e94:=tr_ (hA.tq 2 94) (hA.fq 2)
    (try simp (disch:=decide) only [R7.mi] at e93 e94)
    clear hA;go_simp<;>(try with_reducible rfl)
   refine R7.cd ?_ (fun T xs wr hA=>?_) ?_
   rotate_left
   ·have e95:=tr_ (hA.tq 3 95) (hA.fq 3)
    (try simp (disch:=decide) only [R7.mi] at e95)
    have hbw:=undrew (hA.be wl.heap.size (Nat.le_refl _) (fun q h=>absurd h (Nat.not_lt_zero _)));obtain⟨d0,d1,d2,d3,d4,d5,d6,d7⟩:=cells8 (w:=wr) (p:=a.add (lm*8)) (y:=ym) (fun j v hv=>by rw[hbw.cell (cell_lt (HCm.out j v hv))];exact HCm.out j v hv);clear hbw;clear hA;go_simp<;>(try with_reducible rfl)
   refine R7.cd ?_ (fun T xs wr hA=>?_) ?_
   rotate_left
   ·have e0:=hA.pq 0;simp only[gsa,gsz] at e0;clear hA;go_simp<;>(try with_reducible rfl)
   refine R7.cd ?_ (fun T xs wr hA=>?_) ?_
   rotate_left
   ·have e16:=hA.pq 16;simp only[gsa,gsc,gsz] at e16;clear hA;go_simp<;>(try with_reducible rfl)
   refine R7.cd ?_ (fun T xs wr hA=>?_) ?_
   rotate_left
   ·have e97:=tr_ (hA.tq 5 97) (hA.fq 5);have e98:=tr_ (hA.tq 6 98) (hA.fq 6)
    (try simp (disch:=decide) only [R7.mi] at e97 e98)
    clear hA;go_simp<;>(try with_reducible rfl)
   refine R7.cd ?_ (fun T xs wr hA=>?_) ?_
   rotate_left
   ·have e99:=tr_ (hA.tq 7 99) (hA.fq 7)
    (try simp (disch:=decide) only [R7.mi] at e99)
    have hbw:=undrew (hA.be wl.heap.size (Nat.le_refl _) (fun q h=>absurd h (Nat.not_lt_zero _)));obtain⟨d0,d1,d2,d3,d4,d5,d6,d7⟩:=cells8 (w:=wr) (p:=a.add (h*8)) (y:=yh) (fun j v hv=>by rw[hbw.cell (cell_lt (HCh.out j v hv))];exact HCh.out j v hv);clear hbw;clear hA;go_simp<;>(try with_reducible rfl)
   refine R7.Chain.call (fun xs v w=>v=.int .i64 z) (fun _ _ _ _ h _=>h) (fun _ _ _ _ _ h _ _=>h) (by rfl) (fun T xs wr hA=>?_) ?_
   ·have hsw:=(hA.be 0 (Nat.zero_le _) (fun _ _=>Nat.zero_le _)).size;have e92:=tr_ (hA.tq 0 92) (hA.fq 0);have e96:=tr_ (hA.tq 4 96) (hA.fq 4);have e100:=tr_ (hA.tq 8 100) (hA.fq 8)
    (try simp (disch:=decide) only [R7.mi] at e92 e96 e100)
    clear hA;refine⟨(by rfl),fun K hK=>?_⟩;go_simp
    refine (sortcmp_p ym yh _).mono ?_;rintro e w' ⟨rfl,hb⟩;exact hK.out _ _ (by rw[HZ.out]) hb
   refine R7.Chain.call (fun xs v w=>v=.bool false) (fun _ _ _ _ h _=>h) (fun _ _ _ _ _ h _ _=>h) (by rfl) (fun T xs wr hA=>?_) ?_
   ·have hsw:=(hA.be 0 (Nat.zero_le _) (fun _ _=>Nat.zero_le _)).size;have e101:=hA.tm 9 101 (by rfl) (by rfl);have f101:xs 9=(.int .i64 z):=hA.fa 9 (by rfl);rw[f101] at e101;clear f101;clear hA;refine⟨(by rfl),fun K hK=>?_⟩;go_simp
    exact hK.out _ _ (by first | rfl | (simp;omega)) (Below.refl _ _)
   refine R7.Chain.call (fun xs v w=>v=.bool true) (fun _ _ _ _ h _=>h) (fun _ _ _ _ _ h _ _=>h) (by rfl) (fun T xs wr hA=>?_) ?_
   ·have hsw:=(hA.be 0 (Nat.zero_le _) (fun _ _=>Nat.zero_le _)).size;have e102:=hA.tm 10 102 (by rfl) (by rfl);have f102:xs 10=(.bool false):=hA.fa 10 (by rfl);rw[f102] at e102;clear f102;clear hA;refine⟨(by rfl),fun K hK=>?_⟩;go_simp
    exact hK.out _ _ rfl (Below.refl _ _)
   refine R7.Chain.done (fun xs w1 hL=>?_);obtain⟨⟨hbe,hbl⟩,hf,-,-⟩:=hL;have f0:xs 0=_:=hf 0 (by decide);have f1:xs 1=_:=hf 1 (by decide);have f2:xs 2=_:=hf 2 (by decide);have f3:xs 3=_:=hf 3 (by decide);have f4:xs 4=_:=hf 4 (by decide);have f5:xs 5=_:=hf 5 (by decide);have f6:xs 6=_:=hf 6 (by decide);have f7:xs 7=_:=hf 7 (by decide);have f8:xs 8=_:=hf 8 (by decide);have f9:xs 9=(.int .i64 z):=hf 9 (by decide);have f10:xs 10=(.bool false):=hf 10 (by decide);have f11:xs 11=(.bool true):=hf 11 (by decide)
   (try simp (disch:=decide) only [R7.mi] at f0 f1 f2 f3 f4 f5 f6 f7 f8)
   have hb:Below wl.heap.size wl w1:=R7.b0_ hbe;clear hbe hbl hf;refine R7.rest_done ?_;simp only[R7.fill,t5_,t6_,t7_,f0,f1,f2,f3,f4,f5,f6,f7,f8,f9,f10,f11];clear  f0 f1 f2 f3 f4 f5 f6 f7 f8 f9 f10 f11;replace HW:=h_ (HW.out.trans (hb.mono HW.out.size));clear hb;clear hzp HZ hI hI2 HCm HCh;go_wp2_with fail
   go_roundw
   case rel=>exact⟨h+1,by go_num,rfl,by omega,by omega,HW⟩
   case measure=>simp[intOf];omega
  obtain rfl:jj=lm:=by omega
  go_wp2_with fail
  refine wp_loop_rounds 1 ?_;rw[rounds_succ];go_wp2_with fail
  exact bodyPost_ret (results_none Tryz.results111 _ _ _) rfl ⟨rfl,HW.out⟩
theorem symm3_p (w:World) (ko:Option Addr) (kc:Nat) (xs:List X) (hS:Srt w ko xs) (la lm lb:Nat) (d:Nat) (ih:∀ (w:World) (la lm lb:Nat),Srt w ko xs->la<lm->lm<lb->lb<=xs.length->lb - la<d->Calls Tryz.prog 111 #[.slice ko xs.length kc,.int .i64 (la:Nat),.int .i64 (lm:Nat),.int .i64 (lb:Nat),.func (.func 50) #[] #[]] w fun e w'=>e=.returned (.tuple #[])/\Below w.heap.size w w') (hd:lb - la<=d) (h1:la+1<lm) (h2:lm+1<lb) (h3:(la+lb) / 2<lm) (hab:lb<=xs.length) (hn:xs.length<=1000000) :
  Calls Tryz.prog 111 #[.slice ko xs.length kc,.int .i64 (la:Nat),.int .i64 (lm:Nat),.int .i64 (lb:Nat),.func (.func 50) #[] #[]] w fun e w'=>e=.returned (.tuple #[])/\Below w.heap.size w w':=by
 have HS:=h_ hS;have HW:=h_ (Below.refl w.heap.size w);clear hS;obtain⟨a,ha⟩:∃ a,ko=some a:=by obtain⟨a,ha,-⟩:=HS.out.1 la (by omega);exact⟨a,ha⟩
 subst ha;go_enter Tryz.func111,Tryz.ntmps111
 have IH:=h_ ih;clear ih;have ht:((lm:Int) - (la:Int)==1)=false:=by simp;omega
 have ht2:((lb:Int) - (lm:Int)==1)=false:=by simp;omega
 have hlm:la<lm:=by omega
 have hlb:lm<lb:=by omega
 clear h1 h2;obtain⟨md,hmd,hm1,hm2⟩:∃ md:Nat,((la:Int)+(lb:Int)) / 2=((md:Nat):Int)/\la+lb<=2*md+1/\2*md<=la+lb:=⟨(la+lb) / 2,by omega,by omega,by omega⟩
 have HMD:=h_ hmd;rw[show (la+lb) / 2=md by omega] at h3;clear hmd;have hla:la<md:=by omega
 have hmb:md<lb:=by omega
 go_upto_region 25 with fail
 rw[HMD.out];obtain⟨sa,hsa,hs1,hs2⟩:∃ sa:Nat,((md:Int)+(lm:Int)) - (lb:Int)=((sa:Nat):Int)/\md+lm<=sa+lb/\sa<md:=⟨md+lm - lb,by omega,by omega,by omega⟩
 have HSA:=h_ hsa;clear hsa;go_upto_region 29 with fail
 rw[HSA.out];go_wp2_with fail
 go_loopw [20,21] (fun i j wr=>∃ (jj:Nat),i=.int .i64 (jj:Nat)/\j=.int .i64 (md:Nat)/\sa<=jj/\jj<=md/\Hid (Below w.heap.size w wr)) (fun i _ _=>md - (intOf i).toNat)
 case atStart=>exact⟨sa,rfl,rfl,Nat.le_refl _,by omega,HW⟩
 case round =>
  obtain⟨wl,hwl⟩:∃ q,q=wr:=⟨_,rfl⟩
  subst hwl;clear HW;obtain⟨jj,rfl,rfl,hj1,hj2,HW⟩:=hrel
  by_cases hlt:jj<md
  ·obtain⟨h,hmd,hm1,hm2⟩:∃ h:Nat,((jj:Int)+(md:Int)) / 2=((h:Nat):Int)/\jj<=h/\h<md:=⟨(jj+md) / 2,by omega,by omega,by omega⟩
   have HMh:=h_ hmd;clear hmd;obtain⟨q,hq,hq1,hq2⟩:∃ q:Nat,((md:Int)+(lm:Int)) - 1 - (h:Int)=((q:Nat):Int)/\h<q/\q<lb:=⟨md+lm - 1 - h,by omega,by omega,by omega⟩
   have HQ:=h_ (show IntKind.i64.wrap (((md:Int)+(lm:Int)) - 1 - (h:Int))=((q:Nat):Int) by rw[IntWalk.i64_in _ (by omega)];exact hq);clear hq;go_upto_region 35 with fail
   rw[HMh.out];obtain⟨yq,hyq⟩:∃ y,y=xs[q]'(by omega):=⟨_,rfl⟩
   have HCq:=h_ (srt_at HS.out HW.out (q) (by omega));rw[<-hyq] at HCq;obtain⟨yh,hyh⟩:∃ y,y=xs[h]'(by omega):=⟨_,rfl⟩
   have HCh:=h_ (srt_at HS.out HW.out (h) (by omega));rw[<-hyh] at HCh;obtain⟨z,hz⟩:∃ z,z=plcX yq yh:=⟨_,rfl⟩
   have hzp:0<z:=by rw[hz,hyq,hyh];exact plcX_pos (HS.out.2 _ _ (by omega) (by omega))
   have HZ:=h_ hz;have hI:((q:Nat):Int)<((xs.length:Nat):Int):=by omega
   have hI2:((h:Nat):Int)<((xs.length:Nat):Int):=by omega
   clear hz hyq hyh;refine R7.r0 [[],[],[],[],[2,3],[1,2,3,4],[1,2,3,4,5],[],[],[7,8],[7,8,9],[0,1,2,3,4,5,6,7,8,9,10],[0,1,2,3,4,5,6,7,8,9,10,11],[0,1,2,3,4,5,6,7,8,9,10,11,12]] 14 ?_;refine R7.cd ?_ (fun T xs wr hA=>?_) ?_
   rotate_left
   ·have e4:=hA.pq 4;simp only[gsa,gsc,gsz] at e4;clear hA;go_simp<;>(try with_reducible rfl)
   refine R7.cd ?_ (fun T xs wr hA=>?_) ?_
   rotate_left
   ·have e0:=hA.pq 0;simp only[gsa,gsz] at e0;clear hA;go_simp<;>(try with_reducible rfl)
   refine R7.cd ?_ (fun T xs wr hA=>?_) ?_
   rotate_left
   ·have e22:=hA.pq 22;simp only[gsa,gsc,gsz] at e22;clear hA;go_simp<;>(try with_reducible rfl)
   refine R7.cd ?_ (fun T xs wr hA=>?_) ?_
   rotate_left
   ·have e23:=hA.pq 23;simp only[gsa,gsc,gsz] at e23;clear hA;go_simp<;>(try with_reducible rfl)
   refine R7.Chain.call (fun xs v w=>v=.int .i64 (q:Nat)) (fun _ _ _ _ h _=>h) (fun _ _ _ _ _ h _ _=>h) (by rfl) (fun T xs wr hA=>?_) ?_
   ·have hsw:=(hA.be 0 (Nat.zero_le _) (fun _ _=>Nat.zero_le _)).size;have e160:=tr_ (hA.tq 2 160) (hA.fq 2);have e161:=tr_ (hA.tq 3 161) (hA.fq 3)
    (try simp (disch:=decide) only [R7.mi] at e160 e161)
    clear hA;refine⟨(by rfl),fun K hK=>?_⟩;go_simp
    exact hK.out _ _ (by rw[HQ.out]) (Below.refl _ _)
   refine R7.cd ?_ (fun T xs wr hA=>?_) ?_
   rotate_left
   ·have e159:=tr_ (hA.tq 1 159) (hA.fq 1)
    (try simp (disch:=decide) only [R7.mi] at e159)
    have e162:=hA.tm 4 162 (by rfl) (by rfl);have f162:xs 4=(.int .i64 (q:Nat)):=hA.fa 4 (by rfl);rw[f162] at e162;clear f162;clear hA;go_simp<;>(try with_reducible rfl)
   refine R7.cd ?_ (fun T xs wr hA=>?_) ?_
   rotate_left
   ·have e163:=tr_ (hA.tq 5 163) (hA.fq 5)
    (try simp (disch:=decide) only [R7.mi] at e163)
    have hbw:=undrew (hA.be wl.heap.size (Nat.le_refl _) (fun q h=>absurd h (Nat.not_lt_zero _)));obtain⟨d0,d1,d2,d3,d4,d5,d6,d7⟩:=cells8 (w:=wr) (p:=a.add (q*8)) (y:=yq) (fun j v hv=>by rw[hbw.cell (cell_lt (HCq.out j v hv))];exact HCq.out j v hv);clear hbw;clear hA;go_simp<;>(try with_reducible rfl)
   refine R7.cd ?_ (fun T xs wr hA=>?_) ?_
   rotate_left
   ·have e0:=hA.pq 0;simp only[gsa,gsz] at e0;clear hA;go_simp<;>(try with_reducible rfl)
   refine R7.cd ?_ (fun T xs wr hA=>?_) ?_
   rotate_left
   ·have e23:=hA.pq 23;simp only[gsa,gsc,gsz] at e23;clear hA;go_simp<;>(try with_reducible rfl)
   refine R7.cd ?_ (fun T xs wr hA=>?_) ?_
   rotate_left
   ·have e165:=tr_ (hA.tq 7 165) (hA.fq 7);have e166:=tr_ (hA.tq 8 166) (hA.fq 8)
    (try simp (disch:=decide) only [R7.mi] at e165 e166)
    clear hA;go_simp<;>(try with_reducible rfl)
   refine R7.cd ?_ (fun T xs wr hA=>?_) ?_
   rotate_left
   ·have e167:=tr_ (hA.tq 9 167) (hA.fq 9)
    (try simp (disch:=decide) only [R7.mi] at e167)
    have hbw:=undrew (hA.be wl.heap.size (Nat.le_refl _) (fun q h=>absurd h (Nat.not_lt_zero _)));obtain⟨d0,d1,d2,d3,d4,d5,d6,d7⟩:=cells8 (w:=wr) (p:=a.add (h*8)) (y:=yh) (fun j v hv=>by rw[hbw.cell (cell_lt (HCh.out j v hv))];exact HCh.out j v hv);clear hbw;clear hA;go_simp<;>(try with_reducible rfl)
   refine R7.Chain.call (fun xs v w=>v=.int .i64 z) (fun _ _ _ _ h _=>h) (fun _ _ _ _ _ h _ _=>h) (by rfl) (fun T xs wr hA=>?_) ?_
   ·have hsw:=(hA.be 0 (Nat.zero_le _) (fun _ _=>Nat.zero_le _)).size;have e158:=tr_ (hA.tq 0 158) (hA.fq 0);have e164:=tr_ (hA.tq 6 164) (hA.fq 6);have e168:=tr_ (hA.tq 10 168) (hA.fq 10)
    (try simp (disch:=decide) only [R7.mi] at e158 e164 e168)
    clear hA;refine⟨(by rfl),fun K hK=>?_⟩;go_simp
    refine (sortcmp_p yq yh _).mono ?_;rintro e w' ⟨rfl,hb⟩;exact hK.out _ _ (by rw[HZ.out]) hb
   refine R7.Chain.call (fun xs v w=>v=.bool false) (fun _ _ _ _ h _=>h) (fun _ _ _ _ _ h _ _=>h) (by rfl) (fun T xs wr hA=>?_) ?_
   ·have hsw:=(hA.be 0 (Nat.zero_le _) (fun _ _=>Nat.zero_le _)).size;have e169:=hA.tm 11 169 (by rfl) (by rfl);have f169:xs 11=(.int .i64 z):=hA.fa 11 (by rfl);rw[f169] at e169;clear f169;clear hA;refine⟨(by rfl),fun K hK=>?_⟩;go_simp
    exact hK.out _ _ (by first | rfl | (simp;omega)) (Below.refl _ _)
   refine R7.Chain.call (fun xs v w=>v=.bool true) (fun _ _ _ _ h _=>h) (fun _ _ _ _ _ h _ _=>h) (by rfl) (fun T xs wr hA=>?_) ?_
   ·have hsw:=(hA.be 0 (Nat.zero_le _) (fun _ _=>Nat.zero_le _)).size;have e170:=hA.tm 12 170 (by rfl) (by rfl);have f170:xs 12=(.bool false):=hA.fa 12 (by rfl);rw[f170] at e170;clear f170;clear hA;refine⟨(by rfl),fun K hK=>?_⟩;go_simp
    exact hK.out _ _ rfl (Below.refl _ _)
   refine R7.Chain.done (fun xs w1 hL=>?_);obtain⟨⟨hbe,hbl⟩,hf,-,-⟩:=hL;have f0:xs 0=_:=hf 0 (by decide);have f1:xs 1=_:=hf 1 (by decide);have f2:xs 2=_:=hf 2 (by decide);have f3:xs 3=_:=hf 3 (by decide);have f4:xs 4=(.int .i64 (q:Nat)):=hf 4 (by decide);have f5:xs 5=_:=hf 5 (by decide);have f6:xs 6=_:=hf 6 (by decide);have f7:xs 7=_:=hf 7 (by decide);have f8:xs 8=_:=hf 8 (by decide);have f9:xs 9=_:=hf 9 (by decide);have f10:xs 10=_:=hf 10 (by decide);have f11:xs 11=(.int .i64 z):=hf 11 (by decide);have f12:xs 12=(.bool false):=hf 12 (by decide);have f13:xs 13=(.bool true):=hf 13 (by decide)
   (try simp (disch:=decide) only [R7.mi] at f0 f1 f2 f3 f5 f6 f7 f8 f9 f10)
   have hb:Below wl.heap.size wl w1:=R7.b0_ hbe;clear hbe hbl hf;refine R7.rest_done ?_;simp only[R7.fill,t5_,t6_,t7_,f0,f1,f2,f3,f4,f5,f6,f7,f8,f9,f10,f11,f12,f13];clear  f0 f1 f2 f3 f4 f5 f6 f7 f8 f9 f10 f11 f12 f13;replace HW:=h_ (HW.out.trans (hb.mono HW.out.size));clear hb;clear hzp HZ hI hI2 HCq HCh;go_wp2_with fail
   go_roundw
   case rel=>exact⟨h+1,by go_num,rfl,by omega,by omega,HW⟩
   case measure=>simp[intOf];omega
  obtain rfl:jj=md:=by omega
  have HE:=h_ (show ((jj:Int)+(lm:Int)) - (jj:Int)=(lm:Int) by omega);go_upto_region 38 with fail
  go_upto_region 39 with fail
  first | rw[HE.out] | skip
  go_wp2_with (first | (refine (IH.out wl jj lm lb (HS.out.below HW.out) (by omega) (by omega) (by omega) (by omega)).mono ?_;rintro e w2 ⟨rfl,hb⟩;replace HW:=h_ (HW.out.trans (hb.mono HW.out.size));clear hb) | fail)
  exact bodyPost_end (results_none Tryz.results111 _ _ _) rfl ⟨rfl,HW.out⟩
theorem symm4_p (w:World) (ko:Option Addr) (kc:Nat) (xs:List X) (hS:Srt w ko xs) (la lm lb:Nat) (d:Nat) (ih:∀ (w:World) (la lm lb:Nat),Srt w ko xs->la<lm->lm<lb->lb<=xs.length->lb - la<d->Calls Tryz.prog 111 #[.slice ko xs.length kc,.int .i64 (la:Nat),.int .i64 (lm:Nat),.int .i64 (lb:Nat),.func (.func 50) #[] #[]] w fun e w'=>e=.returned (.tuple #[])/\Below w.heap.size w w') (hd:lb - la<=d) (h1:la+1<lm) (h2:lm+1<lb) (h3:lm<=(la+lb) / 2) (hab:lb<=xs.length) (hn:xs.length<=1000000) :
  Calls Tryz.prog 111 #[.slice ko xs.length kc,.int .i64 (la:Nat),.int .i64 (lm:Nat),.int .i64 (lb:Nat),.func (.func 50) #[] #[]] w fun e w'=>e=.returned (.tuple #[])/\Below w.heap.size w w':=by
 have HS:=h_ hS;have HW:=h_ (Below.refl w.heap.size w);clear hS;obtain⟨a,ha⟩:∃ a,ko=some a:=by obtain⟨a,ha,-⟩:=HS.out.1 la (by omega);exact⟨a,ha⟩
 subst ha;go_enter Tryz.func111,Tryz.ntmps111
 have IH:=h_ ih;clear ih;have ht:((lm:Int) - (la:Int)==1)=false:=by simp;omega
 have ht2:((lb:Int) - (lm:Int)==1)=false:=by simp;omega
 have hlm:la<lm:=by omega
 have hlb:lm<lb:=by omega
 clear h1 h2;obtain⟨md,hmd,hm1,hm2⟩:∃ md:Nat,((la:Int)+(lb:Int)) / 2=((md:Nat):Int)/\la+lb<=2*md+1/\2*md<=la+lb:=⟨(la+lb) / 2,by omega,by omega,by omega⟩
 have HMD:=h_ hmd;rw[show (la+lb) / 2=md by omega] at h3;clear hmd;have hla:la<md:=by omega
 have hmb:md<lb:=by omega
 go_upto_region 25 with fail
 rw[HMD.out];go_wp2_with fail
 go_loopw [20,21] (fun i j wr=>∃ (jj:Nat),i=.int .i64 (jj:Nat)/\j=.int .i64 (lm:Nat)/\la<=jj/\jj<=lm/\Hid (Below w.heap.size w wr)) (fun i _ _=>lm - (intOf i).toNat)
 case atStart=>exact⟨la,rfl,rfl,Nat.le_refl _,by omega,HW⟩
 case round =>
  obtain⟨wl,hwl⟩:∃ q,q=wr:=⟨_,rfl⟩
  subst hwl;clear HW;obtain⟨jj,rfl,rfl,hj1,hj2,HW⟩:=hrel
  by_cases hlt:jj<lm
  ·obtain⟨h,hmd,hm1,hm2⟩:∃ h:Nat,((jj:Int)+(lm:Int)) / 2=((h:Nat):Int)/\jj<=h/\h<lm:=⟨(jj+lm) / 2,by omega,by omega,by omega⟩
   have HMh:=h_ hmd;clear hmd;obtain⟨q,hq,hq1,hq2⟩:∃ q:Nat,((md:Int)+(lm:Int)) - 1 - (h:Int)=((q:Nat):Int)/\h<q/\q<lb:=⟨md+lm - 1 - h,by omega,by omega,by omega⟩
   have HQ:=h_ (show IntKind.i64.wrap (((md:Int)+(lm:Int)) - 1 - (h:Int))=((q:Nat):Int) by rw[IntWalk.i64_in _ (by omega)];exact hq);clear hq;go_upto_region 35 with fail
   rw[HMh.out];obtain⟨yq,hyq⟩:∃ y,y=xs[q]'(by omega):=⟨_,rfl⟩
   have HCq:=h_ (srt_at HS.out HW.out (q) (by omega));rw[<-hyq] at HCq;obtain⟨yh,hyh⟩:∃ y,y=xs[h]'(by omega):=⟨_,rfl⟩
   have HCh:=h_ (srt_at HS.out HW.out (h) (by omega));rw[<-hyh] at HCh;obtain⟨z,hz⟩:∃ z,z=plcX yq yh:=⟨_,rfl⟩
   have hzp:0<z:=by rw[hz,hyq,hyh];exact plcX_pos (HS.out.2 _ _ (by omega) (by omega))
   have HZ:=h_ hz;have hI:((q:Nat):Int)<((xs.length:Nat):Int):=by omega
   have hI2:((h:Nat):Int)<((xs.length:Nat):Int):=by omega
   clear hz hyq hyh;refine R7.r0 [[],[],[],[],[2,3],[1,2,3,4],[1,2,3,4,5],[],[],[7,8],[7,8,9],[0,1,2,3,4,5,6,7,8,9,10],[0,1,2,3,4,5,6,7,8,9,10,11],[0,1,2,3,4,5,6,7,8,9,10,11,12]] 14 ?_;refine R7.cd ?_ (fun T xs wr hA=>?_) ?_
   rotate_left
   ·have e4:=hA.pq 4;simp only[gsa,gsc,gsz] at e4;clear hA;go_simp<;>(try with_reducible rfl)
   refine R7.cd ?_ (fun T xs wr hA=>?_) ?_
   rotate_left
   ·have e0:=hA.pq 0;simp only[gsa,gsz] at e0;clear hA;go_simp<;>(try with_reducible rfl)
   refine R7.cd ?_ (fun T xs wr hA=>?_) ?_
   rotate_left
   ·have e22:=hA.pq 22;simp only[gsa,gsc,gsz] at e22;clear hA;go_simp<;>(try with_reducible rfl)
   refine R7.cd ?_ (fun T xs wr hA=>?_) ?_
   rotate_left
   ·have e23:=hA.pq 23;simp only[gsa,gsc,gsz] at e23;clear hA;go_simp<;>(try with_reducible rfl)
   refine R7.Chain.call (fun xs v w=>v=.int .i64 (q:Nat)) (fun _ _ _ _ h _=>h) (fun _ _ _ _ _ h _ _=>h) (by rfl) (fun T xs wr hA=>?_) ?_
   ·have hsw:=(hA.be 0 (Nat.zero_le _) (fun _ _=>Nat.zero_le _)).size;have e160:=tr_ (hA.tq 2 160) (hA.fq 2);have e161:=tr_ (hA.tq 3 161) (hA.fq 3)
    (try simp (disch:=decide) only [R7.mi] at e160 e161)
    clear hA;refine⟨(by rfl),fun K hK=>?_⟩;go_simp
    exact hK.out _ _ (by rw[HQ.out]) (Below.refl _ _)
   refine R7.cd ?_ (fun T xs wr hA=>?_) ?_
   rotate_left
   ·have e159:=tr_ (hA.tq 1 159) (hA.fq 1)
    (try simp (disch:=decide) only [R7.mi] at e159)
    have e162:=hA.tm 4 162 (by rfl) (by rfl);have f162:xs 4=(.int .i64 (q:Nat)):=hA.fa 4 (by rfl);rw[f162] at e162;clear f162;clear hA;go_simp<;>(try with_reducible rfl)
   refine R7.cd ?_ (fun T xs wr hA=>?_) ?_
   rotate_left
   ·have e163:=tr_ (hA.tq 5 163) (hA.fq 5)
    (try simp (disch:=decide) only [R7.mi] at e163)
    have hbw:=undrew (hA.be wl.heap.size (Nat.le_refl _) (fun q h=>absurd h (Nat.not_lt_zero _)));obtain⟨d0,d1,d2,d3,d4,d5,d6,d7⟩:=cells8 (w:=wr) (p:=a.add (q*8)) (y:=yq) (fun j v hv=>by rw[hbw.cell (cell_lt (HCq.out j v hv))];exact HCq.out j v hv);clear hbw;clear hA;go_simp<;>(try with_reducible rfl)
   refine R7.cd ?_ (fun T xs wr hA=>?_) ?_
   rotate_left
   ·have e0:=hA.pq 0;simp only[gsa,gsz] at e0;clear hA;go_simp<;>(try with_reducible rfl)
   refine R7.cd ?_ (fun T xs wr hA=>?_) ?_
   rotate_left
   ·have e23:=hA.pq 23;simp only[gsa,gsc,gsz] at e23;clear hA;go_simp<;>(try with_reducible rfl)
   refine R7.cd ?_ (fun T xs wr hA=>?_) ?_
   rotate_left
   ·have e165:=tr_ (hA.tq 7 165) (hA.fq 7);have e166:=tr_ (hA.tq 8 166) (hA.fq 8)
    (try simp (disch:=decide) only [R7.mi] at e165 e166)
    clear hA;go_simp<;>(try with_reducible rfl)
   refine R7.cd ?_ (fun T xs wr hA=>?_) ?_
   rotate_left
   ·have e167:=tr_ (hA.tq 9 167) (hA.fq 9)
    (try simp (disch:=decide) only [R7.mi] at e167)
    have hbw:=undrew (hA.be wl.heap.size (Nat.le_refl _) (fun q h=>absurd h (Nat.not_lt_zero _)));obtain⟨d0,d1,d2,d3,d4,d5,d6,d7⟩:=cells8 (w:=wr) (p:=a.add (h*8)) (y:=yh) (fun j v hv=>by rw[hbw.cell (cell_lt (HCh.out j v hv))];exact HCh.out j v hv);clear hbw;clear hA;go_simp<;>(try with_reducible rfl)
   refine R7.Chain.call (fun xs v w=>v=.int .i64 z) (fun _ _ _ _ h _=>h) (fun _ _ _ _ _ h _ _=>h) (by rfl) (fun T xs wr hA=>?_) ?_
   ·have hsw:=(hA.be 0 (Nat.zero_le _) (fun _ _=>Nat.zero_le _)).size;have e158:=tr_ (hA.tq 0 158) (hA.fq 0);have e164:=tr_ (hA.tq 6 164) (hA.fq 6);have e168:=tr_ (hA.tq 10 168) (hA.fq 10)
    (try simp (disch:=decide) only [R7.mi] at e158 e164 e168)
    clear hA;refine⟨(by rfl),fun K hK=>?_⟩;go_simp
    refine (sortcmp_p yq yh _).mono ?_;rintro e w' ⟨rfl,hb⟩;exact hK.out _ _ (by rw[HZ.out]) hb
   refine R7.Chain.call (fun xs v w=>v=.bool false) (fun _ _ _ _ h _=>h) (fun _ _ _ _ _ h _ _=>h) (by rfl) (fun T xs wr hA=>?_) ?_
   ·have hsw:=(hA.be 0 (Nat.zero_le _) (fun _ _=>Nat.zero_le _)).size;have e169:=hA.tm 11 169 (by rfl) (by rfl);have f169:xs 11=(.int .i64 z):=hA.fa 11 (by rfl);rw[f169] at e169;clear f169;clear hA;refine⟨(by rfl),fun K hK=>?_⟩;go_simp
    exact hK.out _ _ (by first | rfl | (simp;omega)) (Below.refl _ _)
   refine R7.Chain.call (fun xs v w=>v=.bool true) (fun _ _ _ _ h _=>h) (fun _ _ _ _ _ h _ _=>h) (by rfl) (fun T xs wr hA=>?_) ?_
   ·have hsw:=(hA.be 0 (Nat.zero_le _) (fun _ _=>Nat.zero_le _)).size;have e170:=hA.tm 12 170 (by rfl) (by rfl);have f170:xs 12=(.bool false):=hA.fa 12 (by rfl);rw[f170] at e170;clear f170;clear hA;refine⟨(by rfl),fun K hK=>?_⟩;go_simp
    exact hK.out _ _ rfl (Below.refl _ _)
   refine R7.Chain.done (fun xs w1 hL=>?_);obtain⟨⟨hbe,hbl⟩,hf,-,-⟩:=hL;have f0:xs 0=_:=hf 0 (by decide);have f1:xs 1=_:=hf 1 (by decide);have f2:xs 2=_:=hf 2 (by decide);have f3:xs 3=_:=hf 3 (by decide);have f4:xs 4=(.int .i64 (q:Nat)):=hf 4 (by decide);have f5:xs 5=_:=hf 5 (by decide);have f6:xs 6=_:=hf 6 (by decide);have f7:xs 7=_:=hf 7 (by decide);have f8:xs 8=_:=hf 8 (by decide);have f9:xs 9=_:=hf 9 (by decide);have f10:xs 10=_:=hf 10 (by decide);have f11:xs 11=(.int .i64 z):=hf 11 (by decide);have f12:xs 12=(.bool false):=hf 12 (by decide);have f13:xs 13=(.bool true):=hf 13 (by decide)
   (try simp (disch:=decide) only [R7.mi] at f0 f1 f2 f3 f5 f6 f7 f8 f9 f10)
   have hb:Below wl.heap.size wl w1:=R7.b0_ hbe;clear hbe hbl hf;refine R7.rest_done ?_;simp only[R7.fill,t5_,t6_,t7_,f0,f1,f2,f3,f4,f5,f6,f7,f8,f9,f10,f11,f12,f13];clear  f0 f1 f2 f3 f4 f5 f6 f7 f8 f9 f10 f11 f12 f13;replace HW:=h_ (HW.out.trans (hb.mono HW.out.size));clear hb;clear hzp HZ hI hI2 HCq HCh;go_wp2_with fail
   go_roundw
   case rel=>exact⟨h+1,by go_num,rfl,by omega,by omega,HW⟩
   case measure=>simp[intOf];omega
  obtain rfl:jj=lm:=by omega
  have HE:=h_ (show ((md:Int)+(jj:Int)) - (jj:Int)=(md:Int) by omega);go_upto_region 39 with fail
  first | rw[HE.out] | skip
  by_cases hjm:jj<md
  ·go_wp2_with (first | (refine (IH.out wl la jj md (HS.out.below HW.out) (by omega) (by omega) (by omega) (by omega)).mono ?_;rintro e w2 ⟨rfl,hb⟩;replace HW:=h_ (HW.out.trans (hb.mono HW.out.size));clear hb) | fail)
   exact bodyPost_end (results_none Tryz.results111 _ _ _) rfl ⟨rfl,HW.out⟩
  go_wp2_with fail
  exact bodyPost_end (results_none Tryz.results111 _ _ _) rfl ⟨rfl,HW.out⟩
theorem symm_p (ko:Option Addr) (kc:Nat) (xs:List X) (hn:xs.length<=1000000) (d:Nat):∀ (w:World) (la lm lb:Nat),Srt w ko xs->la<lm->lm<lb->lb<=xs.length->lb - la<d ->
  Calls Tryz.prog 111 #[.slice ko xs.length kc,.int .i64 (la:Nat),.int .i64 (lm:Nat),.int .i64 (lb:Nat),.func (.func 50) #[] #[]] w (fun e w'=>e=.returned (.tuple #[])/\Below w.heap.size w w'):=by
 induction d with
 | zero=>intro w la lm lb _ _ _ _ h;omega
 | succ d ih =>
  intro w la lm lb hS h1 h2 hab hd
  by_cases c1:lm=la+1
  ·exact symm1_p w ko kc xs hS la lm lb c1 h2 hab hn
  by_cases c2:lb=lm+1
  ·exact symm2_p w ko kc xs hS la lm lb (by omega) c2 hab hn
  by_cases c3:(la+lb) / 2<lm
  ·exact symm3_p w ko kc xs hS la lm lb d ih (by omega) (by omega) (by omega) c3 hab hn
  exact symm4_p w ko kc xs hS la lm lb d ih (by omega) (by omega) (by omega) (by omega) hab hn
theorem stable_p (w:World) (ko:Option Addr) (kc:Nat) (xs:List X) (hS:Srt w ko xs) (hn:xs.length<=1000000) :
  Calls Tryz.prog 84 #[.slice ko xs.length kc,.int .i64 (xs.length:Nat),.func (.func 50) #[] #[]] w fun e w'=>e=.returned (.tuple #[])/\Below w.heap.size w w':=by
 have HS:=h_ hS;have HW:=h_ (Below.refl w.heap.size w);clear hS;go_enter Tryz.func84,Tryz.ntmps84
 go_wp2_with fail
 go_loopw [7,8] (fun i j wr=>∃ (av:Nat),i=.int .i64 (av:Nat)/\j=.int .i64 ((av+20:Nat):Int)/\av<=xs.length/\Hid (Below w.heap.size w wr)) (fun i _ _=>xs.length - (intOf i).toNat)
 case atStart=>exact⟨0,rfl,rfl,Nat.zero_le _,HW⟩
 case round =>
  obtain⟨wl,hwl⟩:∃ q,q=wr:=⟨_,rfl⟩
  subst hwl;clear HW;obtain⟨av,rfl,rfl,hav,HW⟩:=hrel
  by_cases hlt:av+20<=xs.length
  ·go_wp2_with fail
   obtain⟨bv,hbv⟩:∃ bv,bv=av+20:=⟨_,rfl⟩
   have HBV:=h_ hbv
   first | rw[show ((av:Int)+20)=((bv:Nat):Int) by omega] | rw[<-hbv]
   have hbl:bv<=xs.length:=by omega
   have hab:av<bv:=by omega
   clear hbv
   (refine (insort_p wl ko kc xs (HS.out.below HW.out) av bv (by omega) (by omega) hn).mono ?_;rintro e w2 ⟨rfl,hb⟩;replace HW:=h_ (HW.out.trans (hb.mono HW.out.size));clear hb)
   go_wp2_with fail
   go_roundw
   case rel=>exact⟨av+20,by go_num,by go_num,hlt,HW⟩
   case measure=>simp[intOf];omega
  go_wp2_with fail
  (refine (insort_p wl ko kc xs (HS.out.below HW.out) av xs.length (by omega) (by omega) hn).mono ?_;rintro e w2 ⟨rfl,hb⟩;replace HW:=h_ (HW.out.trans (hb.mono HW.out.size));clear hb)
  go_wp2_with fail
  obtain⟨w0,hw0⟩:∃ q,q=w2:=⟨_,rfl⟩
  subst hw0
  go_loopw [6] (fun i wr=>∃ (bs:Nat),i=.int .i64 (bs:Nat)/\1<=bs/\bs<=2000000/\Hid (Below w.heap.size w wr)) (fun i _=>xs.length - (intOf i).toNat)
  case atStart=>exact⟨20,rfl,by decide,by decide,HW⟩
  case round =>
   obtain⟨wm,hwl⟩:∃ q,q=wr:=⟨_,rfl⟩
   subst hwl;clear HW;obtain⟨bs,rfl,hbs,hb2,HW⟩:=hrel
   by_cases hbl:bs<xs.length
   ·have h2:(2:Int)*(bs:Int)=((bs+bs:Nat):Int):=by omega
    go_wp2_with fail
    go_loopw [7,8] (fun i j wr=>∃ (av:Nat),i=.int .i64 (av:Nat)/\j=.int .i64 ((av+(bs+bs):Nat):Int)/\av<=xs.length/\Hid (Below w.heap.size w wr)) (fun i _ _=>xs.length - (intOf i).toNat)
    case atStart=>exact⟨0,rfl,by go_num,Nat.zero_le _,HW⟩
    case round =>
     obtain⟨wn,hwl⟩:∃ q,q=wr:=⟨_,rfl⟩
     subst hwl;clear HW;obtain⟨aw,rfl,rfl,haw,HW⟩:=hrel
     by_cases hlt:aw+(bs+bs)<=xs.length
     ·go_wp2_with fail
      obtain⟨lm,hlm⟩:∃ q:Nat,q=aw+bs:=⟨_,rfl⟩
      rw[show ((aw:Int)+(bs:Int))=((lm:Nat):Int) by omega];obtain⟨lz,hlz⟩:∃ q:Nat,q=aw+(bs+bs):=⟨_,rfl⟩
      rw[show ((aw:Int)+((bs:Int)+(bs:Int)))=((lz:Nat):Int) by omega];have h1:aw<lm:=by omega
      have h3:lm<lz:=by omega
      have h4:lz<=xs.length:=by omega
      clear hlm hlz
      (refine (symm_p ko kc xs hn (lz - (aw)+1) wn (aw) (lm) (lz) (HS.out.below HW.out) (by omega) (by omega) (by omega) (by omega)).mono ?_;rintro e w2 ⟨rfl,hb⟩;replace HW:=h_ (HW.out.trans (hb.mono HW.out.size));clear hb)
      go_wp2_with fail
      go_roundw
      case rel=>exact⟨aw+(bs+bs),by go_num,by go_num,hlt,HW⟩
      case measure=>simp[intOf];omega
     by_cases hmn:aw+bs<xs.length
     ·go_wp2_with fail
      obtain⟨lm,hlm⟩:∃ q:Nat,q=aw+bs:=⟨_,rfl⟩
      rw[show ((aw:Int)+(bs:Int))=((lm:Nat):Int) by omega];have h1:aw<lm:=by omega
      have h3:lm<xs.length:=by omega
      clear hlm
      (refine (symm_p ko kc xs hn (xs.length - (aw)+1) wn (aw) (lm) (xs.length) (HS.out.below HW.out) (by omega) (by omega) (by omega) (by omega)).mono ?_;rintro e w2 ⟨rfl,hb⟩;replace HW:=h_ (HW.out.trans (hb.mono HW.out.size));clear hb)
      go_wp2_with fail
      go_roundw
      case rel=>exact⟨bs+bs,by go_num,by omega,by omega,HW⟩
      case measure=>simp[intOf];omega
     go_wp2_with fail
     go_roundw
     case rel=>exact⟨bs+bs,by go_num,by omega,by omega,HW⟩
     case measure=>simp[intOf];omega
   go_wp2_with fail
   exact bodyPost_end (results_none Tryz.results84 _ _ _) rfl ⟨rfl,HW.out⟩
theorem sort_p (w:World) (ko:Option Addr) (kc:Nat) (xs:List X) (hS:Srt w ko xs) (hn:xs.length<=1000000) :
  Calls Tryz.prog 49 #[.slice ko xs.length kc,.func (.func 50) #[] #[]] w fun e w'=>e=.returned (.tuple #[])/\Below w.heap.size w w':=by
 have HS:=h_ hS;clear hS;go_enter Tryz.func49,Tryz.ntmps49
 go_wp2_with (first | (refine (stable_p _ ko kc xs HS.out hn).mono ?_;rintro e w2 ⟨rfl,hb⟩;have HW:=h_ hb;clear hb) | fail)
 exact bodyPost_end (results_none Tryz.results49 _ _ _) rfl ⟨rfl,HW.out⟩
end Go.Proofs.YtkocdbgmckdcpaaGreatDoor
namespace Go.Proofs.YtkocdbgmckdcpaaGreatDoor
open Go.RowKit Go.Shelf
set_option maxRecDepth 100000
set_option linter.unusedVariables false
set_option linter.unusedSimpArgs false
def asx (ys:List X):List X:=ys.filter (fun y=>y.k==28)
theorem asx_snoc_yes (ys:List X) (y:X) (h:y.k=28):asx (ys++[y])=asx ys++[y]:=by simp[asx,List.filter_append,h]
theorem asx_snoc_no (ys:List X) (y:X) (h:y.k≠28):asx (ys++[y])=asx ys:=by simp[asx,List.filter_append,h]
theorem asx_len (ys:List X):(asx ys).length<=ys.length:=List.length_filter_le _ _
abbrev zE:List Value:=[.int .i64 0,.string ⟨#[]⟩,.string ⟨#[]⟩,.bool false,.slice none 0 0,.slice none 0 0,.int .i64 0,.int .i64 0]
theorem row_set {w':World} {base g cap n:Nat} {e:TypeId} {cur:Array Value} {flat zs cs:List Value} (hb:base<=g) (hn:n+1<=cap) (hcm:cap<=maxLen) (hcs:cur.size=cap*8) (ht:cur.toList.take ((n+1)*8)=flat++zs) (hfl:flat.length=n*8) (hl:cs.length=8)
  (h:w'.heap[g]?=some (.cells (cur.toList.take (n*8)++(cs++cur.toList.drop (n*8+8))).toArray e (0,0))):w'.ownsRow base e 8 (.slice (some ⟨g,0,none⟩) (n+1) cap) (n+1) (flat++cs):=by
 have hcl:cur.toList.length=cap*8:=by simpa using hcs
 have h8:(n+1)*8<=cap*8:=Nat.mul_le_mul_right _ hn
 have hflat:cur.toList.take (n*8)=flat:=by
  have h:=congrArg (List.take (n*8)) ht;rw[List.take_take,Nat.min_eq_left (by omega),List.take_append_of_le_length (by rw[hfl];exact Nat.le_refl _)] at h;rw[h];exact List.take_of_length_le (by rw[hfl];exact Nat.le_refl _)
 refine⟨by rw[lsa,hfl,hl];omega,.inr ⟨g,cap,_,rfl,hb,h,hn,hcm,?_,?_⟩⟩
 ·rw[List.size_toArray,lsa,lsa,hflat,hfl,hl,List.length_drop,hcl];omega
 rw[hflat,<-List.append_assoc,List.take_append_of_le_length (by rw[lsa,hfl,hl];omega),List.take_of_length_le (by rw[lsa,hfl,hl];omega)]
theorem as_step {n0 k1 base:Nat} {W W1 W4 W6:World} {v:Value} {E T:TypeId} {n g cap:Nat} {cur:Array Value} {flat zs cs:List Value} (hk1:W.heap[k1]?=some (.cells #[v] T (0,0))) (hkb:k1<base) (hn0:n0<=k1) (hrow:W.ownsRow base E 8 v n flat) (hv:v=.slice none 0 0\/n≠0)
  (hb:Below W.heap.size W W1) (hg:W1.grownBy W4 v.ownBlock) (hf:v.ownBlock=some g\/W1.heap.size<=g) (hfine:Fine W1 W4 E 8 n 1) (hbg:base<=g) (hgb:W4.heap[g]?=some (.cells cur E (0,0))) (hn:n+1<=cap) (hcm:cap<=maxLen) (hcs:cur.size=cap*8) (ht:cur.toList.take ((n+1)*8)=flat++zs) (hl:cs.length=8)
  (h6:W6.heap[g]?=some (.cells (cur.toList.take (n*8)++(cs++cur.toList.drop (n*8+8))).toArray E (0,0))) (hos:W6.os=W4.os) (htp:W6.tape=W4.tape) (hou:W6.output=W4.output) (hsz:W4.heap.size<=W6.heap.size) (hoth:∀ k,k<W4.heap.size->k≠g->k≠k1->W6.heap[k]?=W4.heap[k]?) :
  K8 n0 W W6/\W6.ownsRow base E 8 (.slice (some ⟨g,0,none⟩) (n+1) cap) (n+1) (flat++cs)/\KeepsOthers W W6:=by
 have hs1:=hb.size;have hs4:=hg.size;have hk1l:=lt_of_block hk1;have hown:=hrow.lt;refine⟨⟨⟨?_,?_,?_,by omega,?_⟩,?_⟩,row_set hbg hn hcm hcs ht hrow.1 hl h6,⟨by omega,?_⟩⟩
 ·rw[hos,hg.os,hb.os]
 ·rw[htp,hg.tape,hb.tape]
 ·rw[hou,hg.output,hb.output]
 ·intro k hk
  by_cases hk2:k<W.heap.size
  ·rw[hoth k (by omega) (by omega) (by omega),hg.block k (by omega) (fun e=>by have:=hown k e.symm;omega),hb.block k hk2]
  omega
 ·intro k c T' hc h8;have hkl:=lt_of_block hc;have hkk:k≠k1:=fun e=>by subst e;rw[hk1] at hc;injection hc with hc;injection hc with hc;subst hc;simp at h8
  have hc1:W1.heap[k]?=some (.cells c T' (0,0)):=(hb.block k hkl).trans hc
  have h4:W4.heap[k]?=some (.cells c T' (0,0)):=by
   rcases hv with hv | hv
   ·exact (hg.block k (by omega) (fun e=>by rw[hv] at e;cases e)).trans hc1
   rcases hfine k (by omega) with h | ⟨cap2,cur2,h1,h2,h3⟩
   ·exact h.trans hc1
   rw[hc1] at h1;injection h1 with h1;injection h1 with h1;subst h1;omega
  have hkg:k≠g:=fun e=>by
   subst e;rw[hgb] at h4;injection h4 with h4;injection h4 with h4;subst h4;rcases hf with hf | hf
   ·rcases hv with hv | hv
    ·rw[hv] at hf;cases hf
    omega
   omega
  exact (hoth k (by omega) hkg hkk).trans h4
 intro k o hc ho;have hkl:=lt_of_block hc;have hkk:k≠k1:=fun e=>by subst e;rw[hk1] at hc;injection hc with hc;subst hc;cases ho
 have hko:some k≠v.ownBlock:=fun e=>by
  rcases hrow.2 with ⟨rfl,_⟩ | ⟨g',cap',cur',rfl,_,hg',_⟩
  ·cases e
  injection e with e;subst e;rw[hg'] at hc;injection hc with hc;subst hc;cases ho
 have hkg:k≠g:=fun e=>by
  subst e;rcases hf with hf | hf
  ·exact hko hf.symm
  omega
 rw[hoth k (by omega) hkg hkk,hg.block k (by omega) hko,hb.block k hkl];exact hc
end Go.Proofs.YtkocdbgmckdcpaaGreatDoor
namespace Go.Proofs.YtkocdbgmckdcpaaGreatDoor
open Go.RowKit
set_option maxRecDepth 100000
set_option linter.unusedVariables false
theorem below_put {w0 w w':World} {g:Nat} (h:Below w0.heap.size w0 w) (hg:w.grownBy w' (some g)) (hB:w0.heap.size<=g):Below w0.heap.size w0 w':=⟨hg.os.trans h.os,hg.tape.trans h.tape,hg.output.trans h.output,Nat.le_trans h.size hg.size,fun q hq=>by
 rw[hg.block q (Nat.lt_of_lt_of_le hq h.size) (fun e=>by injection e with e;omega)];exact h.block q hq⟩
theorem typed_p (nm:Bs) (t:Tok) (b:Nat) (w:World) (hn:nm=t.text) :
  Calls Tryz.prog 101 #[tokV t,.int .i64 (b:Nat)] w fun e w'=>e=.returned (pmV (typ nm t b) xZ)/\Below w.heap.size w w':=by
 subst hn;unfold tokV pmV xZ typ;have HW:=h_ (Below.refl w.heap.size w);go_enter Tryz.func101,Tryz.ntmps101
 go_upto_region 1 with fail
 obtain⟨w1,kt,hw,hkk,hb,hs1,HBt⟩:=newb w #[.int .i64 (t.kind:Nat),.string ⟨t.text.toArray⟩,.int .i64 (t.line:Nat),.int .i64 (t.col:Nat)] 97;have het:w.heap.size<=kt:=by omega
 rw[hw,<-hkk,<-hs1];replace HW:=h_ (HW.out.trans (hb.mono HW.out.size));have HD:=h_ (below_grown hb (some 0));have hsz1:=HD.out.size;clear hw hb hkk hs1;obtain⟨w2,kr,hw,hkk,hb,hs1,HBr⟩:=newb w1 #[.string ⟨#[]⟩,.int .i64 0,.bool false,.int .i64 0,.string ⟨#[]⟩,.string ⟨#[]⟩,.bool false,.slice none 0 0,.slice none 0 0,.int .i64 0,.int .i64 0,.int .i64 0,.int .i64 0] 48;have her:w.heap.size<=kr:=by omega
 have ht_r:=lk_ hkk HBt;rw[hw,<-hkk];replace HBt:=kB hb HBt;replace HW:=h_ (HW.out.trans (hb.mono HW.out.size));replace HD:=dB HD hb;have hsz2:=HD.out.size;clear hw hb hkk hs1;obtain⟨c0,c1,c2,c3⟩:=cl4 HBt.out;obtain⟨z0,z1,z2,z3,z4,z5,z6,z7,z8,z9,z10,z11,z12⟩:=cl13 HBr.out;obtain⟨fz0,fz1,fz2,fz3,fz4,fz5,fz6,fz7,fz8,fz9,fz10,fz11,fz12⟩:=fr13 HBr.out;go_wp2_with fail
 refine bodyPost_ret (v:=.agg #[.string ⟨t.text.toArray⟩,.int .i64 (b:Nat),.bool false,.int .i64 0,.string ⟨#[]⟩,.string ⟨#[]⟩,.bool false,.slice none 0 0,.slice none 0 0,.int .i64 0,.int .i64 0,.int .i64 (t.line:Nat),.int .i64 (t.col:Nat)]) (by simp[results,Tryz.results101,go_sem,z0,z1,z2,z3,z4,z5,z6,z7,z8,z9,z10,z11,z12]) rfl ⟨rfl,?_⟩;obtain⟨wz,hw⟩:∃ x,x=w2.setCells kr 0 [.string ⟨t.text.toArray⟩,.int .i64 (b:Nat),.bool false,.int .i64 0,.string ⟨#[]⟩,.string ⟨#[]⟩,.bool false,.slice none 0 0,.slice none 0 0,.int .i64 0,.int .i64 0,.int .i64 (t.line:Nat),.int .i64 (t.col:Nat)]:=⟨_,rfl⟩
 have hg:w2.grownBy wz (some kr):=by rw[hw];exact setCells_grown _ _ _ _
 rw[show ((((((((((((w2.setCell ⟨kr,0,none⟩ (.string ⟨t.text.toArray⟩)).setCell ⟨kr,1,none⟩ (.int .i64 (b:Nat))).setCell ⟨kr,2,none⟩ (.bool false)).setCell ⟨kr,3,none⟩ (.int .i64 0)).setCell ⟨kr,4,none⟩ (.string ⟨#[]⟩)).setCell ⟨kr,5,none⟩ (.string ⟨#[]⟩)).setCell ⟨kr,6,none⟩ (.bool false)).setCell ⟨kr,7,none⟩ (.slice none 0 0)).setCell ⟨kr,8,none⟩ (.slice none 0 0)).setCell ⟨kr,9,none⟩ (.int .i64 0)).setCell ⟨kr,10,none⟩ (.int .i64 0)).setCell ⟨kr,11,none⟩ (.int .i64 (t.line:Nat))).setCell ⟨kr,12,none⟩ (.int .i64 (t.col:Nat))=wz from hw.symm];exact below_put HW.out hg her
theorem base_p (g:Nat) (s:St) (w:World) (hps:PS w g s) :
  Calls Tryz.prog 102 #[.pointer (some ⟨g,0,none⟩)] w fun e w'=>e=.returned (.int .i64 ((cBase s).1:Nat))/\Did w g (cBase s).2 w':=by
 have HP:=h_ hps;clear hps
 by_cases h0:s.nx.text=[105,110,116]
 ·have H0:=h_ h0;have HC:Hid (cBase s=(0,s.tk)):=h_ (by unfold cBase St.is;rw[h0];rfl);clear h0;go_enter Tryz.func102,Tryz.ntmps102
  go_upto_region 1 with fail
  go_wp2_with fail
  refine (take_p g s w HP.out).mono ?_;rintro e w1 ⟨rfl,hp,hg⟩;replace HP:=h_ hp;have HD:=h_ (hg);have hsz1:=HD.out.size;clear hp hg;simp only[tokV];obtain⟨t,hnx⟩:∃ t,t=St.nx s:=⟨_,rfl⟩
  rw[<-hnx];have HNt:=h_ hnx;clear hnx;go_upto_region 2 with fail
  obtain⟨w2,kt,hw,hkk,hb,hs1,HBt⟩:=newb w1 #[.int .i64 (t.kind:Nat),.string ⟨t.text.toArray⟩,.int .i64 (t.line:Nat),.int .i64 (t.col:Nat)] 97;have hgt:g<kt:=by rw[hkk];exact HP.out.lt
  have het:w.heap.size<=kt:=by omega
  rw[hw,<-hkk];replace HP:=h_ (HP.out.below hb);replace HD:=dB HD hb;have hsz2:=HD.out.size;clear hw hb hkk hs1;obtain⟨c0,c1,c2,c3⟩:=cl4 HBt.out;have q:t.text=[105,110,116]:=by rw[HNt.out];exact H0.out
  have q0:(t.text==[105,110,116])=true:=by rw[q];rfl
  clear q;go_wp2_with fail
  go_ret
  exact⟨by rw[HC.out];rfl,by rw[HC.out];exact⟨HP.out,HD.out⟩⟩
 by_cases h1:s.nx.text=[98,111,111,108]
 ·have H1:=h_ h1;have HC:Hid (cBase s=(1,s.tk)):=h_ (by unfold cBase St.is;rw[h1];rfl);clear h1 h0;go_enter Tryz.func102,Tryz.ntmps102
  go_upto_region 1 with fail
  go_wp2_with fail
  refine (take_p g s w HP.out).mono ?_;rintro e w1 ⟨rfl,hp,hg⟩;replace HP:=h_ hp;have HD:=h_ (hg);have hsz1:=HD.out.size;clear hp hg;simp only[tokV];obtain⟨t,hnx⟩:∃ t,t=St.nx s:=⟨_,rfl⟩
  rw[<-hnx];have HNt:=h_ hnx;clear hnx;go_upto_region 2 with fail
  obtain⟨w2,kt,hw,hkk,hb,hs1,HBt⟩:=newb w1 #[.int .i64 (t.kind:Nat),.string ⟨t.text.toArray⟩,.int .i64 (t.line:Nat),.int .i64 (t.col:Nat)] 97;have hgt:g<kt:=by rw[hkk];exact HP.out.lt
  have het:w.heap.size<=kt:=by omega
  rw[hw,<-hkk];replace HP:=h_ (HP.out.below hb);replace HD:=dB HD hb;have hsz2:=HD.out.size;clear hw hb hkk hs1;obtain⟨c0,c1,c2,c3⟩:=cl4 HBt.out;have q:t.text=[98,111,111,108]:=by rw[HNt.out];exact H1.out
  have q0:(t.text==[105,110,116])=false:=by rw[q];rfl
  have q1:(t.text==[98,111,111,108])=true:=by rw[q];rfl
  clear q;go_wp2_with fail
  go_ret
  exact⟨by rw[HC.out];rfl,by rw[HC.out];exact⟨HP.out,HD.out⟩⟩
 by_cases h2:s.nx.text=[108,105,115,116]
 ·have H2:=h_ h2;have HC:Hid (cBase s=(2,s.tk)):=h_ (by unfold cBase St.is;rw[h2];rfl);clear h2 h0 h1;go_enter Tryz.func102,Tryz.ntmps102
  go_upto_region 1 with fail
  go_wp2_with fail
  refine (take_p g s w HP.out).mono ?_;rintro e w1 ⟨rfl,hp,hg⟩;replace HP:=h_ hp;have HD:=h_ (hg);have hsz1:=HD.out.size;clear hp hg;simp only[tokV];obtain⟨t,hnx⟩:∃ t,t=St.nx s:=⟨_,rfl⟩
  rw[<-hnx];have HNt:=h_ hnx;clear hnx;go_upto_region 2 with fail
  obtain⟨w2,kt,hw,hkk,hb,hs1,HBt⟩:=newb w1 #[.int .i64 (t.kind:Nat),.string ⟨t.text.toArray⟩,.int .i64 (t.line:Nat),.int .i64 (t.col:Nat)] 97;have hgt:g<kt:=by rw[hkk];exact HP.out.lt
  have het:w.heap.size<=kt:=by omega
  rw[hw,<-hkk];replace HP:=h_ (HP.out.below hb);replace HD:=dB HD hb;have hsz2:=HD.out.size;clear hw hb hkk hs1;obtain⟨c0,c1,c2,c3⟩:=cl4 HBt.out;have q:t.text=[108,105,115,116]:=by rw[HNt.out];exact H2.out
  have q0:(t.text==[105,110,116])=false:=by rw[q];rfl
  have q1:(t.text==[98,111,111,108])=false:=by rw[q];rfl
  have q2:(t.text==[108,105,115,116])=true:=by rw[q];rfl
  clear q;go_wp2_with fail
  go_ret
  exact⟨by rw[HC.out];rfl,by rw[HC.out];exact⟨HP.out,HD.out⟩⟩
 have HC:Hid (cBase s=(0,s.tk.fail s.nx 1)):=h_ (by unfold cBase St.is;rw[if_neg (by simpa using h0),if_neg (by simpa using h1),if_neg (by simpa using h2)]);have H0:Hid ((s.nx.text==[105,110,116])=false):=h_ (by simpa using h0);have H1:Hid ((s.nx.text==[98,111,111,108])=false):=h_ (by simpa using h1);have H2:Hid ((s.nx.text==[108,105,115,116])=false):=h_ (by simpa using h2);clear h0 h1 h2;go_enter Tryz.func102,Tryz.ntmps102
 go_upto_region 1 with fail
 go_wp2_with fail
 refine (take_p g s w HP.out).mono ?_;rintro e w1 ⟨rfl,hp,hg⟩;replace HP:=h_ hp;have HD:=h_ (hg);have hsz1:=HD.out.size;clear hp hg;simp only[tokV];obtain⟨t,hnx⟩:∃ t,t=St.nx s:=⟨_,rfl⟩
 rw[<-hnx];have HNt:=h_ hnx;clear hnx;go_upto_region 2 with fail
 obtain⟨w2,kt,hw,hkk,hb,hs1,HBt⟩:=newb w1 #[.int .i64 (t.kind:Nat),.string ⟨t.text.toArray⟩,.int .i64 (t.line:Nat),.int .i64 (t.col:Nat)] 97;have hgt:g<kt:=by rw[hkk];exact HP.out.lt
 have het:w.heap.size<=kt:=by omega
 rw[hw,<-hkk];replace HP:=h_ (HP.out.below hb);replace HD:=dB HD hb;clear hw hb hkk hs1;obtain⟨c0,c1,c2,c3⟩:=cl4 HBt.out;have q0:(t.text==[105,110,116])=false:=by rw[HNt.out];exact H0.out
 have q1:(t.text==[98,111,111,108])=false:=by rw[HNt.out];exact H1.out
 have q2:(t.text==[108,105,115,116])=false:=by rw[HNt.out];exact H2.out
 go_wp2_with fail
 refine (fail_p g s.tk t 1 w2 HP.out).mono ?_;rintro e w3 ⟨⟨v,rfl⟩,hp,hg⟩;clear c0 c1 c2 c3;replace HBt:=kG hg HBt;replace HP:=h_ hp;replace HD:=dG HD (hg);have hsz3:=HD.out.size;clear hp hg;go_wp2_with fail
 go_ret
 rw[HNt.out] at HP;exact⟨by rw[HC.out];rfl,by rw[HC.out];exact⟨HP.out,HD.out⟩⟩
theorem counted_p (g count limit:Nat) (s:St) (w:World) (hps:PS w g s) (h1:count<=1000000) (h2:limit<=1000000) :
  Calls Tryz.prog 63 #[.pointer (some ⟨g,0,none⟩),.int .i64 (count:Nat),.int .i64 (limit:Nat)] w fun e w'=>e=.returned (tokV s.nx)/\Did w g (s.counted count limit) w':=by
 have HP:=h_ hps;clear hps;go_enter Tryz.func63,Tryz.ntmps63
 go_upto_region 1 with fail
 obtain⟨w1,kr,hw,hkk,hb,hs1,HBr⟩:=newb w #[.int .i64 0,.string ⟨#[]⟩,.int .i64 0,.int .i64 0] 97;have hgr:g<kr:=by rw[hkk];exact HP.out.lt
 have her:w.heap.size<=kr:=by omega
 rw[hw,<-hkk];replace HP:=h_ (HP.out.below hb);have HD:=h_ (below_grown hb (some g));clear hw hb hkk hs1;go_wp2_with fail
 refine (name_p g s w1 HP.out).mono ?_;rintro e w2 ⟨rfl,hp,hg⟩;replace HBr:=kG hg HBr;replace HP:=h_ hp;replace HD:=dG HD (hg);have hsz2:=HD.out.size;clear hp hg;simp only[tokV];obtain⟨t,hnx⟩:∃ t,t=St.nx s:=⟨_,rfl⟩
 rw[<-hnx];have HNt:=h_ hnx;clear hnx;go_upto_region 2 with fail
 obtain⟨w3,kt,hw,hkk,hb,hs1,HBt⟩:=newb w2 #[.int .i64 (t.kind:Nat),.string ⟨t.text.toArray⟩,.int .i64 (t.line:Nat),.int .i64 (t.col:Nat)] 97;have hgt:g<kt:=by rw[hkk];exact HP.out.lt
 have het:w.heap.size<=kt:=by omega
 have hr_t:=lk_ hkk HBr;rw[hw,<-hkk];replace HBr:=kB hb HBr;replace HP:=h_ (HP.out.below hb);replace HD:=dB HD hb;have hsz3:=HD.out.size;clear hw hb hkk hs1
 by_cases hc:limit<=count
 ·have HX:Hid (s.counted count limit=s.name.fail t 2):=h_ (by unfold St.counted;rw[if_pos hc,HNt.out]);have hc2:((limit:Nat):Int)<=(count:Nat):=by omega
  clear hc;obtain⟨c0,c1,c2,c3⟩:=cl4 HBt.out;go_wp2_with fail
  refine (fail_p g s.name t 2 w3 HP.out).mono ?_;rintro e w4 ⟨⟨v,rfl⟩,hp,hg⟩;clear c0 c1 c2 c3;replace HBr:=kG hg HBr;replace HBt:=kG hg HBt;replace HP:=h_ hp;replace HD:=dG HD (hg);clear hp hg;obtain⟨c0,c1,c2,c3⟩:=cl4 HBt.out;obtain⟨z0,z1,z2,z3⟩:=cl4 HBr.out;obtain⟨fz0,fz1,fz2,fz3⟩:=fr4 HBr.out;go_wp2_with fail
  refine bodyPost_ret (v:=.agg #[.int .i64 (t.kind:Nat),.string ⟨t.text.toArray⟩,.int .i64 (t.line:Nat),.int .i64 (t.col:Nat)]) (by simp[results,Tryz.results63,go_sem,z0,z1,z2,z3]) rfl ?_;obtain⟨wz,hw⟩:∃ x,x=w4.setCells kr 0 [.int .i64 (t.kind:Nat),.string ⟨t.text.toArray⟩,.int .i64 (t.line:Nat),.int .i64 (t.col:Nat)]:=⟨_,rfl⟩
  have hg:w4.grownBy wz (some kr):=by rw[hw];exact setCells_grown _ _ _ _
  rw[show (((w4.setCell ⟨kr,0,none⟩ (.int .i64 (t.kind:Nat))).setCell ⟨kr,1,none⟩ (.string ⟨t.text.toArray⟩)).setCell ⟨kr,2,none⟩ (.int .i64 (t.line:Nat))).setCell ⟨kr,3,none⟩ (.int .i64 (t.col:Nat))=wz from hw.symm];clear c0 c1 c2 c3 z0 fz0 z1 fz1 z2 fz2 z3 fz3;replace HP:=h_ (HP.out.store HBr.out (by decide) (by omega) hg);replace HBt:=kG hg HBt;replace HD:=dN HD hg (by omega);have hsz5:=HD.out.size;clear hw hg;exact⟨by rw[<-HNt.out];rfl,by rw[HX.out];exact⟨HP.out,HD.out⟩⟩
 have HX:Hid (s.counted count limit=s.name):=h_ (by unfold St.counted;rw[if_neg hc]);have hc2:¬ ((limit:Nat):Int)<=(count:Nat):=by omega
 clear hc;obtain⟨c0,c1,c2,c3⟩:=cl4 HBt.out;obtain⟨z0,z1,z2,z3⟩:=cl4 HBr.out;obtain⟨fz0,fz1,fz2,fz3⟩:=fr4 HBr.out;go_wp2_with fail
 refine bodyPost_ret (v:=.agg #[.int .i64 (t.kind:Nat),.string ⟨t.text.toArray⟩,.int .i64 (t.line:Nat),.int .i64 (t.col:Nat)]) (by simp[results,Tryz.results63,go_sem,z0,z1,z2,z3]) rfl ?_;obtain⟨wz,hw⟩:∃ x,x=w3.setCells kr 0 [.int .i64 (t.kind:Nat),.string ⟨t.text.toArray⟩,.int .i64 (t.line:Nat),.int .i64 (t.col:Nat)]:=⟨_,rfl⟩
 have hg:w3.grownBy wz (some kr):=by rw[hw];exact setCells_grown _ _ _ _
 rw[show (((w3.setCell ⟨kr,0,none⟩ (.int .i64 (t.kind:Nat))).setCell ⟨kr,1,none⟩ (.string ⟨t.text.toArray⟩)).setCell ⟨kr,2,none⟩ (.int .i64 (t.line:Nat))).setCell ⟨kr,3,none⟩ (.int .i64 (t.col:Nat))=wz from hw.symm];clear c0 c1 c2 c3 z0 fz0 z1 fz1 z2 fz2 z3 fz3;replace HP:=h_ (HP.out.store HBr.out (by decide) (by omega) hg);replace HBt:=kG hg HBt;replace HD:=dN HD hg (by omega);have hsz4:=HD.out.size;clear hw hg;exact⟨by rw[<-HNt.out];rfl,by rw[HX.out];exact⟨HP.out,HD.out⟩⟩
theorem variable_p (g:Nat) (s:St) (w:World) (hps:PS w g s) :
  Calls Tryz.prog 65 #[.pointer (some ⟨g,0,none⟩)] w fun e w'=>e=.returned (pmV (cVar s).1 xZ)/\Did w g (cVar s).2 w':=by
 have HP:=h_ hps;clear hps;go_enter Tryz.func65,Tryz.ntmps65
 go_upto_region 1 with fail
 obtain⟨w1,kr,hw,hkk,hb,hs1,HBr⟩:=newb w #[.string ⟨#[]⟩,.int .i64 0,.bool false,.int .i64 0,.string ⟨#[]⟩,.string ⟨#[]⟩,.bool false,.slice none 0 0,.slice none 0 0,.int .i64 0,.int .i64 0,.int .i64 0,.int .i64 0] 48;have hgr:g<kr:=by rw[hkk];exact HP.out.lt
 have her:w.heap.size<=kr:=by omega
 rw[hw,<-hkk];replace HP:=h_ (HP.out.below hb);have HD:=h_ (below_grown hb (some g));clear hw hb hkk hs1;go_wp2_with fail
 refine (next_p g s w1 HP.out).mono ?_;rintro e w2 ⟨rfl,hb⟩;replace HBr:=kB hb HBr;replace HP:=h_ (HP.out.below hb);replace HD:=dB HD hb;have hsz2:=HD.out.size;clear hb;simp only[tokV];obtain⟨t,hnx⟩:∃ t,t=St.nx s:=⟨_,rfl⟩
 rw[<-hnx];have HNt:=h_ hnx;clear hnx;go_upto_region 2 with fail
 obtain⟨w3,kt,hw,hkk,hb,hs1,HBt⟩:=newb w2 #[.int .i64 (t.kind:Nat),.string ⟨t.text.toArray⟩,.int .i64 (t.line:Nat),.int .i64 (t.col:Nat)] 97;have hgt:g<kt:=by rw[hkk];exact HP.out.lt
 have het:w.heap.size<=kt:=by omega
 have hr_t:=lk_ hkk HBr;rw[hw,<-hkk];replace HBr:=kB hb HBr;replace HP:=h_ (HP.out.below hb);replace HD:=dB HD hb;have hsz3:=HD.out.size;clear hw hb hkk hs1;go_wp2_with fail
 obtain⟨w4,kq1,hw,hkk,hb,hs1,HBq1⟩:=newb w3 #[.string ⟨#[118]⟩,.string ⟨#[58]⟩] 9;have hgq1:g<kq1:=by rw[hkk];exact HP.out.lt
 have heq1:w.heap.size<=kq1:=by omega
 have hr_q1:=lk_ hkk HBr;have ht_q1:=lk_ hkk HBt;rw[hw,<-hkk];replace HBr:=kB hb HBr;replace HBt:=kB hb HBt;replace HP:=h_ (HP.out.below hb);replace HD:=dB HD hb;have hsz4:=HD.out.size;clear hw hb hkk hs1;refine (expect_p g s [[118],[58]] kq1 w4 HP.out HBq1.out (by omega) (by decide)).mono ?_;rintro e w5 ⟨⟨v,rfl⟩,hp,hg⟩;replace HBr:=kG hg HBr;replace HBt:=kG hg HBt;replace HBq1:=kG hg HBq1;replace HP:=h_ hp;replace HD:=dG HD (hg);have hsz5:=HD.out.size;clear hp hg;obtain⟨bb,hbb⟩:∃ b,b=(cBase ((s.exp [118]).exp [58])).1:=⟨_,rfl⟩
 obtain⟨sb,hsb⟩:∃ x,x=(cBase ((s.exp [118]).exp [58])).2:=⟨_,rfl⟩
 have HBB:=h_ hbb;have HSB:=h_ hsb;clear hbb hsb;go_upto_region 3 with fail
 have hlt_t:=lt_of_block HBt.out;have hog:∀ q,q<1->(fun q=>g) q<w5.heap.size:=fun q _=>by show g<_;exact HP.out.lt
 refine R7.region (by kernel_rfl) [[],[],[1],[0,1,2],[0,1,2,3]] [] [(2,1000)] (fun q=>g) 1 3 (by kernel_rfl) (by kernel_rfl) (by rfl) hog (fun q q' h h' hn=>absurd hn (by omega)) ?_;refine R7.cd ?_ (fun T xs wr hA=>?_) ?_
 rotate_left
 ·have e3:=hA.pq 3;simp only[gsa,gsc,gsz] at e3;have hBq:wr.heap[kt]?=_:=(hA.bl _ hlt_t (fun q _=>by show g≠kt;omega)).trans HBt.out;obtain⟨q0,q1,q2,q3⟩:=cl4 hBq;clear hBq;clear hA;go_simp<;>(try with_reducible rfl)
 refine R7.cd ?_ (fun T xs wr hA=>?_) ?_
 rotate_left
 ·have e0:=hA.pq 0;simp only[gsa,gsz] at e0;clear hA;go_simp<;>(try with_reducible rfl)
 refine R7.Chain.callOld 0 (fun xs v w=>v=.int .i64 (bb:Nat)/\PS w g sb) (fun _ _ _ _ ⟨h1,h2⟩ hb=>⟨h1,h2.below hb⟩) (fun _ _ _ _ q' _ hq hne _=>absurd rfl hne) (by rfl) (by rfl) (by decide) (R7.own_one (by rfl)) (fun T xs wr hA hold=>?_) ?_
 ·have hsw:=(hA.be 0 (Nat.zero_le _) (fun _ _=>Nat.zero_le _)).size;have e10:=tr_ (hA.tq 1 10) (hA.fq 1)
  (try simp (disch:=decide) only [R7.mi] at e10)
  have h0:=undrew (hA.be 0 (Nat.zero_le _) (fun _ _=>Nat.zero_le _))
  have hbw:Below w5.heap.size w5 wr:=⟨h0.os,h0.tape,h0.output,h0.size,fun k hk=>by
   by_cases e:k=g
   ·rw[e];exact hold
   exact hA.bl k hk (fun q _ h=>e h.symm)⟩
  clear hA;refine⟨(by rfl),fun K hK=>?_⟩;go_simp
  refine (base_p g ((s.exp [118]).exp [58]) wr (HP.out.below hbw)).mono ?_;rintro e w' ⟨rfl,hp,hg⟩;exact hK.out _ _ ⟨by rw[HBB.out],by rw[HSB.out];exact hp⟩ (R7.Priv.of hg)
 refine R7.Chain.done (fun xs w6 hL=>?_);obtain⟨⟨hbe,hbl⟩,hf,-,-⟩:=hL;have f0:xs 0=_:=hf 0 (by decide);have f1:xs 1=_:=hf 1 (by decide);have F2:(xs 2)=.int .i64 (bb:Nat)/\PS w6 g sb:=hf 2 (by decide)
 (try simp (disch:=decide) only [R7.mi] at f0 f1)
 have hb0:Below 0 w5 w6:=undrew (hbe 0 (Nat.zero_le _) (fun _ _=>Nat.zero_le _));have hgr:∀ j,j<w5.heap.size->(∀ q,q<1->(fun q=>g) q≠j)->w6.heap[j]?=w5.heap[j]?:=hbl;clear hbe hbl hf;obtain⟨hv,hp⟩:=F2;have hg:w5.grownBy w6 (some g):=⟨hb0.os,hb0.tape,hb0.output,hb0.size,fun k hk hn=>hgr k hk (fun q _ e=>hn (by rw[<-e]))⟩
 refine R7.rest_list (by decide) (by kernel_rfl) ?_;simp only[R7.fill,t1_,t2_,t3_,t4_,t5_,t6_,t7_,f0,f1];simp only[hv];clear hlt_t hog hv f0 f1;replace HBr:=kG hg HBr;replace HBt:=kG hg HBt;replace HP:=h_ hp;replace HD:=dG HD (hg);clear hp hg hb0 hgr;go_wp2_with fail
 refine (typed_p t.text t bb w6 rfl).mono ?_;rintro e w7 ⟨rfl,hb⟩;replace HBr:=kB hb HBr;replace HBt:=kB hb HBt;replace HP:=h_ (HP.out.below hb);replace HD:=dB HD hb;clear hb;simp only[pmV,typ,xZ];obtain⟨z0,z1,z2,z3,z4,z5,z6,z7,z8,z9,z10,z11,z12⟩:=cl13 HBr.out;obtain⟨fz0,fz1,fz2,fz3,fz4,fz5,fz6,fz7,fz8,fz9,fz10,fz11,fz12⟩:=fr13 HBr.out;go_wp2_with fail
 refine bodyPost_ret (v:=.agg #[.string ⟨t.text.toArray⟩,.int .i64 (bb:Nat),.bool false,.int .i64 0,.string ⟨#[]⟩,.string ⟨#[]⟩,.bool false,.slice none 0 0,.slice none 0 0,.int .i64 0,.int .i64 0,.int .i64 (t.line:Nat),.int .i64 (t.col:Nat)]) (by simp[results,Tryz.results65,go_sem,z0,z1,z2,z3,z4,z5,z6,z7,z8,z9,z10,z11,z12]) rfl ?_;obtain⟨wz,hw⟩:∃ x,x=w7.setCells kr 0 [.string ⟨t.text.toArray⟩,.int .i64 (bb:Nat),.bool false,.int .i64 0,.string ⟨#[]⟩,.string ⟨#[]⟩,.bool false,.slice none 0 0,.slice none 0 0,.int .i64 0,.int .i64 0,.int .i64 (t.line:Nat),.int .i64 (t.col:Nat)]:=⟨_,rfl⟩
 have hg:w7.grownBy wz (some kr):=by rw[hw];exact setCells_grown _ _ _ _
 rw[show ((((((((((((w7.setCell ⟨kr,0,none⟩ (.string ⟨t.text.toArray⟩)).setCell ⟨kr,1,none⟩ (.int .i64 (bb:Nat))).setCell ⟨kr,2,none⟩ (.bool false)).setCell ⟨kr,3,none⟩ (.int .i64 0)).setCell ⟨kr,4,none⟩ (.string ⟨#[]⟩)).setCell ⟨kr,5,none⟩ (.string ⟨#[]⟩)).setCell ⟨kr,6,none⟩ (.bool false)).setCell ⟨kr,7,none⟩ (.slice none 0 0)).setCell ⟨kr,8,none⟩ (.slice none 0 0)).setCell ⟨kr,9,none⟩ (.int .i64 0)).setCell ⟨kr,10,none⟩ (.int .i64 0)).setCell ⟨kr,11,none⟩ (.int .i64 (t.line:Nat))).setCell ⟨kr,12,none⟩ (.int .i64 (t.col:Nat))=wz from hw.symm];clear z0 fz0 z1 fz1 z2 fz2 z3 fz3 z4 fz4 z5 fz5 z6 fz6 z7 fz7 z8 fz8 z9 fz9 z10 fz10 z11 fz11 z12 fz12;replace HP:=h_ (HP.out.store HBr.out (by decide) (by omega) hg);replace HBt:=kG hg HBt;replace HD:=dN HD hg (by omega);have hsz8:=HD.out.size;clear hw hg
 exact⟨by unfold cVar;simp only[pmV,typ,xZ];rw[show (cBase ((s.exp wV).exp wColon)).1=bb from HBB.out.symm,<-HNt.out],by unfold cVar;rw[show (cBase ((s.exp wV).exp wColon)).2=sb from HSB.out.symm];exact⟨HP.out,HD.out⟩⟩
theorem param_p (g count:Nat) (s:St) (w:World) (hps:PS w g s) (hc:count<=1000000) :
  Calls Tryz.prog 66 #[.pointer (some ⟨g,0,none⟩),.int .i64 (count:Nat)] w fun e w'=>e=.returned (pmV (cParam count s).1 xZ)/\Did w g (cParam count s).2 w':=by
 have HP:=h_ hps;clear hps;go_enter Tryz.func66,Tryz.ntmps66
 go_upto_region 1 with fail
 obtain⟨w1,kr,hw,hkk,hb,hs1,HBr⟩:=newb w #[.string ⟨#[]⟩,.int .i64 0,.bool false,.int .i64 0,.string ⟨#[]⟩,.string ⟨#[]⟩,.bool false,.slice none 0 0,.slice none 0 0,.int .i64 0,.int .i64 0,.int .i64 0,.int .i64 0] 48;have hgr:g<kr:=by rw[hkk];exact HP.out.lt
 have her:w.heap.size<=kr:=by omega
 rw[hw,<-hkk];replace HP:=h_ (HP.out.below hb);have HD:=h_ (below_grown hb (some g));clear hw hb hkk hs1;go_wp2_with fail
 refine (counted_p g count 6 s w1 HP.out hc (by decide)).mono ?_;rintro e w2 ⟨rfl,hp,hg⟩;replace HBr:=kG hg HBr;replace HP:=h_ hp;replace HD:=dG HD (hg);have hsz2:=HD.out.size;clear hp hg;simp only[tokV];obtain⟨t,hnx⟩:∃ t,t=St.nx s:=⟨_,rfl⟩
 rw[<-hnx];have HNt:=h_ hnx;clear hnx;go_upto_region 2 with fail
 obtain⟨w3,kt,hw,hkk,hb,hs1,HBt⟩:=newb w2 #[.int .i64 (t.kind:Nat),.string ⟨t.text.toArray⟩,.int .i64 (t.line:Nat),.int .i64 (t.col:Nat)] 97;have hgt:g<kt:=by rw[hkk];exact HP.out.lt
 have het:w.heap.size<=kt:=by omega
 have hr_t:=lk_ hkk HBr;rw[hw,<-hkk];replace HBr:=kB hb HBr;replace HP:=h_ (HP.out.below hb);replace HD:=dB HD hb;have hsz3:=HD.out.size;clear hw hb hkk hs1;go_wp2_with fail
 obtain⟨w4,kq1,hw,hkk,hb,hs1,HBq1⟩:=newb w3 #[.string ⟨#[58]⟩] 9;have hgq1:g<kq1:=by rw[hkk];exact HP.out.lt
 have heq1:w.heap.size<=kq1:=by omega
 have hr_q1:=lk_ hkk HBr;have ht_q1:=lk_ hkk HBt;rw[hw,<-hkk];replace HBr:=kB hb HBr;replace HBt:=kB hb HBt;replace HP:=h_ (HP.out.below hb);replace HD:=dB HD hb;have hsz4:=HD.out.size;clear hw hb hkk hs1;refine (expect_p g (s.counted count 6) [[58]] kq1 w4 HP.out HBq1.out (by omega) (by decide)).mono ?_;rintro e w5 ⟨⟨v,rfl⟩,hp,hg⟩;replace HBr:=kG hg HBr;replace HBt:=kG hg HBt;replace HBq1:=kG hg HBq1;replace HP:=h_ hp;replace HD:=dG HD (hg);have hsz5:=HD.out.size;clear hp hg;obtain⟨bb,hbb⟩:∃ b,b=(cBase ((s.counted count 6).exp [58])).1:=⟨_,rfl⟩
 obtain⟨sb,hsb⟩:∃ x,x=(cBase ((s.counted count 6).exp [58])).2:=⟨_,rfl⟩
 have HBB:=h_ hbb;have HSB:=h_ hsb;clear hbb hsb;go_upto_region 3 with fail
 have hlt_t:=lt_of_block HBt.out;have hog:∀ q,q<1->(fun q=>g) q<w5.heap.size:=fun q _=>by show g<_;exact HP.out.lt
 refine R7.region (by kernel_rfl) [[],[],[1],[0,1,2],[0,1,2,3]] [] [(2,1000)] (fun q=>g) 1 3 (by kernel_rfl) (by kernel_rfl) (by rfl) hog (fun q q' h h' hn=>absurd hn (by omega)) ?_;refine R7.cd ?_ (fun T xs wr hA=>?_) ?_
 rotate_left
 ·have e5:=hA.pq 5;simp only[gsa,gsc,gsz] at e5;have hBq:wr.heap[kt]?=_:=(hA.bl _ hlt_t (fun q _=>by show g≠kt;omega)).trans HBt.out;obtain⟨q0,q1,q2,q3⟩:=cl4 hBq;clear hBq;clear hA;go_simp<;>(try with_reducible rfl)
 refine R7.cd ?_ (fun T xs wr hA=>?_) ?_
 rotate_left
 ·have e0:=hA.pq 0;simp only[gsa,gsz] at e0;clear hA;go_simp<;>(try with_reducible rfl)
 refine R7.Chain.callOld 0 (fun xs v w=>v=.int .i64 (bb:Nat)/\PS w g sb) (fun _ _ _ _ ⟨h1,h2⟩ hb=>⟨h1,h2.below hb⟩) (fun _ _ _ _ q' _ hq hne _=>absurd rfl hne) (by rfl) (by rfl) (by decide) (R7.own_one (by rfl)) (fun T xs wr hA hold=>?_) ?_
 ·have hsw:=(hA.be 0 (Nat.zero_le _) (fun _ _=>Nat.zero_le _)).size;have e13:=tr_ (hA.tq 1 13) (hA.fq 1)
  (try simp (disch:=decide) only [R7.mi] at e13)
  have h0:=undrew (hA.be 0 (Nat.zero_le _) (fun _ _=>Nat.zero_le _))
  have hbw:Below w5.heap.size w5 wr:=⟨h0.os,h0.tape,h0.output,h0.size,fun k hk=>by
   by_cases e:k=g
   ·rw[e];exact hold
   exact hA.bl k hk (fun q _ h=>e h.symm)⟩
  clear hA;refine⟨(by rfl),fun K hK=>?_⟩;go_simp
  refine (base_p g ((s.counted count 6).exp [58]) wr (HP.out.below hbw)).mono ?_;rintro e w' ⟨rfl,hp,hg⟩;exact hK.out _ _ ⟨by rw[HBB.out],by rw[HSB.out];exact hp⟩ (R7.Priv.of hg)
 refine R7.Chain.done (fun xs w6 hL=>?_);obtain⟨⟨hbe,hbl⟩,hf,-,-⟩:=hL;have f0:xs 0=_:=hf 0 (by decide);have f1:xs 1=_:=hf 1 (by decide);have F2:(xs 2)=.int .i64 (bb:Nat)/\PS w6 g sb:=hf 2 (by decide)
 (try simp (disch:=decide) only [R7.mi] at f0 f1)
 have hb0:Below 0 w5 w6:=undrew (hbe 0 (Nat.zero_le _) (fun _ _=>Nat.zero_le _));have hgr:∀ j,j<w5.heap.size->(∀ q,q<1->(fun q=>g) q≠j)->w6.heap[j]?=w5.heap[j]?:=hbl;clear hbe hbl hf;obtain⟨hv,hp⟩:=F2;have hg:w5.grownBy w6 (some g):=⟨hb0.os,hb0.tape,hb0.output,hb0.size,fun k hk hn=>hgr k hk (fun q _ e=>hn (by rw[<-e]))⟩
 refine R7.rest_list (by decide) (by kernel_rfl) ?_;simp only[R7.fill,t1_,t2_,t3_,t4_,t5_,t6_,t7_,f0,f1];simp only[hv];clear hlt_t hog hv f0 f1;replace HBr:=kG hg HBr;replace HBt:=kG hg HBt;replace HP:=h_ hp;replace HD:=dG HD (hg);clear hp hg hb0 hgr;go_wp2_with fail
 refine (typed_p t.text t bb w6 rfl).mono ?_;rintro e w7 ⟨rfl,hb⟩;replace HBr:=kB hb HBr;replace HBt:=kB hb HBt;replace HP:=h_ (HP.out.below hb);replace HD:=dB HD hb;clear hb;simp only[pmV,typ,xZ];obtain⟨z0,z1,z2,z3,z4,z5,z6,z7,z8,z9,z10,z11,z12⟩:=cl13 HBr.out;obtain⟨fz0,fz1,fz2,fz3,fz4,fz5,fz6,fz7,fz8,fz9,fz10,fz11,fz12⟩:=fr13 HBr.out;go_wp2_with fail
 refine bodyPost_ret (v:=.agg #[.string ⟨t.text.toArray⟩,.int .i64 (bb:Nat),.bool false,.int .i64 0,.string ⟨#[]⟩,.string ⟨#[]⟩,.bool false,.slice none 0 0,.slice none 0 0,.int .i64 0,.int .i64 0,.int .i64 (t.line:Nat),.int .i64 (t.col:Nat)]) (by simp[results,Tryz.results66,go_sem,z0,z1,z2,z3,z4,z5,z6,z7,z8,z9,z10,z11,z12]) rfl ?_;obtain⟨wz,hw⟩:∃ x,x=w7.setCells kr 0 [.string ⟨t.text.toArray⟩,.int .i64 (bb:Nat),.bool false,.int .i64 0,.string ⟨#[]⟩,.string ⟨#[]⟩,.bool false,.slice none 0 0,.slice none 0 0,.int .i64 0,.int .i64 0,.int .i64 (t.line:Nat),.int .i64 (t.col:Nat)]:=⟨_,rfl⟩
 have hg:w7.grownBy wz (some kr):=by rw[hw];exact setCells_grown _ _ _ _
 rw[show ((((((((((((w7.setCell ⟨kr,0,none⟩ (.string ⟨t.text.toArray⟩)).setCell ⟨kr,1,none⟩ (.int .i64 (bb:Nat))).setCell ⟨kr,2,none⟩ (.bool false)).setCell ⟨kr,3,none⟩ (.int .i64 0)).setCell ⟨kr,4,none⟩ (.string ⟨#[]⟩)).setCell ⟨kr,5,none⟩ (.string ⟨#[]⟩)).setCell ⟨kr,6,none⟩ (.bool false)).setCell ⟨kr,7,none⟩ (.slice none 0 0)).setCell ⟨kr,8,none⟩ (.slice none 0 0)).setCell ⟨kr,9,none⟩ (.int .i64 0)).setCell ⟨kr,10,none⟩ (.int .i64 0)).setCell ⟨kr,11,none⟩ (.int .i64 (t.line:Nat))).setCell ⟨kr,12,none⟩ (.int .i64 (t.col:Nat))=wz from hw.symm];clear z0 fz0 z1 fz1 z2 fz2 z3 fz3 z4 fz4 z5 fz5 z6 fz6 z7 fz7 z8 fz8 z9 fz9 z10 fz10 z11 fz11 z12 fz12;replace HP:=h_ (HP.out.store HBr.out (by decide) (by omega) hg);replace HBt:=kG hg HBt;replace HD:=dN HD hg (by omega);have hsz8:=HD.out.size;clear hw hg
 exact⟨by unfold cParam;simp only[pmV,typ,xZ];rw[show (cBase ((s.counted count 6).exp wColon)).1=bb from HBB.out.symm,<-HNt.out],by unfold cParam;rw[show (cBase ((s.counted count 6).exp wColon)).2=sb from HSB.out.symm];exact⟨HP.out,HD.out⟩⟩
theorem refined_p (n:Nat) (hn:n<=1000000) (g:Nat) (s:St) (nm:Bs) (t:Tok) (b:Nat) (r:PmU × St) (w:World) (hps:PS w g s) (hop:GOps w g) (hc:cRef n (typ nm t b) s=some r) :
  Calls Tryz.prog 69 #[.pointer (some ⟨g,0,none⟩),pmV (typ nm t b) xZ] w fun e w'=>∃ y,e=.returned (pmV r.1 y)/\Um w' (fun k=>w.heap.size<=k) y r.1.ref/\Did w g r.2 w':=by
 have HP:=h_ hps;have HOP:=h_ hop;clear hps hop;unfold cRef at hc;simp only[pmV,typ,xZ];go_enter Tryz.func69,Tryz.ntmps69
 go_upto_region 1 with fail
 obtain⟨w1,kp,hw,hkk,hb,hs1,HBp⟩:=newb w #[.string ⟨nm.toArray⟩,.int .i64 (b:Nat),.bool false,.int .i64 0,.string ⟨#[]⟩,.string ⟨#[]⟩,.bool false,.slice none 0 0,.slice none 0 0,.int .i64 0,.int .i64 0,.int .i64 (t.line:Nat),.int .i64 (t.col:Nat)] 48;have hgp:g<kp:=by rw[hkk];exact HP.out.lt
 have hep:w.heap.size<=kp:=by omega
 rw[hw,<-hkk,<-hs1];replace HP:=h_ (HP.out.below hb);replace HOP:=h_ (HOP.out.below hb);have HD:=h_ (below_grown hb (some g));have hsz1:=HD.out.size;clear hw hb hkk hs1;obtain⟨w2,kr,hw,hkk,hb,hs1,HBr⟩:=newb w1 #[.string ⟨#[]⟩,.int .i64 0,.bool false,.int .i64 0,.string ⟨#[]⟩,.string ⟨#[]⟩,.bool false,.slice none 0 0,.slice none 0 0,.int .i64 0,.int .i64 0,.int .i64 0,.int .i64 0] 48;have hgr:g<kr:=by rw[hkk];exact HP.out.lt
 have her:w.heap.size<=kr:=by omega
 have hp_r:=lk_ hkk HBp;rw[hw,<-hkk];replace HBp:=kB hb HBp;replace HP:=h_ (HP.out.below hb);replace HOP:=h_ (HOP.out.below hb);replace HD:=dB HD hb;clear hw hb hkk hs1;go_wp2_with fail
 refine (accept_p g s [123] w2 HP.out).mono ?_;rintro e w3 ⟨rfl,hp,hg⟩;replace HBp:=kG hg HBp;replace HBr:=kG hg HBr;replace HOP:=h_ (HOP.out.grown hg (by omega));replace HP:=h_ hp;replace HD:=dG HD (hg);have hsz3:=HD.out.size;clear hp hg
 by_cases hi:s.is wBraceO=true
 ·rw[if_pos hi,Option.bind_eq_some_iff] at hc;obtain⟨q,hq,hc⟩:=hc;injection hc with hc;subst hc;have HQ:=h_ hq;have HX:Hid (s.acc [123]=s.tk):=h_ (by unfold St.acc;rw[show s.is [123]=true from hi];rfl);rw[HX.out] at HP;rw[show s.is [123]=true from hi];clear hi hq;obtain⟨c0,c1,c2,c3,c4,c5,c6,c7,c8,c9,c10,c11,c12⟩:=cl13 HBp.out;obtain⟨fc0,fc1,fc2,fc3,fc4,fc5,fc6,fc7,fc8,fc9,fc10,fc11,fc12⟩:=fr13 HBp.out;go_upto_region 3 with fail
  obtain⟨w4,hw⟩:∃ x,x=w3.setCells kp 2 [.bool true]:=⟨_,rfl⟩
  have hg:w3.grownBy w4 (some kp):=by rw[hw];exact setCells_grown _ _ _ _
  have hv:=put_same [.bool true] w3 kp 2 _ _ HBp.out (Nat.le_of_ble_eq_true rfl);rw[<-hw] at hv;rw[show w3.setCell ⟨kp,2,none⟩ (.bool true)=w4 from hw.symm];clear c0 fc0 c1 fc1 c2 fc2 c3 fc3 c4 fc4 c5 fc5 c6 fc6 c7 fc7 c8 fc8 c9 fc9 c10 fc10 c11 fc11 c12 fc12;replace HP:=h_ (HP.out.store HBp.out (by decide) (by omega) hg);replace HBr:=kG hg HBr;replace HOP:=h_ (HOP.out.grown hg (by omega));replace HD:=dN HD hg (by omega);have hsz4:=HD.out.size;replace HBp:Hid (w4.heap[kp]?=some (.cells #[.string ⟨nm.toArray⟩,.int .i64 (b:Nat),.bool true,.int .i64 0,.string ⟨#[]⟩,.string ⟨#[]⟩,.bool false,.slice none 0 0,.slice none 0 0,.int .i64 0,.int .i64 0,.int .i64 (t.line:Nat),.int .i64 (t.col:Nat)] 48 (0,0))):=h_ hv;clear hw hg hv;go_wp2_with fail
  obtain⟨Nb,hN⟩:∃ k,k=w4.heap.size:=⟨_,rfl⟩
  have hp_Nb:kp<Nb:=by rw[hN];exact lt_of_block HBp.out
  have hr_Nb:kr<Nb:=by rw[hN];exact lt_of_block HBr.out
  have hg_Nb:g<Nb:=by rw[hN];exact HP.out.lt
  have he_Nb:w.heap.size<=Nb:=by omega
  refine (complete_p n hn g s.tk q w4 HP.out HOP.out HQ.out).mono ?_;rintro e w5 ⟨xb,rfl,hu,hp,hg⟩;replace HBp:=kG hg HBp;replace HBr:=kG hg HBr;replace HOP:=h_ (HOP.out.grown hg (by omega));replace HP:=h_ hp;replace HD:=dG HD (hg);rw[<-hN] at hu;have HUb:=h_ (hu.mono (S':=fun b=>Nb<=b/\True) (fun b h=>⟨h,trivial⟩));clear hN hu;clear hp hg;obtain⟨bk,bnm,bot,bb,bao,bn,bq,bko,bkn,bkc,bln,bcl⟩:=xb;simp only[xv];obtain⟨c0,c1,c2,c3,c4,c5,c6,c7,c8,c9,c10,c11,c12⟩:=cl13 HBp.out;obtain⟨fc0,fc1,fc2,fc3,fc4,fc5,fc6,fc7,fc8,fc9,fc10,fc11,fc12⟩:=fr13 HBp.out;go_upto_region 4 with fail
  obtain⟨w6,hw⟩:∃ x,x=w5.setCells kp 3 [.int .i64 bk,.string bnm,.string bot,.bool bb,.slice bao bn bq,.slice bko bkn bkc,.int .i64 bln,.int .i64 bcl]:=⟨_,rfl⟩
  have hg:w5.grownBy w6 (some kp):=by rw[hw];exact setCells_grown _ _ _ _
  have hv:=put_same [.int .i64 bk,.string bnm,.string bot,.bool bb,.slice bao bn bq,.slice bko bkn bkc,.int .i64 bln,.int .i64 bcl] w5 kp 3 _ _ HBp.out (Nat.le_of_ble_eq_true rfl);rw[<-hw] at hv;rw[show (((((((w5.setCell ⟨kp,3,none⟩ (.int .i64 bk)).setCell ⟨kp,4,none⟩ (.string bnm)).setCell ⟨kp,5,none⟩ (.string bot)).setCell ⟨kp,6,none⟩ (.bool bb)).setCell ⟨kp,7,none⟩ (.slice bao bn bq)).setCell ⟨kp,8,none⟩ (.slice bko bkn bkc)).setCell ⟨kp,9,none⟩ (.int .i64 bln)).setCell ⟨kp,10,none⟩ (.int .i64 bcl)=w6 from hw.symm];clear c0 fc0 c1 fc1 c2 fc2 c3 fc3 c4 fc4 c5 fc5 c6 fc6 c7 fc7 c8 fc8 c9 fc9 c10 fc10 c11 fc11 c12 fc12;replace HP:=h_ (HP.out.store HBp.out (by decide) (by omega) hg);replace HBr:=kG hg HBr;replace HUb:=h_ (HUb.out.grown hg (fun h=>by omega));replace HOP:=h_ (HOP.out.grown hg (by omega));replace HD:=dN HD hg (by omega)
  have hsz6:=HD.out.size;replace HBp:Hid (w6.heap[kp]?=some (.cells #[.string ⟨nm.toArray⟩,.int .i64 (b:Nat),.bool true,.int .i64 bk,.string bnm,.string bot,.bool bb,.slice bao bn bq,.slice bko bkn bkc,.int .i64 bln,.int .i64 bcl,.int .i64 (t.line:Nat),.int .i64 (t.col:Nat)] 48 (0,0))):=h_ hv;clear hw hg hv;go_wp2_with fail
  obtain⟨w7,kq1,hw,hkk,hb,hs1,HBq1⟩:=newb w6 #[.string ⟨#[125]⟩] 9;have hgq1:g<kq1:=by rw[hkk];exact HP.out.lt
  have heq1:w.heap.size<=kq1:=by omega
  have hp_q1:=lk_ hkk HBp;have hr_q1:=lk_ hkk HBr;replace HUb:=h_ (HUb.out.offk hkk);rw[hw,<-hkk];replace HBp:=kB hb HBp;replace HBr:=kB hb HBr;replace HP:=h_ (HP.out.below hb);replace HUb:=h_ (HUb.out.below hb);replace HOP:=h_ (HOP.out.below hb);replace HD:=dB HD hb;have hsz7:=HD.out.size;clear hw hb hkk hs1;refine (expect_p g q.2 [[125]] kq1 w7 HP.out HBq1.out (by omega) (by decide)).mono ?_;rintro e w8 ⟨⟨v,rfl⟩,hp,hg⟩;replace HBp:=kG hg HBp;replace HBr:=kG hg HBr;replace HBq1:=kG hg HBq1;replace HUb:=h_ (HUb.out.grown hg (fun h=>by omega));replace HOP:=h_ (HOP.out.grown hg (by omega));replace HP:=h_ hp;replace HD:=dG HD (hg);clear hp hg;obtain⟨c0,c1,c2,c3,c4,c5,c6,c7,c8,c9,c10,c11,c12⟩:=cl13 HBp.out;obtain⟨z0,z1,z2,z3,z4,z5,z6,z7,z8,z9,z10,z11,z12⟩:=cl13 HBr.out
  obtain⟨fz0,fz1,fz2,fz3,fz4,fz5,fz6,fz7,fz8,fz9,fz10,fz11,fz12⟩:=fr13 HBr.out;go_wp2_with fail
  refine bodyPost_ret (v:=.agg #[.string ⟨nm.toArray⟩,.int .i64 (b:Nat),.bool true,.int .i64 bk,.string bnm,.string bot,.bool bb,.slice bao bn bq,.slice bko bkn bkc,.int .i64 bln,.int .i64 bcl,.int .i64 (t.line:Nat),.int .i64 (t.col:Nat)]) (by simp[results,Tryz.results69,go_sem,z0,z1,z2,z3,z4,z5,z6,z7,z8,z9,z10,z11,z12]) rfl ?_;obtain⟨wz,hw⟩:∃ x,x=w8.setCells kr 0 [.string ⟨nm.toArray⟩,.int .i64 (b:Nat),.bool true,.int .i64 bk,.string bnm,.string bot,.bool bb,.slice bao bn bq,.slice bko bkn bkc,.int .i64 bln,.int .i64 bcl,.int .i64 (t.line:Nat),.int .i64 (t.col:Nat)]:=⟨_,rfl⟩
  have hg:w8.grownBy wz (some kr):=by rw[hw];exact setCells_grown _ _ _ _
  rw[show ((((((((((((w8.setCell ⟨kr,0,none⟩ (.string ⟨nm.toArray⟩)).setCell ⟨kr,1,none⟩ (.int .i64 (b:Nat))).setCell ⟨kr,2,none⟩ (.bool true)).setCell ⟨kr,3,none⟩ (.int .i64 bk)).setCell ⟨kr,4,none⟩ (.string bnm)).setCell ⟨kr,5,none⟩ (.string bot)).setCell ⟨kr,6,none⟩ (.bool bb)).setCell ⟨kr,7,none⟩ (.slice bao bn bq)).setCell ⟨kr,8,none⟩ (.slice bko bkn bkc)).setCell ⟨kr,9,none⟩ (.int .i64 bln)).setCell ⟨kr,10,none⟩ (.int .i64 bcl)).setCell ⟨kr,11,none⟩ (.int .i64 (t.line:Nat))).setCell ⟨kr,12,none⟩ (.int .i64 (t.col:Nat))=wz from hw.symm];clear c0 c1 c2 c3 c4 c5 c6 c7 c8 c9 c10 c11 c12 z0 fz0 z1 fz1 z2 fz2 z3 fz3 z4 fz4 z5 fz5 z6 fz6 z7 fz7 z8 fz8 z9 fz9 z10 fz10 z11 fz11 z12 fz12;replace HP:=h_ (HP.out.store HBr.out (by decide) (by omega) hg);replace HBp:=kG hg HBp;replace HUb:=h_ (HUb.out.grown hg (fun h=>by omega))
  replace HOP:=h_ (HOP.out.grown hg (by omega));replace HD:=dN HD hg (by omega);have hsz9:=HD.out.size;clear hw hg;exact⟨⟨bk,bnm,bot,bb,bao,bn,bq,bko,bkn,bkc,bln,bcl⟩,rfl,(HUb.out.mono (fun b h=>by have h:(Nb<=b/\True)/\b≠kq1:=h;show _<=b;omega)),HP.out,HD.out⟩
 rw[if_neg hi] at hc;injection hc with hc;subst hc;have hif:s.is [123]=false:=by simpa using hi
 have HX:Hid (s.acc [123]=s):=h_ (by unfold St.acc;rw[hif];rfl);rw[HX.out] at HP;rw[hif];clear hi hif;obtain⟨c0,c1,c2,c3,c4,c5,c6,c7,c8,c9,c10,c11,c12⟩:=cl13 HBp.out;obtain⟨z0,z1,z2,z3,z4,z5,z6,z7,z8,z9,z10,z11,z12⟩:=cl13 HBr.out;obtain⟨fz0,fz1,fz2,fz3,fz4,fz5,fz6,fz7,fz8,fz9,fz10,fz11,fz12⟩:=fr13 HBr.out;go_wp2_with fail
 refine bodyPost_ret (v:=.agg #[.string ⟨nm.toArray⟩,.int .i64 (b:Nat),.bool false,.int .i64 0,.string ⟨#[]⟩,.string ⟨#[]⟩,.bool false,.slice none 0 0,.slice none 0 0,.int .i64 0,.int .i64 0,.int .i64 (t.line:Nat),.int .i64 (t.col:Nat)]) (by simp[results,Tryz.results69,go_sem,z0,z1,z2,z3,z4,z5,z6,z7,z8,z9,z10,z11,z12]) rfl ?_;obtain⟨wz,hw⟩:∃ x,x=w3.setCells kr 0 [.string ⟨nm.toArray⟩,.int .i64 (b:Nat),.bool false,.int .i64 0,.string ⟨#[]⟩,.string ⟨#[]⟩,.bool false,.slice none 0 0,.slice none 0 0,.int .i64 0,.int .i64 0,.int .i64 (t.line:Nat),.int .i64 (t.col:Nat)]:=⟨_,rfl⟩
 have hg:w3.grownBy wz (some kr):=by rw[hw];exact setCells_grown _ _ _ _
 rw[show ((((((((((((w3.setCell ⟨kr,0,none⟩ (.string ⟨nm.toArray⟩)).setCell ⟨kr,1,none⟩ (.int .i64 (b:Nat))).setCell ⟨kr,2,none⟩ (.bool false)).setCell ⟨kr,3,none⟩ (.int .i64 0)).setCell ⟨kr,4,none⟩ (.string ⟨#[]⟩)).setCell ⟨kr,5,none⟩ (.string ⟨#[]⟩)).setCell ⟨kr,6,none⟩ (.bool false)).setCell ⟨kr,7,none⟩ (.slice none 0 0)).setCell ⟨kr,8,none⟩ (.slice none 0 0)).setCell ⟨kr,9,none⟩ (.int .i64 0)).setCell ⟨kr,10,none⟩ (.int .i64 0)).setCell ⟨kr,11,none⟩ (.int .i64 (t.line:Nat))).setCell ⟨kr,12,none⟩ (.int .i64 (t.col:Nat))=wz from hw.symm];clear c0 c1 c2 c3 c4 c5 c6 c7 c8 c9 c10 c11 c12 z0 fz0 z1 fz1 z2 fz2 z3 fz3 z4 fz4 z5 fz5 z6 fz6 z7 fz7 z8 fz8 z9 fz9 z10 fz10 z11 fz11 z12 fz12;replace HP:=h_ (HP.out.store HBr.out (by decide) (by omega) hg);replace HBp:=kG hg HBp;replace HOP:=h_ (HOP.out.grown hg (by omega));replace HD:=dN HD hg (by omega)
 have hsz4:=HD.out.size;clear hw hg;exact⟨xZ,rfl,um_zero _ _,HP.out,HD.out⟩
theorem result_p (n:Nat) (hn:n<=1000000) (g:Nat) (s:St) (r:PmU × St) (w:World) (hps:PS w g s) (hop:GOps w g) (hc:cRes n s=some r) :
  Calls Tryz.prog 70 #[.pointer (some ⟨g,0,none⟩)] w fun e w'=>∃ y,e=.returned (pmV r.1 y)/\Um w' (fun k=>w.heap.size<=k) y r.1.ref/\Did w g r.2 w':=by
 have HP:=h_ hps;have HOP:=h_ hop;have HC:=h_ hc;clear hps hop hc;go_enter Tryz.func70,Tryz.ntmps70
 go_upto_region 1 with fail
 obtain⟨w1,kr,hw,hkk,hb,hs1,HBr⟩:=newb w #[.string ⟨#[]⟩,.int .i64 0,.bool false,.int .i64 0,.string ⟨#[]⟩,.string ⟨#[]⟩,.bool false,.slice none 0 0,.slice none 0 0,.int .i64 0,.int .i64 0,.int .i64 0,.int .i64 0] 48;have hgr:g<kr:=by rw[hkk];exact HP.out.lt
 have her:w.heap.size<=kr:=by omega
 rw[hw,<-hkk];replace HP:=h_ (HP.out.below hb);replace HOP:=h_ (HOP.out.below hb);have HD:=h_ (below_grown hb (some g));clear hw hb hkk hs1;go_wp2_with fail
 refine (next_p g s w1 HP.out).mono ?_;rintro e w2 ⟨rfl,hb⟩;replace HBr:=kB hb HBr;replace HP:=h_ (HP.out.below hb);replace HOP:=h_ (HOP.out.below hb);replace HD:=dB HD hb;have hsz2:=HD.out.size;clear hb;simp only[tokV];obtain⟨t,hnx⟩:∃ t,t=St.nx s:=⟨_,rfl⟩
 rw[<-hnx];have HNt:=h_ hnx;clear hnx;go_upto_region 2 with fail
 obtain⟨w3,kt,hw,hkk,hb,hs1,HBt⟩:=newb w2 #[.int .i64 (t.kind:Nat),.string ⟨t.text.toArray⟩,.int .i64 (t.line:Nat),.int .i64 (t.col:Nat)] 97;have hgt:g<kt:=by rw[hkk];exact HP.out.lt
 have het:w.heap.size<=kt:=by omega
 have hr_t:=lk_ hkk HBr;rw[hw,<-hkk];replace HBr:=kB hb HBr;replace HP:=h_ (HP.out.below hb);replace HOP:=h_ (HOP.out.below hb);replace HD:=dB HD hb;have hsz3:=HD.out.size;clear hw hb hkk hs1;obtain⟨bb,hbb⟩:∃ b,b=(cBase s).1:=⟨_,rfl⟩
 obtain⟨sb,hsb⟩:∃ x,x=(cBase s).2:=⟨_,rfl⟩
 have HBB:=h_ hbb;have HSB:=h_ hsb;clear hbb hsb;have hlt_t:=lt_of_block HBt.out;have hog:∀ q,q<1->(fun q=>g) q<w3.heap.size:=fun q _=>by show g<_;exact HP.out.lt
 refine R7.region (by kernel_rfl) [[],[],[1],[0,1,2],[],[0,1,2,3,4]] [] [(2,1000)] (fun q=>g) 1 5 (by kernel_rfl) (by kernel_rfl) (by rfl) hog (fun q q' h h' hn=>absurd hn (by omega)) ?_;refine R7.cd ?_ (fun T xs wr hA=>?_) ?_
 rotate_left
 ·have e3:=hA.pq 3;simp only[gsa,gsc,gsz] at e3;have hBq:wr.heap[kt]?=_:=(hA.bl _ hlt_t (fun q _=>by show g≠kt;omega)).trans HBt.out;obtain⟨q0,q1,q2,q3⟩:=cl4 hBq;clear hBq;clear hA;go_simp<;>(try with_reducible rfl)
 refine R7.cd ?_ (fun T xs wr hA=>?_) ?_
 rotate_left
 ·have e0:=hA.pq 0;simp only[gsa,gsz] at e0;clear hA;go_simp<;>(try with_reducible rfl)
 refine R7.Chain.callOld 0 (fun xs v w=>v=.int .i64 (bb:Nat)/\PS w g sb) (fun _ _ _ _ ⟨h1,h2⟩ hb=>⟨h1,h2.below hb⟩) (fun _ _ _ _ q' _ hq hne _=>absurd rfl hne) (by rfl) (by rfl) (by decide) (R7.own_one (by rfl)) (fun T xs wr hA hold=>?_) ?_
 ·have hsw:=(hA.be 0 (Nat.zero_le _) (fun _ _=>Nat.zero_le _)).size;have e8:=tr_ (hA.tq 1 8) (hA.fq 1)
  (try simp (disch:=decide) only [R7.mi] at e8)
  have h0:=undrew (hA.be 0 (Nat.zero_le _) (fun _ _=>Nat.zero_le _))
  have hbw:Below w3.heap.size w3 wr:=⟨h0.os,h0.tape,h0.output,h0.size,fun k hk=>by
   by_cases e:k=g
   ·rw[e];exact hold
   exact hA.bl k hk (fun q _ h=>e h.symm)⟩
  clear hA;refine⟨(by rfl),fun K hK=>?_⟩;go_simp
  refine (base_p g s wr (HP.out.below hbw)).mono ?_;rintro e w' ⟨rfl,hp,hg⟩;exact hK.out _ _ ⟨by rw[HBB.out],by rw[HSB.out];exact hp⟩ (R7.Priv.of hg)
 refine R7.Chain.call (fun xs v w=>v=pmV (typ t.text t bb) xZ) (fun _ _ _ _ h _=>h) (fun _ _ _ _ _ h _ _=>h) (by rfl) (fun T xs wr hA=>?_) ?_
 ·have hsw:=(hA.be 0 (Nat.zero_le _) (fun _ _=>Nat.zero_le _)).size;have e7:=tr_ (hA.tq 0 7) (hA.fq 0)
  (try simp (disch:=decide) only [R7.mi] at e7)
  have e9:=hA.tm 2 9 (by rfl) (by rfl);have hF2:(xs 2)=.int .i64 (bb:Nat)/\PS wr g sb:=hA.fa 2 (by rfl);have hx:=hF2;rw[hx.1] at e9;clear hx;clear hA;refine⟨(by rfl),fun K hK=>?_⟩;go_simp
  refine (typed_p t.text t bb _ rfl).mono ?_;rintro e w' ⟨rfl,hb⟩;exact hK.out _ _ rfl hb
 refine R7.Chain.call (fun xs v w=>∃ k,v=.pointer (some ⟨k,0,none⟩)/\w3.heap.size<=k/\w.heap[k]?=some (.cells #[.string ⟨#[]⟩,.int .i64 0,.bool false,.int .i64 0,.string ⟨#[]⟩,.string ⟨#[]⟩,.bool false,.slice none 0 0,.slice none 0 0,.int .i64 0,.int .i64 0,.int .i64 0,.int .i64 0] 48 (0,0))) (fun _ _ _ _ ⟨g,hv,hl,hg⟩ hb=>⟨g,hv,hl,by rw[hb.block g (Array.getElem?_eq_some_iff.1 hg).1];exact hg⟩) (fun _ _ _ _ _ ⟨g,hv,hl,hg⟩ ⟨q,hq,e⟩ hp=>⟨g,hv,hl,by rw[hp.block g (Array.getElem?_eq_some_iff.1 hg).1 (fun h=>by have:=hog q hq;omega)];exact hg⟩) (by rfl) (fun T xs wr hA=>?_) ?_
 ·have hsw:=(hA.be 0 (Nat.zero_le _) (fun _ _=>Nat.zero_le _)).size;clear hA;refine⟨(by rfl),fun K hK=>?_⟩;go_simp
  exact hK.out _ _ ⟨_,rfl,hsw,by simpa using made_at wr _ _ rfl⟩ ((Below.refl _ _).alloc (Nat.le_refl _) _)
 refine R7.Chain.done (fun xs w4 hL=>?_);obtain⟨⟨hbe,hbl⟩,hf,-,-⟩:=hL;have f0:xs 0=_:=hf 0 (by decide);have f1:xs 1=_:=hf 1 (by decide);have F2:(xs 2)=.int .i64 (bb:Nat)/\PS w4 g sb:=hf 2 (by decide);have f3:xs 3=(pmV (typ t.text t bb) xZ):=hf 3 (by decide);have F4:∃ k,(xs 4)=.pointer (some ⟨k,0,none⟩)/\w3.heap.size<=k/\w4.heap[k]?=some (.cells #[.string ⟨#[]⟩,.int .i64 0,.bool false,.int .i64 0,.string ⟨#[]⟩,.string ⟨#[]⟩,.bool false,.slice none 0 0,.slice none 0 0,.int .i64 0,.int .i64 0,.int .i64 0,.int .i64 0] 48 (0,0)):=hf 4 (by decide)
 (try simp (disch:=decide) only [R7.mi] at f0 f1)
 have hb0:Below 0 w3 w4:=undrew (hbe 0 (Nat.zero_le _) (fun _ _=>Nat.zero_le _));have hgr:∀ j,j<w3.heap.size->(∀ q,q<1->(fun q=>g) q≠j)->w4.heap[j]?=w3.heap[j]?:=hbl;clear hbe hbl hf;obtain⟨-,hp⟩:=F2;obtain⟨kv,hv4,hl4,hg4⟩:=F4;have hg:w3.grownBy w4 (some g):=⟨hb0.os,hb0.tape,hb0.output,hb0.size,fun k hk hn=>hgr k hk (fun q _ e=>hn (by rw[<-e]))⟩
 have hgv:g<kv:=Nat.lt_of_lt_of_le HP.out.lt hl4;have hr_v:kr<kv:=Nat.lt_of_lt_of_le (lt_of_block HBr.out) hl4;have ht_v:kt<kv:=Nat.lt_of_lt_of_le (lt_of_block HBt.out) hl4;have hev:w.heap.size<=kv:=by omega
 refine R7.rest_list (by decide) (by kernel_rfl) ?_;simp only[R7.fill,t1_,t2_,t3_,t4_,t5_,t6_,t7_,f0,f1,f3];simp only[hv4];clear hlt_t hog hv4 hl4 f0 f1 f3;replace HBr:=kG hg HBr;replace HBt:=kG hg HBt;replace HOP:=h_ (HOP.out.grown hg (by omega));replace HP:=h_ hp;replace HD:=dG HD (hg);have HBv:=h_ hg4;clear hp hg hb0 hgr hg4;simp only[pmV,typ,xZ];obtain⟨c0,c1,c2,c3,c4,c5,c6,c7,c8,c9,c10,c11,c12⟩:=cl13 HBv.out;obtain⟨fc0,fc1,fc2,fc3,fc4,fc5,fc6,fc7,fc8,fc9,fc10,fc11,fc12⟩:=fr13 HBv.out;go_upto_region 3 with fail
 obtain⟨w5,hw⟩:∃ x,x=w4.setCells kv 0 [.string ⟨t.text.toArray⟩,.int .i64 (bb:Nat),.bool false,.int .i64 0,.string ⟨#[]⟩,.string ⟨#[]⟩,.bool false,.slice none 0 0,.slice none 0 0,.int .i64 0,.int .i64 0,.int .i64 (t.line:Nat),.int .i64 (t.col:Nat)]:=⟨_,rfl⟩
 have hg:w4.grownBy w5 (some kv):=by rw[hw];exact setCells_grown _ _ _ _
 have hv:=put_same [.string ⟨t.text.toArray⟩,.int .i64 (bb:Nat),.bool false,.int .i64 0,.string ⟨#[]⟩,.string ⟨#[]⟩,.bool false,.slice none 0 0,.slice none 0 0,.int .i64 0,.int .i64 0,.int .i64 (t.line:Nat),.int .i64 (t.col:Nat)] w4 kv 0 _ _ HBv.out (Nat.le_of_ble_eq_true rfl);rw[<-hw] at hv;rw[show ((((((((((((w4.setCell ⟨kv,0,none⟩ (.string ⟨t.text.toArray⟩)).setCell ⟨kv,1,none⟩ (.int .i64 (bb:Nat))).setCell ⟨kv,2,none⟩ (.bool false)).setCell ⟨kv,3,none⟩ (.int .i64 0)).setCell ⟨kv,4,none⟩ (.string ⟨#[]⟩)).setCell ⟨kv,5,none⟩ (.string ⟨#[]⟩)).setCell ⟨kv,6,none⟩ (.bool false)).setCell ⟨kv,7,none⟩ (.slice none 0 0)).setCell ⟨kv,8,none⟩ (.slice none 0 0)).setCell ⟨kv,9,none⟩ (.int .i64 0)).setCell ⟨kv,10,none⟩ (.int .i64 0)).setCell ⟨kv,11,none⟩ (.int .i64 (t.line:Nat))).setCell ⟨kv,12,none⟩ (.int .i64 (t.col:Nat))=w5 from hw.symm]
 clear c0 fc0 c1 fc1 c2 fc2 c3 fc3 c4 fc4 c5 fc5 c6 fc6 c7 fc7 c8 fc8 c9 fc9 c10 fc10 c11 fc11 c12 fc12;replace HP:=h_ (HP.out.store HBv.out (by decide) (by omega) hg);replace HBr:=kG hg HBr;replace HBt:=kG hg HBt;replace HOP:=h_ (HOP.out.grown hg (by omega));replace HD:=dN HD hg (by omega);replace HBv:Hid (w5.heap[kv]?=some (.cells #[.string ⟨t.text.toArray⟩,.int .i64 (bb:Nat),.bool false,.int .i64 0,.string ⟨#[]⟩,.string ⟨#[]⟩,.bool false,.slice none 0 0,.slice none 0 0,.int .i64 0,.int .i64 0,.int .i64 (t.line:Nat),.int .i64 (t.col:Nat)] 48 (0,0))):=h_ hv;clear hw hg hv;obtain⟨c0,c1,c2,c3,c4,c5,c6,c7,c8,c9,c10,c11,c12⟩:=cl13 HBv.out;obtain⟨fc0,fc1,fc2,fc3,fc4,fc5,fc6,fc7,fc8,fc9,fc10,fc11,fc12⟩:=fr13 HBv.out;go_upto_region 4 with fail
 obtain⟨w6,hw⟩:∃ x,x=w5.setCells kv 0 [.string ⟨#[118]⟩]:=⟨_,rfl⟩
 have hg:w5.grownBy w6 (some kv):=by rw[hw];exact setCells_grown _ _ _ _
 have hv:=put_same [.string ⟨#[118]⟩] w5 kv 0 _ _ HBv.out (Nat.le_of_ble_eq_true rfl);rw[<-hw] at hv;rw[show w5.setCell ⟨kv,0,none⟩ (.string ⟨#[118]⟩)=w6 from hw.symm];clear c0 fc0 c1 fc1 c2 fc2 c3 fc3 c4 fc4 c5 fc5 c6 fc6 c7 fc7 c8 fc8 c9 fc9 c10 fc10 c11 fc11 c12 fc12;replace HP:=h_ (HP.out.store HBv.out (by decide) (by omega) hg);replace HBr:=kG hg HBr;replace HBt:=kG hg HBt;replace HOP:=h_ (HOP.out.grown hg (by omega));replace HD:=dN HD hg (by omega);have hsz6:=HD.out.size;replace HBv:Hid (w6.heap[kv]?=some (.cells #[.string ⟨#[118]⟩,.int .i64 (bb:Nat),.bool false,.int .i64 0,.string ⟨#[]⟩,.string ⟨#[]⟩,.bool false,.slice none 0 0,.slice none 0 0,.int .i64 0,.int .i64 0,.int .i64 (t.line:Nat),.int .i64 (t.col:Nat)] 48 (0,0))):=h_ hv;clear hw hg hv;obtain⟨c0,c1,c2,c3,c4,c5,c6,c7,c8,c9,c10,c11,c12⟩:=cl13 HBv.out
 go_wp2_with fail
 have hc:=HC.out;unfold cRes at hc;rw[<-HBB.out,<-HSB.out,<-HNt.out] at hc;have HC2:=h_ hc;clear hc;obtain⟨Nb,hN⟩:∃ k,k=w6.heap.size:=⟨_,rfl⟩
 have hr_Nb:kr<Nb:=by rw[hN];exact lt_of_block HBr.out
 have ht_Nb:kt<Nb:=by rw[hN];exact lt_of_block HBt.out
 have hv_Nb:kv<Nb:=by rw[hN];exact lt_of_block HBv.out
 have hg_Nb:g<Nb:=by rw[hN];exact HP.out.lt
 have he_Nb:w.heap.size<=Nb:=by omega
 refine (refined_p n hn g sb wV t bb r w6 HP.out HOP.out HC2.out).mono ?_;rintro e w7 ⟨xb,rfl,hu,hp,hg⟩;clear c0 c1 c2 c3 c4 c5 c6 c7 c8 c9 c10 c11 c12;replace HBr:=kG hg HBr;replace HBt:=kG hg HBt;replace HBv:=kG hg HBv;replace HOP:=h_ (HOP.out.grown hg (by omega));replace HP:=h_ hp;replace HD:=dG HD (hg);rw[<-hN] at hu;have HUb:=h_ (hu.mono (S':=fun b=>Nb<=b/\True) (fun b h=>⟨h,trivial⟩));clear hN hu;clear hp hg;obtain⟨bk,bnm,bot,bb,bao,bn,bq,bko,bkn,bkc,bln,bcl⟩:=xb;simp only[pmV];obtain⟨z0,z1,z2,z3,z4,z5,z6,z7,z8,z9,z10,z11,z12⟩:=cl13 HBr.out;obtain⟨fz0,fz1,fz2,fz3,fz4,fz5,fz6,fz7,fz8,fz9,fz10,fz11,fz12⟩:=fr13 HBr.out;go_wp2_with fail
 refine bodyPost_ret (v:=.agg #[.string ⟨r.1.nm.toArray⟩,.int .i64 (r.1.b:Nat),.bool r.1.kn,.int .i64 bk,.string bnm,.string bot,.bool bb,.slice bao bn bq,.slice bko bkn bkc,.int .i64 bln,.int .i64 bcl,.int .i64 (r.1.ln:Nat),.int .i64 (r.1.cl:Nat)]) (by simp[results,Tryz.results70,go_sem,z0,z1,z2,z3,z4,z5,z6,z7,z8,z9,z10,z11,z12]) rfl ?_;obtain⟨wz,hw⟩:∃ x,x=w7.setCells kr 0 [.string ⟨r.1.nm.toArray⟩,.int .i64 (r.1.b:Nat),.bool r.1.kn,.int .i64 bk,.string bnm,.string bot,.bool bb,.slice bao bn bq,.slice bko bkn bkc,.int .i64 bln,.int .i64 bcl,.int .i64 (r.1.ln:Nat),.int .i64 (r.1.cl:Nat)]:=⟨_,rfl⟩
 have hg:w7.grownBy wz (some kr):=by rw[hw];exact setCells_grown _ _ _ _
 rw[show ((((((((((((w7.setCell ⟨kr,0,none⟩ (.string ⟨r.1.nm.toArray⟩)).setCell ⟨kr,1,none⟩ (.int .i64 (r.1.b:Nat))).setCell ⟨kr,2,none⟩ (.bool r.1.kn)).setCell ⟨kr,3,none⟩ (.int .i64 bk)).setCell ⟨kr,4,none⟩ (.string bnm)).setCell ⟨kr,5,none⟩ (.string bot)).setCell ⟨kr,6,none⟩ (.bool bb)).setCell ⟨kr,7,none⟩ (.slice bao bn bq)).setCell ⟨kr,8,none⟩ (.slice bko bkn bkc)).setCell ⟨kr,9,none⟩ (.int .i64 bln)).setCell ⟨kr,10,none⟩ (.int .i64 bcl)).setCell ⟨kr,11,none⟩ (.int .i64 (r.1.ln:Nat))).setCell ⟨kr,12,none⟩ (.int .i64 (r.1.cl:Nat))=wz from hw.symm];clear z0 fz0 z1 fz1 z2 fz2 z3 fz3 z4 fz4 z5 fz5 z6 fz6 z7 fz7 z8 fz8 z9 fz9 z10 fz10 z11 fz11 z12 fz12;replace HP:=h_ (HP.out.store HBr.out (by decide) (by omega) hg);replace HBt:=kG hg HBt;replace HBv:=kG hg HBv;replace HUb:=h_ (HUb.out.grown hg (fun h=>by omega))
 replace HOP:=h_ (HOP.out.grown hg (by omega));replace HD:=dN HD hg (by omega);have hsz8:=HD.out.size;clear hw hg;exact⟨⟨bk,bnm,bot,bb,bao,bn,bq,bko,bkn,bkc,bln,bcl⟩,rfl,(HUb.out.mono (fun b h=>by have h:Nb<=b/\True:=h;show _<=b;omega)),HP.out,HD.out⟩
def AtN (n:Nat) (w:World) (ko:Option Addr) (i:Nat) (cs:List Value):Prop:=∃ a,ko=some a/\∀ j v,cs[j]?=some v->w.cell? ((a.add (i*n)).add j)=some v
theorem AtN.keep {n:Nat} {w w':World} {ko:Option Addr} {i:Nat} {cs:List Value} (h:AtN n w ko i cs) (hk:∀ a,ko=some a->w'.heap[a.block]?=w.heap[a.block]?):AtN n w' ko i cs:=by
 obtain⟨a,rfl,h⟩:=h;refine⟨a,rfl,fun j v hv=>?_⟩;rw[cell_keep (w:=w) (by rw[add_block,add_block];exact hk a rfl)];exact h j v hv
theorem AtN.lt {n:Nat} {w:World} {ko:Option Addr} {i:Nat} {c:Value} {cs:List Value} (h:AtN n w ko i (c::cs)):∀ a,ko=some a->a.block<w.heap.size:=by
 obtain⟨a,rfl,h⟩:=h;rintro _ ⟨⟩;have:=cell_lt (h 0 _ rfl)
 rwa [add_block,add_block] at this
theorem own_atN {n:Nat} {w:World} {base:Nat} {e:TypeId} {ko:Option Addr} {m kc:Nat} {α:Type} (f:α->List Value) (hf:∀ a,(f a).length=n) {ys:List α} (hm:m=ys.length) (h:w.ownsRow base e n (.slice ko m kc) m (ys.flatMap f)) (i:Nat) (hi:i<ys.length):AtN n w ko i (f ys[i]):=by
 have hfl:∀ (l:List α) (i j:Nat) (hi:i<l.length),j<n->(l.flatMap f)[i*n+j]?=(f l[i])[j]?:=by
  intro l
  induction l with
  | nil=>intro i j hi;simp at hi
  | cons a l ih =>
   intro i j hi hj;rw[List.flatMap_cons]
   cases i with
   | zero=>rw[Nat.zero_mul,Nat.zero_add,List.getElem?_append_left (by rw[hf];exact hj)];rfl
   | succ i =>
    rw[List.getElem?_append_right (by rw[hf,Nat.add_mul];omega),hf,show (i+1)*n+j - n=i*n+j by rw[Nat.add_mul];omega,List.getElem_cons_succ];exact ih i j (by simpa using hi) hj
 have hll:∀ l:List α,(l.flatMap f).length=l.length*n:=by
  intro l
  induction l with
  | nil=>simp
  | cons a l ih=>rw[List.flatMap_cons,lsa,ih,hf,lsc,Nat.add_mul];omega
 have h0:=h;rcases h.2 with ⟨hv,h1⟩ | ⟨g,cap,cur,hv,hb,hg,h1,h2,h3,h4⟩
 ·omega
 injection hv with e1 e2 e3;subst e1 e3;refine⟨_,rfl,fun j v hj=>?_⟩;have hjn:j<n:=by have:=(List.getElem?_eq_some_iff.1 hj).1;rwa [hf] at this
 rw[add_lit,add_lit,Nat.zero_add,World.ownsRow.cellAt h0 (i*n+j) (by
  rw[hm]
  calc i*n+j<i*n+n:=by omega
   _=(i+1)*n:=by rw[Nat.add_mul];omega
   _<=ys.length*n:=Nat.mul_le_mul_right _ hi),hfl ys i j hi hjn]
 exact hj
theorem infoParam:(Tryz.prog.info? 48).map (fun i=>(i.zero,i.size,i.bytes))=some (some (.agg #[.string ⟨#[]⟩,.int .i64 0,.bool false,.int .i64 0,.string ⟨#[]⟩,.string ⟨#[]⟩,.bool false,.slice none 0 0,.slice none 0 0,.int .i64 0,.int .i64 0,.int .i64 0,.int .i64 0]),13,160):=by kernel_rfl
structure El (α:Type) where
 e:TypeId
 n:Nat
 f:α->List Value
 R:World->(Nat->Prop)->α->Prop
 pos:0<n
 len:∀ a,(f a).length=n
 one:∀ a,∀ u ∈ f a,u.oneCell'=true
 keep:∀ {w w':World} {S:Nat->Prop} {a:α},(∀ g,S g->w'.heap[g]?=w.heap[g]?)->R w S a->R w' S a
 mono:∀ {w:World} {S S':Nat->Prop} {a:α},(∀ g,S g->S' g)->R w S a->R w S' a
 lt:∀ {w:World} {S:Nat->Prop} {a:α},R w S a->R w (fun g=>S g/\g<w.heap.size) a
 noAt:e≠116
section
variable {α:Type} (E:El α)
theorem El.below {w w':World} {S:Nat->Prop} {a:α} (h:E.R w S a) (hb:Below w.heap.size w w'):E.R w' S a:=E.mono (fun _ h=>h.1) (E.keep (fun g hg=>hb.block g hg.2) (E.lt h))
theorem El.grown {w w':World} {S:Nat->Prop} {a:α} {r:Option Nat} (h:E.R w S a) (hg:w.grownBy w' r) (hS:∀ b,S b->r≠some b):E.R w' S a:=
 E.mono (fun _ h=>h.1) (E.keep (fun q hq=>hg.block q hq.2 (fun e=>hS q hq.1 e.symm)) (E.lt h))
def El.Row (w:World) (B:Nat) (S:Nat->Prop) (v:Value) (el:List α):Prop:=w.ownsRow B E.e E.n v el.length (el.flatMap E.f)/\∀ a ∈ el,E.R w (fun b=>S b/\v.ownBlock≠some b) a
variable {E}
theorem El.Row.nil (w:World) (B:Nat) (S:Nat->Prop):E.Row w B S (.slice none 0 0) []:=⟨World.ownsRow_nil _ _ _ _,fun q h=>by cases h⟩
theorem El.Row.form {w:World} {B:Nat} {S:Nat->Prop} {v:Value} {el:List α} (h:E.Row w B S v el):∃ ko kc,v=.slice ko el.length kc/\el.length<=kc:=own_form h.1
theorem El.Row.ge {w:World} {B:Nat} {S:Nat->Prop} {v:Value} {el:List α} (h:E.Row w B S v el) {j:Nat} (hj:v.ownBlock=some j):B<=j/\j<w.heap.size:=World.ownsRow.lt h.1 j hj
theorem El.Row.grown {w w':World} {B g:Nat} {S:Nat->Prop} {v:Value} {el:List α} (h:E.Row w B S v el) (hg:w.grownBy w' (some g)) (h1:g<B) (h2:¬ S g):E.Row w' B S v el:=by
 refine⟨World.ownsRow.kept h.1 hg ?_,fun q hq=>E.grown (h.2 q hq) hg (fun b hb e=>h2 (by injection e with e;rw[e];exact hb.1))⟩
 cases hv:v.ownBlock with
 | none=>exact .inl rfl
 | some j=>exact .inr (fun e=>by injection e with e;have:=(h.ge hv).1;omega)
theorem El.Row.below {w w':World} {B:Nat} {S:Nat->Prop} {v:Value} {el:List α} (h:E.Row w B S v el) (hb:Below w.heap.size w w'):E.Row w' B S v el:=by
 refine⟨?_,fun q hq=>E.below (h.2 q hq) hb⟩;rcases hr:v.ownBlock with _ | j
 ·exact World.ownsRow.kept h.1 (below_grown hb none) (.inl hr)
 exact World.ownsRow.kept h.1 (below_grown hb none) (.inr (by rw[hr];intro e;cases e))
theorem El.Row.kR {w w':World} {B k:Nat} {S:Nat->Prop} {v:Value} {el:List α} {o:Obj} (h:E.Row w B S v el) (hg:w.grownBy w' v.ownBlock) (hk:k<B) (hb:Hid (w.heap[k]?=some o)):Hid (w'.heap[k]?=some o):=
 h_ ((hg.block _ (lt_of_block hb.out) (fun e=>by have:=(h.ge e.symm).1;omega)).trans hb.out)
theorem El.Row.dR {we w w':World} {B g:Nat} {S:Nat->Prop} {v:Value} {el:List α} (h:E.Row w B S v el) (hg:w.grownBy w' v.ownBlock) (hB:we.heap.size<=B) (hd:Hid (we.grownBy w (some g))):Hid (we.grownBy w' (some g)):=by
 have hd:=hd.out
 exact h_ ⟨hg.os.trans hd.os,hg.tape.trans hd.tape,hg.output.trans hd.output,Nat.le_trans hd.size hg.size,fun k hk hn=>by
  rw[hg.block k (Nat.lt_of_lt_of_le hk hd.size) (fun e=>by have:=(h.ge e.symm).1;omega)];exact hd.block k hk hn⟩
theorem El.Row.ps {w w':World} {B g:Nat} {S:Nat->Prop} {v:Value} {el:List α} {s:St} (h:E.Row w B S v el) (hg:w.grownBy w' v.ownBlock) (hB:g<B) (hp:PS w g s):PS w' g s:=by
 refine⟨hp.1.keepAll (fun k hk=>?_) hg.size,hp.2⟩
 by_cases e:v.ownBlock=some k
 ·refine .inr ⟨by have:=(h.ge e).1;omega,?_⟩;rcases h.1.2 with ⟨h,-⟩ | ⟨q,c0,cur,hv,-,hq,-⟩
  ·rw[h] at e;cases e
  rw[hv] at e;have:q=k:=by simpa [Value.ownBlock] using e
  subst this;exact⟨_,_,hq,E.noAt⟩
 exact .inl (hg.block k hk (fun h=>e h.symm))
theorem El.Row.ops {w w':World} {B g:Nat} {S:Nat->Prop} {v:Value} {el:List α} (h:E.Row w B S v el) (hg:w.grownBy w' v.ownBlock) (hB:g<B) (hp:GOps w g):GOps w' g:=
 ⟨fun j u hu=>by
  have hc:=hp.1 j u hu
  rw[World.cell?_of_block (hg.block _ (cell_lt hc) (fun e=>by have:=(h.ge e.symm).1;have:=hp.2;simp only at *;omega))];exact hc,hp.2⟩
def El.At (E:El α) (w:World) (S:Nat->Prop) (v:Value) (el:List α):Prop:=∃ ko kc,v=.slice ko el.length kc/\(el.length<=kc/\kc<=maxLen)/\(el.length≠0->∀ a,ko=some a->S a.block)/\∀ i (h:i<el.length),AtN E.n w ko i (E.f el[i])/\E.R w S el[i]
theorem El.At.keep {w w':World} {S:Nat->Prop} {v:Value} {el:List α} (hk:∀ g,S g->w'.heap[g]?=w.heap[g]?) (h:E.At w S v el):E.At w' S v el:=by
 obtain⟨ko,kc,rfl,h1,h2,h3⟩:=h;exact⟨ko,kc,rfl,h1,h2,fun i hi=>⟨(h3 i hi).1.keep fun a ha=>hk _ (h2 (by omega) a ha),E.keep hk (h3 i hi).2⟩⟩
theorem El.At.mono {w:World} {S S':Nat->Prop} {v:Value} {el:List α} (hs:∀ g,S g->S' g) (h:E.At w S v el):E.At w S' v el:=by
 obtain⟨ko,kc,rfl,h1,h2,h3⟩:=h;exact⟨ko,kc,rfl,h1,fun h0 a ha=>hs _ (h2 h0 a ha),fun i hi=>⟨(h3 i hi).1,E.mono hs (h3 i hi).2⟩⟩
theorem El.At.lt {w:World} {S:Nat->Prop} {v:Value} {el:List α} (h:E.At w S v el):E.At w (fun g=>S g/\g<w.heap.size) v el:=by
 obtain⟨ko,kc,rfl,h1,h2,h3⟩:=h;refine⟨ko,kc,rfl,h1,fun h0 a ha=>⟨h2 h0 a ha,?_⟩,fun i hi=>⟨(h3 i hi).1,E.lt (h3 i hi).2⟩⟩;have h:=(h3 0 (by omega)).1
 cases hf:E.f (el[0]'(by omega)) with
 | nil=>have:=E.len (el[0]'(by omega));rw[hf] at this;have:=E.pos;simp at *;omega
 | cons c cs=>rw[hf] at h;exact h.lt a ha
theorem El.At.below {w w':World} {S:Nat->Prop} {v:Value} {el:List α} (h:E.At w S v el) (hb:Below w.heap.size w w'):E.At w' S v el:=(El.At.keep (fun g hg=>hb.block g hg.2) h.lt).mono fun _ h=>h.1
theorem El.At.grown {w w':World} {S:Nat->Prop} {v:Value} {el:List α} {r:Option Nat} (h:E.At w S v el) (hg:w.grownBy w' r) (hS:∀ b,S b->r≠some b):E.At w' S v el:=
 (El.At.keep (fun q hq=>hg.block q hq.2 (fun e=>hS q hq.1 e.symm)) h.lt).mono fun _ h=>h.1
theorem El.Row.at {w:World} {B:Nat} {S S':Nat->Prop} {v:Value} {el:List α} (h:E.Row w B S v el) (h1:∀ b,S b->S' b) (h2:∀ b,B<=b->S' b):E.At w S' v el:=by
 obtain⟨ho,hr⟩:=h;obtain⟨ko,kc,rfl,-⟩:=own_form ho;refine⟨ko,kc,rfl,?_,fun h0 a ha=>h2 _ ?_,fun i hi=>⟨own_atN E.f E.len rfl ho i hi,E.mono (fun b h=>h1 b h.1) (hr _ (List.getElem_mem hi))⟩⟩
 ·rcases ho.2 with ⟨h,h0⟩ | ⟨q,cap,cur,h,-,-,h1,h2,-⟩
  ·injection h with _ _ h;subst h;rw[h0];exact⟨Nat.le_refl _,Nat.zero_le _⟩
  injection h with _ _ h;subst h;exact⟨h1,h2⟩
 subst ha;exact (World.ownsRow.lt ho a.block rfl).1
theorem El.Row.append {w:World} {B:Nat} {S:Nat->Prop} {v:Value} {el:List α} (h:E.Row w B S v el) {ops:Array Oper} {rest:List Oper} {o:Oper} {a:Act} {Q:Exit->Act->World->Prop} (hgd:o.guard=none) (s x:Operand) (t:TypeId)
  (ho:o.op=.call { callee:=.builtin .append,args:=#[s,x],argTypes:=#[t,t] }) (ht:Tryz.prog.underlying t=some (.slice E.e)) {z:Value} {bytes:Nat} (hinfo:(Tryz.prog.info? E.e).map (fun i=>(i.zero,i.size,i.bytes))=some (some z,E.n,bytes)) (hzs:z.cells.size=E.n) (hby:bytes<=1000)
  (hs:a.eval s=v) (u:α) (k:Nat) (T:TypeId) (hx:a.eval x=.slice (some ⟨k,0,none⟩) 1 1) (hc:w.heap[k]?=some (.cells (E.f u).toArray T (0,0))) (hu:E.R w (fun b=>S b/\v.ownBlock≠some b) u) (hlen:el.length<=1000000) (hB:B<=w.heap.size)
  (hK:∀ v' w',E.Row w' B S v' (el++[u])->w.grownBy w' v.ownBlock->wpList Tryz.prog ops Q rest (a.put o.dst v') w'):wpList Tryz.prog ops Q (o::rest) a w:=by
 refine wpList_append_el w hgd s x t ho E.e ht hinfo hzs E.pos hby B v el.length (el.flatMap E.f) hs h.1 k T (E.f u) (E.len u) (E.one u) hx hc hlen hB fun v' w' h1 h2 h3=>hK v' w' ⟨?_,?_⟩ h2
 ·rw[lsa,List.flatMap_append];simpa using h1
 have key:∀ q,E.R w (fun b=>S b/\v.ownBlock≠some b) q->E.R w' (fun b=>S b/\v'.ownBlock≠some b) q:=fun q hq =>
  E.mono (S:=fun b=>(S b/\v.ownBlock≠some b)/\b<w.heap.size) (fun b hb=>⟨hb.1.1,fun e=>by rcases h3 b e with h | h;exact hb.1.2 h;omega⟩) (E.keep (fun g hg=>h2.block g hg.2 (fun e=>hg.1.2 e.symm)) (E.lt hq))
 intro q hq;rcases List.mem_append.1 hq with hq | hq
 ·exact key q (h.2 q hq)
 rw[List.mem_singleton] at hq;subst hq;exact key _ hu
end
def pmE:El (PmU × X) where
 e:=48
 n:=13
 f q:=pmC q.1 q.2
 R w S q:=Um w S q.2 q.1.ref
 pos:=by decide
 len _:=rfl
 one q:=by
  intro u hu;simp only[pmC,List.mem_cons,List.not_mem_nil,or_false] at hu;rcases hu with rfl | rfl | rfl | rfl | rfl | rfl | rfl | rfl | rfl | rfl | rfl | rfl | rfl<;>rfl
 keep h k:=k.keep h
 mono h k:=k.mono h
 lt k:=k.lt
 noAt:=by decide
end Go.Proofs.YtkocdbgmckdcpaaGreatDoor
namespace Go.Proofs.YtkocdbgmckdcpaaGreatDoor
set_option maxRecDepth 100000
set_option linter.unusedVariables false
theorem placed_bd {s:Bs} {p:Nat × Nat}:∀ {ts:List Tok} {off:Nat},Placed s p off ts->∀ t ∈ ts,t.line<=p.1+s.length/\t.col<=p.2+1+s.length/\t.text.length<=s.length
 | [],_,_,t,ht=>by simp at ht
 | u::us,off,h,t,ht=>by
  obtain⟨o,h1,h2,h3,h4,h5,h6⟩:=h;rcases List.mem_cons.1 ht with rfl | ht
  ·have:=adv_bd p (s.take o);rw[h3] at this;simp only[List.length_take] at this
   omega
  exact placed_bd h6 t ht
theorem toks_mem {l:Bs} (hl:l.length<=3000):(lexS l (1,1)).1.length<=3001:=by
 have:=(lex_sum l (1,1)).1
 omega
def TBs (s:St):Prop:=∀ t ∈ s.rest,t.line<=1000000000/\t.col<=1000000000/\t.text.length<=3000
theorem TBs.nx {s:St} (h:TBs s):s.nx.line<=1000000000/\s.nx.col<=1000000000/\s.nx.text.length<=3000:=by
 unfold St.nx;obtain⟨rest,err⟩:=s
 match rest,h with
 | [],_=>simp[tk0]
 | t::ts,h=>exact h t (by simp)
theorem TBs.tk {s:St} (h:TBs s):TBs s.tk:=by unfold St.tk;split;exact h;exact fun t ht=>h t (List.mem_of_mem_drop ht)
theorem TBs.fail {s:St} (h:TBs s) (t:Tok) (c:Nat):TBs (s.fail t c):=fun t ht=>h t (List.mem_of_mem_drop ht)
theorem TBs.exp {s:St} (h:TBs s) (w:Bs):TBs (s.exp w):=by unfold St.exp;split;exact h.tk;exact h.fail _ _
theorem TBs.name {s:St} (h:TBs s):TBs s.name:=by unfold St.name;split;exact h.tk;exact h.tk.fail _ _
def E12 (s:St):Prop:=∀ x,s.err=some x->x.1=1\/x.1=2
theorem E12.tk {s:St} (h:E12 s):E12 s.tk:=by unfold St.tk;split;exact h;exact h
theorem E12.fail {s:St} (h:E12 s) (t:Tok) {c:Nat} (hc:c=1\/c=2):E12 (s.fail t c):=by
 intro x hx;unfold St.fail at hx;simp only at hx
 cases he:s.err with
 | none=>rw[he,Option.none_or] at hx;injection hx with hx;subst hx;exact hc
 | some y=>rw[he,Option.some_or] at hx;injection hx with hx;subst hx;exact h _ he
theorem E12.exp {s:St} (h:E12 s) (w:Bs):E12 (s.exp w):=by unfold St.exp;split;exact h.tk;exact h.fail _ (.inl rfl)
theorem E12.name {s:St} (h:E12 s):E12 s.name:=by unfold St.name;split;exact h.tk;exact h.tk.fail _ (.inl rfl)
def GT (s:St):Prop:=GoodL s.rest/\TBs s/\E12 s
theorem GT.tk {s:St} (h:GT s):GT s.tk:=⟨good_tk h.1,h.2.1.tk,h.2.2.tk⟩
theorem GT.fail {s:St} (h:GT s) (t:Tok) {c:Nat} (hc:c=1\/c=2):GT (s.fail t c):=⟨good_fail h.1 t c,h.2.1.fail t c,h.2.2.fail t hc⟩
theorem GT.exp {s:St} (h:GT s) (w:Bs):GT (s.exp w):=⟨good_exp h.1 w,h.2.1.exp w,h.2.2.exp w⟩
theorem GT.name {s:St} (h:GT s):GT s.name:=⟨good_name h.1,h.2.1.name,h.2.2.name⟩
theorem GT.l {s:St} (h:GT s):s.nx.line<=1000000000:=h.2.1.nx.1
theorem GT.c {s:St} (h:GT s):s.nx.col<=1000000000:=h.2.1.nx.2.1
theorem GT.t {s:St} (h:GT s):s.nx.text.length<=3000:=h.2.1.nx.2.2
def Zb (z:Nat):Prop:=∃ m,m<=300/\z<L32 ^ m
theorem zb_zero:Zb 0:=⟨0,by decide,by decide⟩
theorem zb_dn {l:Bs} (h:Numeral l):Zb (dn l):=⟨l.length,h.2.1,Nat.lt_of_lt_of_le (dn_lt h.2.2.2) (Nat.pow_le_pow_left (by decide) _)⟩
mutual
def Bnd:U->Prop
 | .node k nm ot z ln cl ks=>(k<29/\(k=24\/ks.length=ar k))/\(nm.length<=3000/\ot.length<=3000/\Zb z)/\(ln<=1000000000/\cl<=1000000000)/\Bnds ks
def Bnds:List U->Prop
 | []=>True
 | u::us=>Bnd u/\Bnds us
end
theorem bnds_mem {us:List U} (h:Bnds us) {u:U} (hu:u ∈ us):Bnd u:=by
 induction us with
 | nil=>simp at hu
 | cons v us ih =>
  rw[Bnds] at h;rcases List.mem_cons.1 hu with rfl | hu
  ·exact h.1
  exact ih h.2 hu
theorem bnds_app {a b:List U} (ha:Bnds a) (hb:Bnds b):Bnds (a++b):=by
 induction a with
 | nil=>exact hb
 | cons u a ih=>rw[Bnds] at ha;rw[List.cons_append,Bnds];exact⟨ha.1,ih ha.2⟩
theorem bnd_u0:Bnd u0:=by unfold u0;rw[Bnd];exact⟨⟨by decide,.inr rfl⟩,⟨by decide,by decide,zb_zero⟩,⟨by decide,by decide⟩,by rw[Bnds];trivial⟩
theorem bnd_prt {k:Nat} {s:St} {ks:List U} (h:GT s) (hk:k<29) (ha:k=24\/ks.length=ar k) (hs:Bnds ks):Bnd (prt k s.nx ks):=by
 unfold prt;rw[Bnd];exact⟨⟨hk,ha⟩,⟨by decide,by decide,zb_zero⟩,⟨h.l,h.c⟩,hs⟩
theorem bnd_nmd {k:Nat} {s:St} {ks:List U} (h:GT s) (hk:k<29) (ha:k=24\/ks.length=ar k) (hs:Bnds ks):Bnd (nmd k s.nx ks):=by
 unfold nmd;rw[Bnd];exact⟨⟨hk,ha⟩,⟨h.t,by decide,zb_zero⟩,⟨h.l,h.c⟩,hs⟩
theorem bnds0:Bnds []:=by rw[Bnds];trivial
theorem bnds1 {a:U} (h:Bnd a):Bnds [a]:=by rw[Bnds];exact⟨h,bnds0⟩
theorem bnds2 {a b:U} (h:Bnd a) (k:Bnd b):Bnds [a,b]:=by rw[Bnds];exact⟨h,bnds1 k⟩
theorem bnds3 {a b c:U} (h:Bnd a) (k:Bnd b) (l:Bnd c):Bnds [a,b,c]:=by rw[Bnds];exact⟨h,bnds2 k l⟩
theorem bop_ar {w:Bs} {op:Bop} (h:bopOf w=some op):op.kind<29/\2=ar op.kind:=
 (show ∀ op ∈ bops,op.kind<29/\2=ar op.kind by decide) op (List.mem_of_find?_eq_some h)
theorem un_ar {w:Bs} {k:Nat} (h:unOf w=some k):k<29/\1=ar k:=by
 unfold unOf at h
 split at h;(injection h with h;subst h;decide)
 split at h;(injection h with h;subst h;decide)
 split at h;(injection h with h;subst h;decide)
 split at h;(injection h with h;subst h;decide)
 split at h;(injection h with h;subst h;decide)
 cases h
abbrev BG (x:U × St):Prop:=Bnd x.1/\GT x.2
theorem c_bnd (n:Nat):(∀ s x,GT s->cExpr n s=some x->BG x)/\(∀ s x,GT s->cLet n s=some x->BG x)/\(∀ s x,GT s->cIf n s=some x->BG x)/\(∀ s x,GT s->cMatch n s=some x->BG x)/\(∀ s x,GT s->cAssert n s=some x->BG x) /\
  (∀ l s x,GT s->cBin n l s=some x->BG x)/\(∀ l e v s x,GT s->Bnd e->cLoop n l e v s=some x->BG x)/\(∀ s x,GT s->cOne n s=some x->BG x)/\(∀ s x,GT s->cAtom n s=some x->BG x)/\(∀ s x,GT s->cArgs n s=some x->Bnds x.1/\GT x.2)/\(∀ l s x,GT s->Bnds l->cMore n l s=some x->Bnds x.1/\GT x.2):=by
 induction n with
 | zero=>refine⟨?_,?_,?_,?_,?_,?_,?_,?_,?_,?_,?_⟩<;>intros<;>simp_all [cExpr,cLet,cIf,cMatch,cAssert,cBin,cLoop,cOne,cAtom,cArgs,cMore]
 | succ n ih =>
  obtain⟨i1,i2,i3,i4,i5,i6,i7,i8,i9,i10,i11⟩:=ih;refine⟨?_,?_,?_,?_,?_,?_,?_,?_,?_,?_,?_⟩
  ·intro s x g h;rw[cExpr] at h
   split at h;exact i2 _ _ g h
   split at h;exact i3 _ _ g h
   split at h;exact i4 _ _ g h
   split at h;exact i5 _ _ g h
   exact i6 _ _ _ g h
  ·intro s x g h;rw[cLet] at h;simp only[Option.bind_eq_some_iff] at h;obtain⟨r1,h1,r2,h2,h3⟩:=h;injection h3 with h3;subst h3;have a1:=i1 _ _ (g.tk.name.exp _) h1;have a2:=i1 _ _ (a1.2.exp _) h2;exact⟨by rw[Bnd];exact⟨⟨by decide,.inr rfl⟩,⟨g.tk.t,by decide,zb_zero⟩,⟨g.l,g.c⟩,bnds2 a1.1 a2.1⟩,a2.2⟩
  ·intro s x g h;rw[cIf] at h;simp only[Option.bind_eq_some_iff] at h;obtain⟨r1,h1,r2,h2,r3,h3,h4⟩:=h;injection h4 with h4;subst h4;have a1:=i1 _ _ g.tk h1;have a2:=i1 _ _ (a1.2.exp _) h2;have a3:=i1 _ _ (a2.2.exp _) h3;exact⟨bnd_prt g (by decide) (.inr rfl) (bnds3 a1.1 a2.1 a3.1),a3.2⟩
  ·intro s x g h;rw[cMatch] at h;simp only[Option.bind_eq_some_iff] at h;obtain⟨r1,h1,r2,h2,r3,h3,h4⟩:=h;injection h4 with h4;subst h4;have a1:=i1 _ _ g.tk h1;have a2:=i1 _ _ (((a1.2.exp _).exp _).exp _) h2;have a3:=i1 _ _ (((((a2.2.exp _).name).exp _).name).exp _) h3;exact⟨by rw[Bnd];exact⟨⟨by decide,.inr rfl⟩,⟨(a2.2.exp _).t,(((a2.2.exp _).name).exp _).t,zb_zero⟩,⟨g.l,g.c⟩,bnds3 a1.1 a2.1 a3.1⟩,a3.2⟩
  ·intro s x g h;rw[cAssert] at h;simp only[Option.bind_eq_some_iff] at h;obtain⟨r1,h1,r2,h2,h3⟩:=h;injection h3 with h3;subst h3;have a1:=i1 _ _ g.tk h1;have a2:=i1 _ _ (a1.2.exp _) h2;exact⟨bnd_prt g (by decide) (.inr rfl) (bnds2 a1.1 a2.1),a2.2⟩
  ·intro l s x g h;rw[cBin,Option.bind_eq_some_iff] at h;obtain⟨r1,h1,h2⟩:=h;have a1:=i8 _ _ g h1;exact i7 _ _ _ _ _ a1.2 a1.1 h2
  ·intro l e v s x g hE h;rw[cLoop] at h
   split at h
   ·injection h with h;subst h;exact⟨hE,g⟩
   rename_i op hop
   split at h
   ·injection h with h;subst h;exact⟨hE,g⟩
   rw[Option.bind_eq_some_iff] at h;obtain⟨r1,h1,h2⟩:=h;have a1:=i6 _ _ _ g.tk h1;have hb:=bop_ar hop;exact i7 _ (prt op.kind s.nx [e,r1.1]) _ _ _ a1.2 (bnd_prt g hb.1 (.inr hb.2) (bnds2 hE a1.1)) h2
  ·intro s x g h;rw[cOne] at h
   split at h
   ·exact i9 _ _ g h
   rename_i k hk
   rw[Option.bind_eq_some_iff] at h;obtain⟨r1,h1,h2⟩:=h;injection h2 with h2;subst h2;have a1:=i8 _ _ g.tk h1;have hb:=un_ar hk;exact⟨bnd_prt g hb.1 (.inr hb.2) (bnds1 a1.1),a1.2⟩
  ·intro s x g h;rw[cAtom] at h
   split at h
   ·rename_i hk
    injection h with h;subst h;exact⟨by rw[Bnd];exact⟨⟨by decide,.inr rfl⟩,⟨by decide,by decide,zb_dn ((g.1.head).k1 hk).2⟩,⟨g.l,g.c⟩,bnds0⟩,g.tk⟩
   split at h
   ·split at h
    ·rw[Option.bind_eq_some_iff] at h;obtain⟨r1,h1,h2⟩:=h;injection h2 with h2;subst h2;have a1:=i10 _ _ g.tk.tk h1;exact⟨bnd_nmd g (by decide) (.inl rfl) a1.1,a1.2⟩
    injection h with h;subst h;exact⟨bnd_nmd g (by decide) (.inr rfl) bnds0,g.tk⟩
   split at h
   ·injection h with h;subst h;exact⟨bnd_nmd g (by decide) (.inr rfl) bnds0,g.tk⟩
   split at h
   ·injection h with h;subst h;exact⟨bnd_prt g (by decide) (.inr rfl) bnds0,g.tk⟩
   split at h
   ·injection h with h;subst h;exact⟨bnd_prt g (by decide) (.inr rfl) bnds0,g.tk⟩
   split at h
   ·injection h with h;subst h;exact⟨bnd_prt g (by decide) (.inr rfl) bnds0,g.tk⟩
   split at h
   ·rw[Option.bind_eq_some_iff] at h;obtain⟨r1,h1,h2⟩:=h;injection h2 with h2;subst h2;have a1:=i1 _ _ g.tk h1;exact⟨a1.1,a1.2.exp _⟩
   injection h with h;subst h;exact⟨bnd_u0,g.tk.fail _ (.inl rfl)⟩
  ·intro s x g h;rw[cArgs] at h
   split at h
   ·injection h with h;subst h;exact⟨bnds0,g.tk⟩
   rw[Option.bind_eq_some_iff] at h;obtain⟨r1,h1,h2⟩:=h;have a1:=i1 _ _ g h1;exact i11 _ _ _ a1.2 (bnds1 a1.1) h2
  intro l s x g hl h;rw[cMore] at h
  split at h
  ·rw[Option.bind_eq_some_iff] at h;obtain⟨r1,h1,h2⟩:=h;have a1:=i1 _ _ g.tk h1;exact i11 _ _ _ a1.2 (bnds_app hl (bnds1 a1.1)) h2
  injection h with h;subst h;exact⟨hl,g.exp _⟩
theorem gt_st0 (l:Bs) (hl:l.length<=3000) (h0:(lexS l (1,1)).2=0):GT (st0 l):=
 ⟨lex_good l (1,1) h0,fun t ht=>by
  have:=placed_bd (lex_placed l (1,1) h0) t ht;simp only at this
  exact⟨by omega,by omega,by omega⟩,fun x hx=>by cases hx⟩
theorem all_gt {n:Nat} {s:St} {x:U × St} (g:GT s) (h:cAll n s=some x):BG x:=by
 unfold cAll at h;rw[Option.bind_eq_some_iff] at h;obtain⟨r,h1,h2⟩:=h;injection h2 with h2;subst h2;have:=(c_bnd n).1 _ _ g h1;refine⟨this.1,?_⟩;simp only
 split
 ·exact this.2.fail _ (.inr rfl)
 exact this.2
def PmB (p:PmU):Prop:=p.nm.length<=3000/\p.b<=2/\p.ln<=1000000000/\p.cl<=1000000000/\Bnd p.ref
def QlB (q:QlU):Prop:=q.nm.length<=3000/\(∀ p ∈ q.ps,PmB p)/\Bnd q.body/\q.ln<=1000000000/\q.cl<=1000000000
def FnB (f:FnU):Prop:=f.nm.length<=3000/\(∀ p ∈ f.ps,PmB p)/\PmB f.res/\Bnd f.body/\f.ln<=1000000000/\f.cl<=1000000000
def PgB (p:PgU):Prop:=(∀ q ∈ p.qs,QlB q)/\(∀ f ∈ p.fs,FnB f)
abbrev Sh (s s':St):Prop:=GT s'/\s'.rest.length<=s.rest.length
theorem Sh.exp {s t:St} (h:Sh s t) (w:Bs):Sh s (t.exp w):=⟨h.1.exp w,Nat.le_trans (len_exp t w) h.2⟩
theorem Sh.name {s t:St} (h:Sh s t):Sh s t.name:=⟨h.1.name,Nat.le_trans (len_name t) h.2⟩
theorem Sh.counted {s t:St} (h:Sh s t) (k l:Nat):Sh s (t.counted k l):=by
 unfold St.counted
 split
 ·exact⟨h.name.1.fail _ (.inr rfl),Nat.le_trans (len_fail _ _ _) h.name.2⟩
 exact h.name
theorem Sh.tk {s t:St} (h:Sh s t):Sh s t.tk:=⟨h.1.tk,Nat.le_trans (len_tk t) h.2⟩
theorem Sh.tr {s t u:St} (h:Sh s t) (k:Sh t u):Sh s u:=⟨k.1,Nat.le_trans k.2 h.2⟩
theorem Sh.rfl' {s:St} (h:GT s):Sh s s:=⟨h,Nat.le_refl _⟩
theorem Sh.base {s t:St} (h:Sh s t):Sh s (cBase t).2/\(cBase t).1<=2:=by
 unfold cBase
 split
 ·exact⟨h.tk,Nat.le_of_ble_eq_true rfl⟩
 split
 ·exact⟨h.tk,Nat.le_of_ble_eq_true rfl⟩
 split
 ·exact⟨h.tk,Nat.le_of_ble_eq_true rfl⟩
 exact⟨⟨h.tk.1.fail _ (.inl rfl),Nat.le_trans (len_fail _ _ _) h.tk.2⟩,Nat.le_of_ble_eq_true rfl⟩
theorem all_c {n:Nat} {s:St} (g:GT s) (hn:8*s.rest.length+7<=n):∃ x,cAll n s=some x/\Bnd x.1/\Sh s x.2:=by
 obtain⟨y,hy⟩:=Option.isSome_iff_exists.1 ((c_tot n).1 s g.1 hn);have hx:cAll n s=some (y.1,if 60<ud y.1 then y.2.fail s.nx 2 else y.2):=by unfold cAll;rw[hy];rfl
 have hb:=all_gt g hx;refine⟨_,hx,hb.1,hb.2,?_⟩;have:=(c_len n).1 _ _ hy;simp only
 split
 ·exact Nat.le_trans (len_fail _ _ _) this
 exact this
theorem ref_c {n:Nat} {p:PmU} {s:St} (hp:PmB p) (g:GT s) (hn:8*s.rest.length+7<=n):∃ x,cRef n p s=some x/\PmB x.1/\Sh s x.2:=by
 unfold cRef
 split
 ·obtain⟨x,h1,h2,h3⟩:=all_c (n:=n) g.tk (by have:=len_tk s;omega);refine⟨_,by rw[h1];rfl,⟨hp.1,hp.2.1,hp.2.2.1,hp.2.2.2.1,h2⟩,((Sh.rfl' g).tk.tr h3).exp _⟩
 exact⟨_,rfl,hp,Sh.rfl' g⟩
theorem typ_b {s:St} (g:GT s) {nm:Bs} (hn:nm.length<=3000) {b:Nat} (hb:b<=2):PmB (typ nm s.nx b):=⟨hn,hb,g.l,g.c,bnd_u0⟩
theorem var_c {s:St} (g:GT s):PmB (cVar s).1/\Sh s (cVar s).2:=by
 have h:=(((Sh.rfl' g).exp wV).exp wColon).base;exact⟨typ_b g g.t h.2,h.1⟩
theorem param_c {s:St} (g:GT s) (k:Nat):PmB (cParam k s).1/\Sh s (cParam k s).2:=by
 have h:=(((Sh.rfl' g).counted k 6).exp wColon).base;exact⟨typ_b g g.t h.2,h.1⟩
theorem res_c {n:Nat} {s:St} (g:GT s) (hn:8*s.rest.length+7<=n):∃ x,cRes n s=some x/\PmB x.1/\Sh s x.2:=by
 have h:=(Sh.rfl' g).base;obtain⟨x,h1,h2,h3⟩:=ref_c (n:=n) (typ_b g (nm:=wV) (by decide) h.2) h.1.1 (by have:=h.1.2;omega);exact⟨x,h1,h2,h.1.tr h3⟩
theorem all_snoc {α:Type} {P:α->Prop} {l:List α} {a:α} (h:∀ x ∈ l,P x) (ha:P a):∀ x ∈ l++[a],P x:=by
 intro x hx;rcases List.mem_append.1 hx with hx | hx
 ·exact h x hx
 rw[List.mem_singleton.1 hx];exact ha
theorem qmore_c:∀ {m:Nat} {l:List PmU} {s:St},GT s->(∀ p ∈ l,PmB p)->s.rest.length<=m->∃ x,cQMore m l s=some x/\(∀ p ∈ x.1,PmB p)/\Sh s x.2:=by
 intro m
 induction m with
 | zero=>intro l s g hl hm;exact absurd (List.length_pos_iff.2 g.1.ne) (by omega)
 | succ m ih =>
  intro l s g hl hm;rw[cQMore]
  split
  ·rename_i hi
   have h1:=tk_one g.1 (kind_is g.1 (by decide) hi);obtain⟨hp,hs⟩:=param_c g.tk l.length;obtain⟨x,q1,q2,q3⟩:=ih (l:=l++[(cParam l.length s.tk).1]) hs.1 (all_snoc hl hp) (by have:=hs.2;omega);exact⟨x,q1,q2,((Sh.rfl' g).tk.tr hs).tr q3⟩
  exact⟨_,rfl,hl,Sh.rfl' g⟩
theorem fpar_c {n:Nat} {l:List PmU} {s:St} (g:GT s) (hl:∀ p ∈ l,PmB p) (hn:8*s.rest.length+7<=n):∃ x,cFPar n l s=some x/\(∀ p ∈ x.1,PmB p)/\Sh s x.2:=by
 obtain⟨hp,hs⟩:=param_c g l.length;obtain⟨x,q1,q2,q3⟩:=ref_c (n:=n) hp hs.1 (by have:=hs.2;omega);refine⟨(l++[x.1],x.2),by unfold cFPar;rw[q1];rfl,all_snoc hl q2,hs.tr q3⟩
theorem fmore_c:∀ {m n:Nat} {l:List PmU} {s:St},GT s->(∀ p ∈ l,PmB p)->s.rest.length<=m->8*s.rest.length+7<=n->∃ x,cFMore m n l s=some x/\(∀ p ∈ x.1,PmB p)/\Sh s x.2:=by
 intro m
 induction m with
 | zero=>intro n l s g hl hm;exact absurd (List.length_pos_iff.2 g.1.ne) (by omega)
 | succ m ih =>
  intro n l s g hl hm hn;rw[cFMore]
  split
  ·rename_i hi
   have h1:=tk_one g.1 (kind_is g.1 (by decide) hi);obtain⟨y,p1,p2,p3⟩:=fpar_c (n:=n) g.tk hl (by omega);obtain⟨x,q1,q2,q3⟩:=ih (n:=n) p3.1 p2 (by have:=p3.2;omega) (by have:=p3.2;omega);exact⟨x,by rw[p1];exact q1,q2,((Sh.rfl' g).tk.tr p3).tr q3⟩
  exact⟨_,rfl,hl,(Sh.rfl' g).exp _⟩
theorem fpars_c {m n:Nat} {s:St} (g:GT s) (hm:s.rest.length<=m) (hn:8*s.rest.length+7<=n):∃ x,cFPars m n s=some x/\(∀ p ∈ x.1,PmB p)/\Sh s x.2:=by
 unfold cFPars
 split
 ·exact⟨_,rfl,by simp,(Sh.rfl' g).tk⟩
 obtain⟨y,p1,p2,p3⟩:=fpar_c (n:=n) (l:=[]) g (by simp) hn;obtain⟨x,q1,q2,q3⟩:=fmore_c (m:=m) (n:=n) p3.1 p2 (by have:=p3.2;omega) (by have:=p3.2;omega);exact⟨x,by rw[p1];exact q1,q2,p3.tr q3⟩
theorem qual_c {m n k:Nat} {s:St} (g:GT s) (hm:s.rest.length<=m) (hn:8*s.rest.length+7<=n):∃ x,cQual m n k s=some x/\QlB x.1/\Sh s x.2:=by
 have h1:=((Sh.rfl' g).counted k 20).exp wOpen;obtain⟨hv,h2⟩:=var_c h1.1;obtain⟨x,q1,q2,q3⟩:=qmore_c (m:=m) (l:=[(cVar ((s.counted k 20).exp wOpen)).1]) h2.1 (by simpa using hv) (by have:=h2.2;have:=h1.2;omega);have h4:=((((h1.tr h2).tr q3).exp wClose).exp wColon)
 obtain⟨y,p1,p2,p3⟩:=all_c (n:=n) h4.1 (by have:=h4.2;omega);refine⟨(⟨s.nx.text,x.1,y.1,s.nx.line,s.nx.col⟩,y.2),?_,⟨g.t,q2,p2,g.l,g.c⟩,h4.tr p3⟩;unfold cQual;simp only[q1,Option.bind_some,p1]
theorem fun_c {m n k:Nat} {s:St} (g:GT s) (hm:s.rest.length<=m) (hn:8*s.rest.length+7<=n):∃ x,cFun m n k s=some x/\FnB x.1/\Sh s x.2:=by
 have h1:=((Sh.rfl' g).counted k 20).exp wOpen;obtain⟨x,q1,q2,q3⟩:=fpars_c (m:=m) (n:=n) h1.1 (by have:=h1.2;omega) (by have:=h1.2;omega);have h2:=(h1.tr q3).exp wColon;obtain⟨t,t1,t2,t3⟩:=res_c (n:=n) h2.1 (by have:=h2.2;omega);have h4:=(h2.tr t3).exp wEq;obtain⟨y,p1,p2,p3⟩:=all_c (n:=n) h4.1 (by have:=h4.2;omega);refine⟨(⟨s.nx.text,x.1,t.1,y.1,s.nx.line,s.nx.col⟩,y.2),?_,⟨g.t,q2,t2,p2,g.l,g.c⟩,h4.tr p3⟩;unfold cFun;simp only[q1,Option.bind_some,t1,p1]
theorem prog_c:∀ {m n:Nat} {p:PgU} {s:St},GT s->PgB p->s.rest.length<=m->8*s.rest.length+7<=n->∃ x,cProg m n p s=some x/\PgB x.1/\GT x.2:=by
 intro m
 induction m with
 | zero=>intro n p s g hp hm;exact absurd (List.length_pos_iff.2 g.1.ne) (by omega)
 | succ m ih =>
  intro n p s g hp hm hn;rw[cProg]
  split
  ·rename_i hi
   have h1:=tk_one g.1 (kind_is g.1 (by decide) hi);obtain⟨y,p1,p2,p3⟩:=qual_c (m:=m) (n:=n) (k:=p.qs.length) g.tk (by omega) (by omega);obtain⟨x,q1,q2,q3⟩:=ih (n:=n) (p:=⟨p.qs++[y.1],p.fs⟩) p3.1 ⟨all_snoc hp.1 p2,hp.2⟩ (by have:=p3.2;omega) (by have:=p3.2;omega);exact⟨x,by rw[p1];exact q1,q2,q3⟩
  split
  ·rename_i hi
   have h1:=tk_one g.1 (kind_is g.1 (by decide) hi);obtain⟨y,p1,p2,p3⟩:=fun_c (m:=m) (n:=n) (k:=p.fs.length) g.tk (by omega) (by omega);obtain⟨x,q1,q2,q3⟩:=ih (n:=n) (p:=⟨p.qs,p.fs++[y.1]⟩) p3.1 ⟨hp.1,all_snoc hp.2 p2⟩ (by have:=p3.2;omega) (by have:=p3.2;omega);exact⟨x,by rw[p1];exact q1,q2,q3⟩
  exact⟨_,rfl,hp,g⟩
theorem sq_succ (n:Nat):(n+1)*(n+1)=n*n+2*n+1:=by rw[Nat.add_mul,Nat.mul_add];omega
theorem ud_prt (k:Nat) (t:Tok) (ks:List U):ud (prt k t ks)=uds ks+1:=by unfold prt;rw[ud]
theorem ud_nmd (k:Nat) (t:Tok) (ks:List U):ud (nmd k t ks)=uds ks+1:=by unfold nmd;rw[ud]
theorem ud_u0:ud u0=1:=by unfold u0;rw[ud,uds]
theorem uds1 (a:U):uds [a]=ud a:=by rw[uds,uds];omega
theorem uds2 (a b:U):uds [a,b]=max (ud a) (ud b):=by rw[uds,uds1]
theorem uds3 (a b c:U):uds [a,b,c]=max (ud a) (max (ud b) (ud c)):=by rw[uds,uds2]
theorem c_ud (n:Nat):(∀ s x,cExpr n s=some x->ud x.1<=n*n)/\(∀ s x,cLet n s=some x->ud x.1<=n*n)/\(∀ s x,cIf n s=some x->ud x.1<=n*n)/\(∀ s x,cMatch n s=some x->ud x.1<=n*n)/\(∀ s x,cAssert n s=some x->ud x.1<=n*n) /\
  (∀ l s x,cBin n l s=some x->ud x.1<=n*n)/\(∀ l e v s x,cLoop n l e v s=some x->ud x.1<=max (ud e) (n*n)+n)/\(∀ s x,cOne n s=some x->ud x.1<=n*n)/\(∀ s x,cAtom n s=some x->ud x.1<=n*n)/\(∀ s x,cArgs n s=some x->uds x.1<=n*n)/\(∀ l s x,cMore n l s=some x->uds x.1<=max (uds l) (n*n)):=by
 induction n with
 | zero=>refine⟨?_,?_,?_,?_,?_,?_,?_,?_,?_,?_,?_⟩<;>intros<;>simp_all [cExpr,cLet,cIf,cMatch,cAssert,cBin,cLoop,cOne,cAtom,cArgs,cMore]
 | succ n ih =>
  obtain⟨i1,i2,i3,i4,i5,i6,i7,i8,i9,i10,i11⟩:=ih;have hq:=sq_succ n;rw[hq];generalize n*n=q at *;refine⟨?_,?_,?_,?_,?_,?_,?_,?_,?_,?_,?_⟩
  ·intro s x h;rw[cExpr] at h
   split at h;have:=i2 _ _ h;omega
   split at h;have:=i3 _ _ h;omega
   split at h;have:=i4 _ _ h;omega
   split at h;have:=i5 _ _ h;omega
   have:=i6 _ _ _ h;omega
  ·intro s x h;rw[cLet] at h;simp only[Option.bind_eq_some_iff] at h;obtain⟨r1,h1,r2,h2,h3⟩:=h;injection h3 with h3;subst h3;have a1:=i1 _ _ h1;have a2:=i1 _ _ h2;simp only[ud,uds2];omega
  ·intro s x h;rw[cIf] at h;simp only[Option.bind_eq_some_iff] at h;obtain⟨r1,h1,r2,h2,r3,h3,h4⟩:=h;injection h4 with h4;subst h4;have a1:=i1 _ _ h1;have a2:=i1 _ _ h2;have a3:=i1 _ _ h3;simp only[ud_prt,uds3];omega
  ·intro s x h;rw[cMatch] at h;simp only[Option.bind_eq_some_iff] at h;obtain⟨r1,h1,r2,h2,r3,h3,h4⟩:=h;injection h4 with h4;subst h4;have a1:=i1 _ _ h1;have a2:=i1 _ _ h2;have a3:=i1 _ _ h3;simp only[ud,uds3];omega
  ·intro s x h;rw[cAssert] at h;simp only[Option.bind_eq_some_iff] at h;obtain⟨r1,h1,r2,h2,h3⟩:=h;injection h3 with h3;subst h3;have a1:=i1 _ _ h1;have a2:=i1 _ _ h2;simp only[ud_prt,uds2];omega
  ·intro l s x h;rw[cBin,Option.bind_eq_some_iff] at h;obtain⟨r1,h1,h2⟩:=h;have a1:=i8 _ _ h1;have a2:=i7 _ _ _ _ _ h2
   omega
  ·intro l e v s x h;rw[cLoop] at h
   split at h
   ·injection h with h;subst h;simp only;omega
   split at h
   ·injection h with h;subst h;simp only;omega
   rw[Option.bind_eq_some_iff] at h;obtain⟨r1,h1,h2⟩:=h;have a1:=i6 _ _ _ h1;have a2:=i7 _ _ _ _ _ h2;simp only[ud_prt,uds2] at a2
   omega
  ·intro s x h;rw[cOne] at h
   split at h
   ·have:=i9 _ _ h;omega
   rw[Option.bind_eq_some_iff] at h;obtain⟨r1,h1,h2⟩:=h;injection h2 with h2;subst h2;have a1:=i8 _ _ h1;simp only[ud_prt,uds1];omega
  ·intro s x h;rw[cAtom] at h
   repeat' split at h
   all_goals first
    | (injection h with h;subst h;simp only[ud,uds,ud_prt,ud_nmd,ud_u0];omega)
    | (
      rw[Option.bind_eq_some_iff] at h;obtain⟨r1,h1,h2⟩:=h;injection h2 with h2;subst h2
      first
       | (have a1:=i10 _ _ h1;simp only[ud_nmd];omega)
       | (have a1:=i1 _ _ h1;simp only;omega))
  ·intro s x h;rw[cArgs] at h
   split at h
   ·injection h with h;subst h;simp only[uds];omega
   rw[Option.bind_eq_some_iff] at h;obtain⟨r1,h1,h2⟩:=h;have a1:=i1 _ _ h1;have a2:=i11 _ _ _ h2;rw[uds1] at a2
   omega
  intro l s x h;rw[cMore] at h
  split at h
  ·rw[Option.bind_eq_some_iff] at h;obtain⟨r1,h1,h2⟩:=h;have a1:=i1 _ _ h1;have a2:=i11 _ _ _ h2;rw[uds_app,uds1] at a2
   omega
  injection h with h;subst h;simp only;omega
def PmD (d:Nat) (p:PmU):Prop:=ud p.ref<=d
def QlD (d:Nat) (q:QlU):Prop:=ud q.body<=d
def FnD (d:Nat) (f:FnU):Prop:=(∀ p ∈ f.ps,PmD d p)/\PmD d f.res/\ud f.body<=d
def PgD (d:Nat) (p:PgU):Prop:=(∀ q ∈ p.qs,QlD d q)/\(∀ f ∈ p.fs,FnD d f)
theorem all_ud {n:Nat} {s:St} {x:U × St} (h:cAll n s=some x):ud x.1<=n*n+1:=by
 unfold cAll at h;rw[Option.bind_eq_some_iff] at h;obtain⟨r,h1,h2⟩:=h;injection h2 with h2;subst h2;have:=(c_ud n).1 _ _ h1;simp only;omega
theorem ref_ud {n:Nat} {p:PmU} {s:St} {x:PmU × St} (hp:PmD (n*n+1) p) (h:cRef n p s=some x):PmD (n*n+1) x.1:=by
 unfold cRef at h
 split at h
 ·rw[Option.bind_eq_some_iff] at h;obtain⟨r,h1,h2⟩:=h;injection h2 with h2;subst h2;exact all_ud h1
 injection h with h;subst h;exact hp
theorem typ_ud (n:Nat) (nm:Bs) (t:Tok) (b:Nat):PmD (n*n+1) (typ nm t b):=by show ud u0<=_;rw[ud_u0];omega
theorem fpar_ud {n:Nat} {l:List PmU} {s:St} {x:List PmU × St} (hl:∀ p ∈ l,PmD (n*n+1) p) (h:cFPar n l s=some x):∀ p ∈ x.1,PmD (n*n+1) p:=by
 unfold cFPar at h;rw[Option.bind_eq_some_iff] at h;obtain⟨r,h1,h2⟩:=h;injection h2 with h2;subst h2;exact all_snoc hl (ref_ud (typ_ud n _ _ _) h1)
theorem fmore_ud {n:Nat}:∀ {m:Nat} {l:List PmU} {s:St} {x:List PmU × St},(∀ p ∈ l,PmD (n*n+1) p)->cFMore m n l s=some x->∀ p ∈ x.1,PmD (n*n+1) p
 | 0,_,_,_,_,h=>by rw[cFMore] at h;cases h
 | m+1,l,s,x,hl,h=>by
  rw[cFMore] at h
  split at h
  ·rw[Option.bind_eq_some_iff] at h;obtain⟨r,h1,h2⟩:=h;exact fmore_ud (fpar_ud hl h1) h2
  injection h with h;subst h;exact hl
theorem fpars_ud {m n:Nat} {s:St} {x:List PmU × St} (h:cFPars m n s=some x):∀ p ∈ x.1,PmD (n*n+1) p:=by
 unfold cFPars at h
 split at h
 ·injection h with h;subst h;intro p hp;cases hp
 rw[Option.bind_eq_some_iff] at h;obtain⟨r,h1,h2⟩:=h;exact fmore_ud (fpar_ud (by intro p hp;cases hp) h1) h2
theorem qual_ud {m n k:Nat} {s:St} {x:QlU × St} (h:cQual m n k s=some x):QlD (n*n+1) x.1:=by
 unfold cQual at h;simp only[Option.bind_eq_some_iff] at h;obtain⟨r,h1,y,h2,h3⟩:=h;injection h3 with h3;subst h3;exact all_ud h2
theorem fun_ud {m n k:Nat} {s:St} {x:FnU × St} (h:cFun m n k s=some x):FnD (n*n+1) x.1:=by
 unfold cFun at h;simp only[Option.bind_eq_some_iff] at h;obtain⟨r,h1,t,h2,y,h3,h4⟩:=h;injection h4 with h4;subst h4;exact⟨fpars_ud h1,ref_ud (typ_ud n _ _ _) h2,all_ud h3⟩
theorem prog_ud {n:Nat}:∀ {m:Nat} {p:PgU} {s:St} {x:PgU × St},PgD (n*n+1) p->cProg m n p s=some x->PgD (n*n+1) x.1
 | 0,_,_,_,_,h=>by rw[cProg] at h;cases h
 | m+1,p,s,x,hp,h=>by
  rw[cProg] at h
  split at h
  ·rw[Option.bind_eq_some_iff] at h;obtain⟨r,h1,h2⟩:=h;exact prog_ud (p:=⟨p.qs++[r.1],p.fs⟩) ⟨all_snoc hp.1 (qual_ud h1),hp.2⟩ h2
  split at h
  ·rw[Option.bind_eq_some_iff] at h;obtain⟨r,h1,h2⟩:=h;exact prog_ud (p:=⟨p.qs,p.fs++[r.1]⟩) ⟨hp.1,all_snoc hp.2 (fun_ud h1)⟩ h2
  injection h with h;subst h;exact hp
abbrev Flt:=Nat × Nat × Nat
abbrev Sc:=Bs->Option Nat
abbrev Fs:=Bs->Option (List Nat × Nat)
def Sc.put (m:Sc) (n:Bs) (v:Nat):Sc:=fun x=>if x=n then some v else m x
def Sc.del (m:Sc) (n:Bs):Sc:=fun x=>if x=n then none else m x
structure Ks where
 sc:Sc
 er:Option Flt
def Ks.need (s:Ks) (ln cl:Nat) (ok:Bool) (c:Nat):Ks:=if ok then s else ⟨s.sc,s.er.or (some (c,ln,cl))⟩
def sig (k:Nat):List Nat × Nat:=
 if k=1\/k=2 then ([],1)
 else if k=4 then ([],2)
 else if k=5 then ([0],0)
 else if k=6 then ([1],1)
 else if k=7\/k=8 then ([2],0)
 else if k=9 then ([2],2)
 else if 10<=k/\k<=14 then ([0,0],0)
 else if 17<=k/\k<=20 then ([0,0],1)
 else if k=21\/k=22 then ([1,1],1)
 else if k=23 then ([0,2],2)
 else ([],0)
def posU:U->Bool
 | .node k _ _ z _ _ _=>k==0 && decide (0<z)
abbrev Kf:=Ks->Nat × Ks
def Kf.none:Kf:=fun s=>(0,s)
def kf (fs:List Kf) (i:Nat):Kf:=fs[i]?.getD Kf.none
def kRun:List Kf->Ks->List Nat × Ks
 | [],s=>([],s)
 | f::fs,s=>((f s).1::(kRun fs (f s).2).1,(kRun fs (f s).2).2)
def kLet (rf:Bool) (nm:Bs) (ln cl:Nat) (fs:List Kf) (s:Ks):Nat × Ks:=
 let r1:=kf fs 0 s
 let s2:=r1.2.need ln cl (!rf) 1
 let s3:Ks:=if (s2.sc nm).isNone then ⟨s2.sc.put nm r1.1,s2.er⟩ else s2
 let s4:=s3.need ln cl (s2.sc nm).isNone 3
 let r2:=kf fs 1 s4
 (r2.1,⟨r2.2.sc.del nm,r2.2.er⟩)
def kMatch (rf:Bool) (nm ot:Bs) (ln cl:Nat) (fs:List Kf) (s:Ks):Nat × Ks:=
 let r1:=kf fs 0 s
 let s2:=r1.2.need ln cl (!rf) 1
 let s3:=s2.need ln cl (r1.1==2) 4
 let s4:=s3.need ln cl ((s3.sc nm).isNone && (s3.sc ot).isNone && nm != ot) 3
 let r2:=kf fs 1 s4
 let s5:Ks:=⟨(r2.2.sc.put nm 0).put ot 2,r2.2.er⟩
 let r3:=kf fs 2 s5
 let s6:Ks:=⟨(r3.2.sc.del nm).del ot,r3.2.er⟩
 (r2.1,s6.need ln cl (r2.1==r3.1) 4)
def kAssert (rf:Bool) (ln cl:Nat) (fs:List Kf) (s:Ks):Nat × Ks:=
 let r1:=kf fs 0 s
 let s2:=r1.2.need ln cl (!rf) 1
 kf fs 1 (s2.need ln cl (r1.1==1) 4)
def kVar (nm:Bs) (ln cl:Nat) (s:Ks):Nat × Ks:=((s.sc nm).getD 0,s.need ln cl (s.sc nm).isSome 3)
def kCall (F:Fs) (rf:Bool) (nm:Bs) (ln cl:Nat) (ts:List Nat) (s:Ks):Nat × Ks:=
 let s2:=s.need ln cl (!rf) 1
 let s3:=s2.need ln cl (F nm).isSome 3
 (((F nm).getD ([],0)).2,s3.need ln cl (decide (ts=((F nm).getD ([],0)).1)) 4)
def kIf (rf:Bool) (ln cl:Nat) (ts:List Nat) (s:Ks):Nat × Ks:=
 let s2:=s.need ln cl (!rf) 1
 (ts.getD 1 0,s2.need ln cl (ts.getD 0 0==1 && ts.getD 1 0==ts.getD 2 0) 4)
def kEq (ln cl:Nat) (ts:List Nat) (s:Ks):Nat × Ks:=(1,s.need ln cl (ts.getD 0 0==ts.getD 1 0) 4)
def kOp (rf:Bool) (k ln cl:Nat) (ps:Bool) (ts:List Nat) (s:Ks):Nat × Ks:=
 let s2:=s.need ln cl (decide (ts=(sig k).1)) 4
 ((sig k).2,if k=8\/k=9 then s2.need ln cl rf 1 else if k=13\/k=14 then s2.need ln cl ps 1 else s2)
def kRest (F:Fs) (rf:Bool) (k:Nat) (nm:Bs) (ln cl:Nat) (ps:Bool) (ts:List Nat) (s:Ks):Nat × Ks:=
 if k=3 then kVar nm ln cl s
 else if k=24 then kCall F rf nm ln cl ts s
 else if k=25 then kIf rf ln cl ts s
 else if k=15\/k=16 then kEq ln cl ts s
 else kOp rf k ln cl ps ts s
def kNode (F:Fs) (rf:Bool) (k:Nat) (nm ot:Bs) (ln cl:Nat) (ps:Bool) (fs:List Kf) (s:Ks):Nat × Ks:=
 if k=26 then kLet rf nm ln cl fs s
 else if k=27 then kMatch rf nm ot ln cl fs s
 else if k=28 then kAssert rf ln cl fs s
 else kRest F rf k nm ln cl ps (kRun fs s).1 (kRun fs s).2
mutual
def kEx (F:Fs) (rf:Bool):U->Kf
 | .node k nm ot z ln cl ks=>kNode F rf k nm ot ln cl (posU (ks.getD 1 u0)) (kExs F rf ks)
def kExs (F:Fs) (rf:Bool):List U->List Kf
 | []=>[]
 | u::us=>kEx F rf u::kExs F rf us
end
abbrev Ar:=Except Flt Nat
abbrev Af:=Sc->Ar
def Af.none:Af:=fun _=>.ok 0
def af (fs:List Af) (i:Nat):Af:=fs[i]?.getD Af.none
def aRun:List Af->Sc->Except Flt (List Nat)
 | [],_=>.ok []
 | f::fs,l=>match f l with
  | .error e=>.error e
  | .ok b=>match aRun fs l with
   | .error e=>.error e
   | .ok ts=>.ok (b::ts)
def aLet (rf:Bool) (nm:Bs) (ln cl:Nat) (fs:List Af) (l:Sc):Ar:=
 match af fs 0 l with
 | .error e=>.error e
 | .ok b=>if rf then .error (1,ln,cl) else if (l nm).isSome then .error (3,ln,cl) else af fs 1 (l.put nm b)
def aMatch (rf:Bool) (nm ot:Bs) (ln cl:Nat) (fs:List Af) (l:Sc):Ar:=
 match af fs 0 l with
 | .error e=>.error e
 | .ok b=>if rf then .error (1,ln,cl) else if b≠2 then .error (4,ln,cl) else if (l nm).isSome\/(l ot).isSome\/nm=ot then .error (3,ln,cl) else
  match af fs 1 l with
  | .error e=>.error e
  | .ok c=>match af fs 2 ((l.put nm 0).put ot 2) with
   | .error e=>.error e
   | .ok d=>if c≠d then .error (4,ln,cl) else .ok d
def aAssert (rf:Bool) (ln cl:Nat) (fs:List Af) (l:Sc):Ar:=
 match af fs 0 l with
 | .error e=>.error e
 | .ok b=>if rf then .error (1,ln,cl) else if b≠1 then .error (4,ln,cl) else af fs 1 l
def aVar (nm:Bs) (ln cl:Nat) (l:Sc):Ar:=match l nm with
 | none=>.error (3,ln,cl)
 | some b=>.ok b
def aCall (F:Fs) (rf:Bool) (nm:Bs) (ln cl:Nat) (ts:List Nat):Ar:=
 if rf then .error (1,ln,cl) else match F nm with
  | none=>.error (3,ln,cl)
  | some f=>if ts=f.1 then .ok f.2 else .error (4,ln,cl)
def aIf (rf:Bool) (ln cl:Nat) (ts:List Nat):Ar:=
 if rf then .error (1,ln,cl) else if ts.getD 0 0≠1\/ts.getD 1 0≠ts.getD 2 0 then .error (4,ln,cl) else .ok (ts.getD 2 0)
def aEq (ln cl:Nat) (ts:List Nat):Ar:=if ts.getD 0 0≠ts.getD 1 0 then .error (4,ln,cl) else .ok 1
def aOp (rf:Bool) (k ln cl:Nat) (ps:Bool) (ts:List Nat):Ar:=
 if ts≠(sig k).1 then .error (4,ln,cl)
 else if (k=8\/k=9)/\rf=false then .error (1,ln,cl)
 else if (k=13\/k=14)/\ps=false then .error (1,ln,cl)
 else .ok (sig k).2
def aRest (F:Fs) (rf:Bool) (k:Nat) (nm:Bs) (ln cl:Nat) (ps:Bool) (ts:List Nat) (l:Sc):Ar:=
 if k=3 then aVar nm ln cl l
 else if k=24 then aCall F rf nm ln cl ts
 else if k=25 then aIf rf ln cl ts
 else if k=15\/k=16 then aEq ln cl ts
 else aOp rf k ln cl ps ts
def aNode (F:Fs) (rf:Bool) (k:Nat) (nm ot:Bs) (ln cl:Nat) (ps:Bool) (fs:List Af) (l:Sc):Ar:=
 if k=26 then aLet rf nm ln cl fs l
 else if k=27 then aMatch rf nm ot ln cl fs l
 else if k=28 then aAssert rf ln cl fs l
 else match aRun fs l with
  | .error e=>.error e
  | .ok ts=>aRest F rf k nm ln cl ps ts l
mutual
def aB (F:Fs) (rf:Bool):U->Af
 | .node k nm ot z ln cl ks=>aNode F rf k nm ot ln cl (posU (ks.getD 1 u0)) (aBs F rf ks)
def aBs (F:Fs) (rf:Bool):List U->List Af
 | []=>[]
 | u::us=>aB F rf u::aBs F rf us
end
theorem Sc.put_del {l:Sc} {n:Bs} {v:Nat} (h:l n=none):(l.put n v).del n=l:=by
 funext x;unfold Sc.del Sc.put;split
 ·rename_i e;subst e;exact h.symm
 rfl
theorem Sc.put_del2 {l:Sc} {n o:Bs} {v u:Nat} (h:l n=none) (k:l o=none) (e:n≠o):(((l.put n v).put o u).del n).del o=l:=by
 funext x;unfold Sc.del Sc.put;split
 ·rename_i e;subst e;exact k.symm
 split
 ·rename_i e;subst e;exact h.symm
 rfl
theorem need_sc (s:Ks) (ln cl:Nat) (ok:Bool) (c:Nat):(s.need ln cl ok c).sc=s.sc:=by unfold Ks.need;split<;>rfl
theorem need_er {s:Ks} {e:Flt} (h:s.er=some e) (ln cl:Nat) (ok:Bool) (c:Nat):(s.need ln cl ok c).er=some e:=by unfold Ks.need;split;exact h;simp[h]
theorem need_ok (s:Ks) (ln cl:Nat) (c:Nat):s.need ln cl true c=s:=rfl
theorem need_no (sc:Sc) (ln cl:Nat) (c:Nat):(Ks.need ⟨sc,none⟩ ln cl false c)=⟨sc,some (c,ln,cl)⟩:=rfl
def KSt (f:Kf):Prop:=∀ s e,s.er=some e->(f s).2.er=some e
def KA (f:Kf) (g:Af):Prop:=∀ l,match g l with
 | .error e=>(f ⟨l,none⟩).2.er=some e
 | .ok b=>f ⟨l,none⟩=(b,⟨l,none⟩)
theorem kst_none:KSt Kf.none:=fun s e h=>h
theorem ka_none:KA Kf.none Af.none:=fun l=>rfl
theorem kst_kf {fs:List Kf} (h:∀ f ∈ fs,KSt f) (i:Nat):KSt (kf fs i):=by
 unfold kf
 cases hi:fs[i]? with
 | none=>exact kst_none
 | some f=>exact h f (List.mem_of_getElem? hi)
theorem kst_run:∀ {fs:List Kf},(∀ f ∈ fs,KSt f)->∀ s e,s.er=some e->(kRun fs s).2.er=some e
 | [],_,_,_,h=>h
 | f::fs,hf,s,e,h=>by
  rw[kRun];exact kst_run (fun g hg=>hf g (by simp[hg])) (f s).2 e (hf f (by simp) s e h)
theorem kst_rest (F:Fs) (rf:Bool) (k:Nat) (nm:Bs) (ln cl:Nat) (ps:Bool) (ts:List Nat) (s:Ks) (e:Flt) (h:s.er=some e):(kRest F rf k nm ln cl ps ts s).2.er=some e:=by
 unfold kRest
 split;exact need_er h _ _ _ _
 split;exact need_er (need_er (need_er h _ _ _ _) _ _ _ _) _ _ _ _
 split;exact need_er (need_er h _ _ _ _) _ _ _ _
 split;exact need_er h _ _ _ _
 unfold kOp;simp only
 split;exact need_er (need_er h _ _ _ _) _ _ _ _
 split;exact need_er (need_er h _ _ _ _) _ _ _ _
 exact need_er h _ _ _ _
theorem kst_node (F:Fs) (rf:Bool) (k:Nat) (nm ot:Bs) (ln cl:Nat) (ps:Bool) {fs:List Kf} (hf:∀ f ∈ fs,KSt f):KSt (kNode F rf k nm ot ln cl ps fs):=by
 intro s e h;unfold kNode
 split
 ·unfold kLet;simp only;refine kst_kf hf 1 _ _ (need_er ?_ _ _ _ _)
  split<;>exact need_er (kst_kf hf 0 _ _ h) _ _ _ _
 split
 ·unfold kMatch;simp only;refine need_er ?_ _ _ _ _;refine kst_kf hf 2 _ _ ?_;refine kst_kf hf 1 _ _ ?_;exact need_er (need_er (need_er (kst_kf hf 0 _ _ h) _ _ _ _) _ _ _ _) _ _ _ _
 split
 ·unfold kAssert;exact kst_kf hf 1 _ _ (need_er (need_er (kst_kf hf 0 _ _ h) _ _ _ _) _ _ _ _)
 exact kst_rest _ _ _ _ _ _ _ _ _ _ (kst_run hf _ _ h)
mutual
theorem kst_b (F:Fs) (rf:Bool):∀ u:U,KSt (kEx F rf u)
 | .node k nm ot z ln cl ks=>by rw[kEx];exact kst_node _ _ _ _ _ _ _ _ (kst_bs F rf ks)
theorem kst_bs (F:Fs) (rf:Bool):∀ us:List U,∀ f ∈ kExs F rf us,KSt f
 | [],f,h=>by rw[kExs] at h;cases h
 | u::us,f,h=>by
  rw[kExs] at h;rcases List.mem_cons.1 h with rfl | h
  ·exact kst_b F rf u
  exact kst_bs F rf us f h
end
inductive KAs:List Kf->List Af->Prop
 | nil:KAs [] []
 | cons {f:Kf} {g:Af} {fs:List Kf} {gs:List Af}:KA f g->KAs fs gs->KAs (f::fs) (g::gs)
theorem KAs.get:∀ {fs:List Kf} {gs:List Af},KAs fs gs->∀ i,KA (kf fs i) (af gs i)
 | _,_,.nil,i=>by unfold kf af;exact ka_none
 | _,_,.cons h t,0=>h
 | _,_,.cons h t,i+1=>t.get i
theorem KAs.run:∀ {fs:List Kf} {gs:List Af},KAs fs gs->(∀ f ∈ fs,KSt f)->∀ l,match aRun gs l with
  | .error e=>(kRun fs ⟨l,none⟩).2.er=some e
  | .ok ts=>kRun fs ⟨l,none⟩=(ts,⟨l,none⟩)
 | _,_,.nil,_,l=>rfl
 | f::fs,g::gs,.cons h t,hs,l=>by
  have h1:=h l;have h2:=t.run (fun x hx=>hs x (by simp[hx])) l;rw[aRun]
  cases hg:g l with
  | error e=>rw[hg] at h1;rw[kRun];exact kst_run (fun x hx=>hs x (by simp[hx])) _ _ h1
  | ok b =>
   rw[hg] at h1;simp only at h1 ⊢
   cases hr:aRun gs l with
   | error e=>rw[hr] at h2;simp only[kRun,h1];exact h2
   | ok ts=>rw[hr] at h2;simp only at h2 ⊢;simp only[kRun,h1,h2]
theorem ka_rest (F F':Fs) (rf:Bool) (hF:rf=false->F'=F) (k:Nat) (nm:Bs) (ln cl:Nat) (ps:Bool) (ts:List Nat) (l:Sc):match aRest F' rf k nm ln cl ps ts l with
  | .error e=>(kRest F rf k nm ln cl ps ts ⟨l,none⟩).2.er=some e
  | .ok b=>kRest F rf k nm ln cl ps ts ⟨l,none⟩=(b,⟨l,none⟩):=by
 unfold aRest kRest
 by_cases k1:k=3
 ·rw[if_pos k1,if_pos k1];unfold aVar kVar;simp only
  cases l nm<;>rfl
 rw[if_neg k1,if_neg k1]
 by_cases k2:k=24
 ·rw[if_pos k2,if_pos k2];unfold aCall kCall
  cases rf
  ·rw[hF rfl]
   cases F nm with
   | none=>simp only[Bool.false_eq_true,if_false];exact need_er rfl _ _ _ _
   | some f =>
    by_cases hf:ts=f.1
    ·simp only[Bool.false_eq_true,if_false,if_pos hf,Option.getD_some,decide_eq_true hf];rfl
    simp only[Bool.false_eq_true,if_false,if_neg hf,Option.getD_some,decide_eq_false hf];rfl
  simp only[if_true];exact need_er (need_er rfl _ _ _ _) _ _ _ _
 rw[if_neg k2,if_neg k2]
 by_cases k3:k=25
 ·rw[if_pos k3,if_pos k3];unfold aIf kIf
  cases rf
  ·simp only[Bool.false_eq_true,if_false]
   by_cases h0:ts.getD 0 0=1
   ·by_cases h1:ts.getD 1 0=ts.getD 2 0
    ·rw[if_neg (by omega),h0,h1];simp only[beq_self_eq_true,Bool.and_true];rfl
    rw[if_pos (.inr h1)];simp only[beq_eq_false_iff_ne.2 h1,Bool.and_false];rfl
   rw[if_pos (.inl h0)];simp only[beq_eq_false_iff_ne.2 h0,Bool.false_and];rfl
  simp only[if_true];exact need_er rfl _ _ _ _
 rw[if_neg k3,if_neg k3]
 by_cases k4:k=15\/k=16
 ·rw[if_pos k4,if_pos k4];unfold aEq kEq
  by_cases h:ts.getD 0 0=ts.getD 1 0
  ·rw[if_neg (by omega),h];simp only[beq_self_eq_true];rfl
  rw[if_pos h];simp only[beq_eq_false_iff_ne.2 h];rfl
 rw[if_neg k4,if_neg k4];unfold aOp kOp
 by_cases h:ts=(sig k).1
 ·rw[if_neg (by simpa using h)];simp only[decide_eq_true h,need_ok]
  by_cases h8:k=8\/k=9
  ·simp only[if_pos h8]
   cases rf
   ·rw[if_pos ⟨h8,rfl⟩];rfl
   rw[if_neg (by simp),if_neg (by omega)];rfl
  simp only[if_neg h8];rw[if_neg (fun h=>h8 h.1)]
  by_cases h13:k=13\/k=14
  ·simp only[if_pos h13]
   cases ps
   ·rw[if_pos ⟨h13,rfl⟩];rfl
   rw[if_neg (by simp)];rfl
  simp only[if_neg h13];rw[if_neg (fun h=>h13 h.1)]
 rw[if_pos h];simp only[decide_eq_false h]
 split
 ·exact need_er rfl _ _ _ _
 split
 ·exact need_er rfl _ _ _ _
 rfl
theorem ka_node (F F':Fs) (rf:Bool) (hF:rf=false->F'=F) (k:Nat) (nm ot:Bs) (ln cl:Nat) (ps:Bool) {fs:List Kf} {gs:List Af} (h:KAs fs gs) (hs:∀ f ∈ fs,KSt f):KA (kNode F rf k nm ot ln cl ps fs) (aNode F' rf k nm ot ln cl ps gs):=by
 intro l;unfold aNode kNode
 by_cases k1:k=26
 ·rw[if_pos k1,if_pos k1];unfold aLet kLet;have h0:=h.get 0 l;have h1:=h.get 1;have s1:=kst_kf hs 1;simp only
  cases hg:af gs 0 l with
  | error e =>
   rw[hg] at h0;simp only at h0 ⊢;refine s1 _ _ (need_er ?_ _ _ _ _)
   split<;>exact need_er h0 _ _ _ _
  | ok b =>
   rw[hg] at h0;simp only at h0 ⊢;rw[h0]
   cases rf
   ·simp only[Bool.not_false,need_ok,Bool.false_eq_true,if_false]
    cases hn:l nm with
    | some t=>simp only[Option.isSome_some,if_true,Option.isNone_some,Bool.false_eq_true,if_false,need_no];exact s1 _ _ rfl
    | none =>
     simp only[Option.isSome_none,Option.isNone_none,Bool.false_eq_true,if_false,if_true,need_ok];have h1:=h1 (l.put nm b)
     cases hg1:af gs 1 (l.put nm b) with
     | error e=>rw[hg1] at h1;exact h1
     | ok c=>rw[hg1] at h1;simp only at h1 ⊢;rw[h1];simp only[Sc.put_del hn]
   simp only[Bool.not_true,need_no,if_true];refine s1 _ _ (need_er ?_ _ _ _ _)
   split<;>rfl
 rw[if_neg k1,if_neg k1]
 by_cases k2:k=27
 ·rw[if_pos k2,if_pos k2];unfold aMatch kMatch;have h0:=h.get 0 l;have h1:=h.get 1 l;have h2:=h.get 2;have s1:=kst_kf hs 1;have s2:=kst_kf hs 2;simp only
  cases hg:af gs 0 l with
  | error e =>
   rw[hg] at h0;simp only at h0 ⊢;refine need_er ?_ _ _ _ _;refine s2 _ _ ?_;refine s1 _ _ ?_;exact (need_er (need_er (need_er h0 _ _ _ _) _ _ _ _) _ _ _ _)
  | ok b =>
   rw[hg] at h0;simp only at h0 ⊢;rw[h0]
   cases rf
   ·simp only[Bool.not_false,need_ok,Bool.false_eq_true,if_false]
    by_cases hb:b=2
    ·subst hb;rw[if_neg (by simp)];simp only[beq_self_eq_true,need_ok]
     by_cases hc:(l nm).isSome\/(l ot).isSome\/nm=ot
     ·rw[if_pos hc]
      have hcf:((l nm).isNone && (l ot).isNone && nm != ot)=false:=by
       rcases hc with hc | hc | hc
       ·rw[Option.isSome_iff_exists] at hc;obtain⟨x,hx⟩:=hc;rw[hx];rfl
       ·rw[Option.isSome_iff_exists] at hc;obtain⟨x,hx⟩:=hc;rw[hx];simp
       rw[hc];simp
      rw[hcf];refine need_er ?_ _ _ _ _;refine s2 _ _ ?_;refine s1 _ _ ?_;exact rfl
     rw[if_neg hc];have hn:l nm=none:=by cases hx:l nm with | none=>rfl | some x=>exact absurd (.inl (by rw[hx];rfl)) hc
     have ho:l ot=none:=by cases hx:l ot with | none=>rfl | some x=>exact absurd (.inr (.inl (by rw[hx];rfl))) hc
     have hno:nm≠ot:=fun e=>hc (.inr (.inr e))
     have hcf:((l nm).isNone && (l ot).isNone && nm != ot)=true:=by rw[hn,ho];simpa using hno
     rw[hcf,need_ok]
     cases hg1:af gs 1 l with
     | error e=>rw[hg1] at h1;refine need_er ?_ _ _ _ _;refine s2 _ _ ?_;exact h1
     | ok c =>
      rw[hg1] at h1;simp only at h1 ⊢;rw[h1];simp only;have h2:=h2 ((l.put nm 0).put ot 2)
      cases hg2:af gs 2 ((l.put nm 0).put ot 2) with
      | error e=>rw[hg2] at h2;refine need_er ?_ _ _ _ _;exact h2
      | ok d =>
       rw[hg2] at h2;simp only at h2 ⊢;rw[h2];simp only[Sc.put_del2 hn ho hno]
       by_cases hcd:c=d
       ·rw[if_neg (by omega),hcd];simp only[beq_self_eq_true];rfl
       rw[if_pos hcd];simp only[beq_eq_false_iff_ne.2 hcd];rfl
    rw[if_pos hb];simp only[beq_eq_false_iff_ne.2 hb,need_no];refine need_er ?_ _ _ _ _;refine s2 _ _ ?_;refine s1 _ _ ?_;exact (need_er rfl _ _ _ _)
   simp only[Bool.not_true,need_no,if_true];refine need_er ?_ _ _ _ _;refine s2 _ _ ?_;refine s1 _ _ ?_;exact (need_er (need_er rfl _ _ _ _) _ _ _ _)
 rw[if_neg k2,if_neg k2]
 by_cases k3:k=28
 ·rw[if_pos k3,if_pos k3];unfold aAssert kAssert;have h0:=h.get 0 l;have h1:=h.get 1 l;have s1:=kst_kf hs 1;simp only
  cases hg:af gs 0 l with
  | error e=>rw[hg] at h0;exact s1 _ _ (need_er (need_er h0 _ _ _ _) _ _ _ _)
  | ok b =>
   rw[hg] at h0;simp only at h0 ⊢;rw[h0]
   cases rf
   ·simp only[Bool.not_false,need_ok,Bool.false_eq_true,if_false]
    by_cases hb:b=1
    ·subst hb;rw[if_neg (by simp)];exact h1
    rw[if_pos hb];simp only[beq_eq_false_iff_ne.2 hb,need_no];exact s1 _ _ rfl
   simp only[Bool.not_true,need_no,if_true];exact s1 _ _ (need_er rfl _ _ _ _)
 rw[if_neg k3,if_neg k3];have hr:=h.run hs l
 cases hg:aRun gs l with
 | error e=>rw[hg] at hr;exact kst_rest _ _ _ _ _ _ _ _ _ _ hr
 | ok ts =>
  rw[hg] at hr;simp only at hr ⊢;rw[hr];exact ka_rest F F' rf hF k nm ln cl ps ts l
mutual
theorem ka_b (F F':Fs) (rf:Bool) (hF:rf=false->F'=F):∀ u:U,KA (kEx F rf u) (aB F' rf u)
 | .node k nm ot z ln cl ks=>by rw[kEx,aB];exact ka_node _ _ _ hF _ _ _ _ _ _ (ka_bs F F' rf hF ks) (kst_bs F rf ks)
theorem ka_bs (F F':Fs) (rf:Bool) (hF:rf=false->F'=F):∀ us:List U,KAs (kExs F rf us) (aBs F' rf us)
 | []=>by rw[kExs,aBs];exact .nil
 | u::us=>by rw[kExs,aBs];exact .cons (ka_b F F' rf hF u) (ka_bs F F' rf hF us)
end
def KDm (f:Kf):Prop:=∀ s n,((f s).2.sc n).isSome->(s.sc n).isSome
theorem kdm_none:KDm Kf.none:=fun s n h=>h
theorem kdm_kf {fs:List Kf} (h:∀ f ∈ fs,KDm f) (i:Nat):KDm (kf fs i):=by
 unfold kf
 cases hi:fs[i]? with
 | none=>exact kdm_none
 | some f=>exact h f (List.mem_of_getElem? hi)
theorem kdm_run:∀ {fs:List Kf},(∀ f ∈ fs,KDm f)->∀ s n,((kRun fs s).2.sc n).isSome->(s.sc n).isSome
 | [],_,_,_,h=>h
 | f::fs,hf,s,n,h=>by
  rw[kRun] at h;exact hf f (by simp) s n (kdm_run (fun g hg=>hf g (by simp[hg])) (f s).2 n h)
theorem sc_rest (F:Fs) (rf:Bool) (k:Nat) (nm:Bs) (ln cl:Nat) (ps:Bool) (ts:List Nat) (s:Ks):(kRest F rf k nm ln cl ps ts s).2.sc=s.sc:=by
 unfold kRest
 split;exact need_sc _ _ _ _ _
 split;(unfold kCall;simp only[need_sc])
 split;(unfold kIf;simp only[need_sc])
 split;exact need_sc _ _ _ _ _
 unfold kOp;simp only
 split;simp only[need_sc]
 split;simp only[need_sc]
 simp only[need_sc]
theorem kdm_node (F:Fs) (rf:Bool) (k:Nat) (nm ot:Bs) (ln cl:Nat) (ps:Bool) {fs:List Kf} (hf:∀ f ∈ fs,KDm f):KDm (kNode F rf k nm ot ln cl ps fs):=by
 intro s n h;unfold kNode at h
 split at h
 ·unfold kLet at h;simp only at h;unfold Sc.del at h
  split at h
  ·cases h
  rename_i hn
  have h:=kdm_kf hf 1 _ _ h;rw[need_sc] at h
  split at h
  ·simp only[Sc.put,if_neg hn,need_sc] at h;exact kdm_kf hf 0 _ _ h
  rw[need_sc] at h;exact kdm_kf hf 0 _ _ h
 split at h
 ·unfold kMatch at h;simp only at h;rw[need_sc] at h;simp only[Sc.del] at h
  split at h
  ·cases h
  rename_i ho
  split at h
  ·cases h
  rename_i hn
  have h:=kdm_kf hf 2 _ _ h;simp only[Sc.put,if_neg hn,if_neg ho] at h;have h:=kdm_kf hf 1 _ _ h;simp only[need_sc] at h;exact kdm_kf hf 0 _ _ h
 split at h
 ·unfold kAssert at h;have h:=kdm_kf hf 1 _ _ h;simp only[need_sc] at h;exact kdm_kf hf 0 _ _ h
 rw[sc_rest] at h;exact kdm_run hf _ _ h
mutual
theorem kdm_b (F:Fs) (rf:Bool):∀ u:U,KDm (kEx F rf u)
 | .node k nm ot z ln cl ks=>by rw[kEx];exact kdm_node _ _ _ _ _ _ _ _ (kdm_bs F rf ks)
theorem kdm_bs (F:Fs) (rf:Bool):∀ us:List U,∀ f ∈ kExs F rf us,KDm f
 | [],f,h=>by rw[kExs] at h;cases h
 | u::us,f,h=>by
  rw[kExs] at h;rcases List.mem_cons.1 h with rfl | h
  ·exact kdm_b F rf u
  exact kdm_bs F rf us f h
end
def Dom (m:Sc) (n:Nat):Prop:=∃ L:List Bs,L.length<=n/\∀ x,(m x).isSome->x ∈ L
theorem Dom.sub {m m':Sc} {n:Nat} (h:Dom m n) (hs:∀ x,(m' x).isSome->(m x).isSome):Dom m' n:=by
 obtain⟨L,h1,h2⟩:=h;exact⟨L,h1,fun x hx=>h2 x (hs x hx)⟩
theorem Dom.mono {m:Sc} {n n':Nat} (h:Dom m n) (hn:n<=n'):Dom m n':=by obtain⟨L,h1,h2⟩:=h;exact⟨L,Nat.le_trans h1 hn,h2⟩
theorem Dom.put {m:Sc} {n:Nat} (h:Dom m n) (x:Bs) (v:Nat):Dom (m.put x v) (n+1):=by
 obtain⟨L,h1,h2⟩:=h;refine⟨x::L,by simp;omega,fun y hy=>?_⟩;unfold Sc.put at hy
 split at hy
 ·rename_i e;subst e;simp
 exact List.mem_cons_of_mem _ (h2 y hy)
theorem Dom.nil:Dom (fun _=>none) 0:=⟨[],Nat.le_refl _,fun x h=>by cases h⟩
end Go.Proofs.YtkocdbgmckdcpaaGreatDoor
