/-
 Joined texts: KDiv,KPar,KWhoA,KWhoF.
-/
import Derived.Lib.ItoaMem
import Derived.Deep.RegionHeld3
import Derived.Deep.DeepCutAuto
import Derived.Test.YtdkfnbbebpbhaaaGreatDoorJLogicTexts1
set_option maxHeartbeats 32000000
namespace Go.Proofs.YtdkfnbbebpbhaaaGreatDoor
open Go.RowKit
set_option maxRecDepth 100000
structure Gs (B P D H p t x E:Nat):Prop where
 hp:∃ lp,P=(H*B+p)*E+lp/\lp<E
 hd:∃ ld,D=(t*B+x)*E+ld/\ld<E
 B0:0<B
 pb:p<B
 xb:x<B
 tb:t<B
 t0:0<t
 E0:0<E
 lt:P<D*B

theorem Gs.D0 {B P D H p t x E:Nat} (h:Gs B P D H p t x E):B*E<=D:=by
 obtain⟨ld,h1,h2⟩:=h.hd;rw[h1];have h3:B*E<=(t*B+x)*E:=Nat.mul_le_mul_right _ (Nat.le_trans (by have:=Nat.mul_le_mul_right B h.t0;omega) (Nat.le_add_right (t*B) x))
 omega
theorem Gs.pos {B P D H p t x E:Nat} (h:Gs B P D H p t x E):0<D:=Nat.lt_of_lt_of_le (Nat.mul_pos h.B0 h.E0) h.D0
theorem Gs.quo {B P D H p t x E:Nat} (h:Gs B P D H p t x E):P / D<B:=Nat.div_lt_of_lt_mul h.lt
theorem Gs.high {B P D H p t x E:Nat} (h:Gs B P D H p t x E):H<t*B+B:=by
 obtain⟨lp,h1,h2⟩:=h.hp;obtain⟨ld,h3,h4⟩:=h.hd;have h5:=h.lt;have hx:=h.xb;rcases Nat.lt_or_ge H (t*B+B) with hh | hh
 ·exact hh
 exfalso
 have e1:(t*B+B)*(B*E)<=H*(B*E):=Nat.mul_le_mul_right _ hh;have e2:(x+1)*(E*B)<=B*(E*B):=Nat.mul_le_mul_right _ hx;have e3:ld*B<E*B:=Nat.mul_lt_mul_of_pos_right h4 h.B0;rw[h1,h3] at h5
 grind
theorem Gs.start {B P D H p t x E:Nat} (h:Gs B P D H p t x E):P / D<=H / t:=by
 obtain⟨lp,h1,h2⟩:=h.hp;obtain⟨ld,h3,h4⟩:=h.hd;have hp:=h.pb;rw[Nat.le_div_iff_mul_le h.t0];have hq:=Nat.div_mul_le_self P D;generalize P / D=Q at *
 have e0:Q*t*(B*E)<=Q*D:=by
  rw[Nat.mul_assoc];refine Nat.mul_le_mul_left _ ?_;rw[h3]
  grind
 have e1:P<(H+1)*(B*E):=by
  have e2:(p+1)*E<=B*E:=Nat.mul_le_mul_right _ hp;rw[h1];grind
 have e3:Q*t*(B*E)<(H+1)*(B*E):=by omega
 exact Nat.lt_succ_iff.1 (Nat.lt_of_mul_lt_mul_right e3)
theorem Gs.down {B P D H p t x E q r:Nat} (h:Gs B P D H p t x E) (hq:q*t+r=H) (hc:r*B+p<q*x):P / D<q:=by
 obtain⟨lp,h1,h2⟩:=h.hp;obtain⟨ld,h3,h4⟩:=h.hd;refine Nat.div_lt_of_lt_mul ?_;have e1:(H*B+p+1)*E<=q*(t*B+x)*E:=Nat.mul_le_mul_right _ (by rw[<-hq];grind);have e2:q*(t*B+x)*E<=q*D:=by rw[Nat.mul_assoc,h3];exact Nat.mul_le_mul_left _ (by omega)
 rw[Nat.mul_comm D q]
 grind
theorem Gs.stop {B P D H p t x E q r:Nat} (h:Gs B P D H p t x E) (hq:q*t+r=H) (hb:q<B) (hc:q*x<=r*B+p\/B<=r):q<=P / D+1:=by
 obtain⟨lp,h1,h2⟩:=h.hp;obtain⟨ld,h3,h4⟩:=h.hd;have hD:=h.D0;have hpos:=h.pos;have hx:=h.xb
 have key:q*D<P+D:=by
  rw[h3] at hD ⊢;rw[h1];have e3:q*ld<=q*E:=Nat.mul_le_mul_left _ (by omega);have e4:q*E<B*E:=Nat.mul_lt_mul_of_pos_right hb h.E0;rcases hc with hc | hc
  ·have e1:q*(t*B+x)*E<=(H*B+p)*E:=Nat.mul_le_mul_right _ (by rw[<-hq];grind)
   grind
  have e5:q*x<=q*B:=Nat.mul_le_mul_left _ (by omega);have e6:q*B<=B*B:=Nat.mul_le_mul_right _ (by omega);have e7:B*B<=r*B:=Nat.mul_le_mul_right _ hc;have e1:q*(t*B+x)*E<=(H*B+p)*E:=Nat.mul_le_mul_right _ (by rw[<-hq];grind)
  grind
 rcases Nat.eq_zero_or_pos q with h0 | h0
 ·rw[h0];exact Nat.zero_le _
 have e:(q - 1)*D<=P:=by
  have:q*D=(q - 1)*D+D:=by rw[<-Nat.succ_mul];congr 1;omega
  omega
 have:=(Nat.le_div_iff_mul_le hpos).2 e
 omega
theorem top_split {xs:List Nat} {m:Nat} (dx:Dig L32 xs) (h:xs.length=m+2):∃ l,val L32 xs=(xs.getD (m+1) 0*L32+xs.getD m 0)*L32 ^ m+l/\l<L32 ^ m:=by
 have h1:=val_take_succ' L32 xs (m+1);have h2:=val_take_succ' L32 xs m;have h3:=val_lt (dx.take m);rw[List.length_take,Nat.min_eq_left (by omega)] at h3;refine⟨val L32 (xs.take m),?_,h3⟩;rw[show m+1+1=xs.length by omega,List.take_length] at h1;rw[h1,h2,Nat.pow_succ]
 grind
theorem gs_of {ps ds:List Nat} {m:Nat} (dp:Dig L32 ps) (dd:Dig L32 ds) (hd:ds.length=m+2) (hp:ps.length=m+3) (ht:0<ds.getD (m+1) 0) (hlt:val L32 ps<val L32 ds*L32) :
  Gs L32 (val L32 ps) (val L32 ds) (joinN (ps.getD (m+2) 0) (ps.getD (m+1) 0)) (ps.getD m 0) (ds.getD (m+1) 0) (ds.getD m 0) (L32 ^ m) where
 hp:=by
  obtain⟨l,h1,h2⟩:=top_split (m:=m+1) dp hp;have h3:=val_take_succ' L32 ps (m+2);have h4:=val_take_succ' L32 ps (m+1);have h5:=val_take_succ' L32 ps m;have h6:=val_lt (dp.take m);rw[List.length_take,Nat.min_eq_left (by omega)] at h6;refine⟨val L32 (ps.take m),?_,h6⟩;rw[show m+2+1=ps.length by omega,List.take_length] at h3;rw[h3,h4,h5,Nat.pow_succ,Nat.pow_succ];unfold joinN
  grind
 hd:=top_split dd hd
 B0:=by decide
 pb:=dp.getD (by decide) m
 xb:=dd.getD (by decide) m
 tb:=dd.getD (by decide) _
 t0:=ht
 E0:=Nat.pow_pos (by decide)
 lt:=hlt
set_option maxRecDepth 100000 in
theorem guessLimb_any (va vb:Value) (ps ds:List Nat) (w:World) (hx:Sl w .u32 va ps) (hy:Sl w .u32 vb ds) (dp:Dig L32 ps) (dd:Dig L32 ds) (hd:2<=ds.length) (hp:ps.length=ds.length+1)
  (ht:0<ds.getD (ds.length - 1) 0) (hlt:val L32 ps<val L32 ds*L32) :
  Calls Tryz.prog 145 #[va,vb] w fun e w'=>∃ q:Nat,e=.returned (.int .u32 (q:Int))/\q<L32/\val L32 ps / val L32 ds<=q/\q<=val L32 ps / val L32 ds+1/\Below w.heap.size w w':=by
 have G:=gs_of (m:=ds.length - 2) dp dd (by omega) (by omega) (by rw[show ds.length - 2+1=ds.length - 1 by omega];exact ht) hlt;rw[show ds.length - 2+2=ds.length by omega,show ds.length - 2+1=ds.length - 1 by omega] at G;have HX:=Lib.hid hx;have HY:=Lib.hid hy;obtain⟨ao,ac,rfl,a1,a2,a3,a4⟩:=hx;obtain⟨bo,bc,rfl,b1,b2,b3,b4⟩:=hy;obtain⟨a,rfl,c1⟩:=a4 ds.length (by omega);have c2:=HX.out.at (i:=ds.length - 1) (by omega);have c3:=HX.out.at (i:=ds.length - 2) (by omega);obtain⟨b,rfl,c4⟩:=b4 (ds.length - 1) (by omega);have c5:=HY.out.at (i:=ds.length - 2) (by omega);clear a4 b4 a3 b3 hlt;have hH:=G.high;have hp0:=dp.getD (by decide) ds.length;have hp1:=dp.getD (by decide) (ds.length - 1);have hp2:=dp.getD (by decide) (ds.length - 2);have ht1:=dd.getD (by decide) (ds.length - 1)
 have hx1:=dd.getD (by decide) (ds.length - 2);unfold nth at c1 c2 c3 c4 c5;generalize ps.getD ds.length 0=p0 at *;generalize ps.getD (ds.length - 1) 0=p1 at *;generalize ps.getD (ds.length - 2) 0=p2 at *;generalize ds.getD (ds.length - 1) 0=t at *;generalize ds.getD (ds.length - 2) 0=x at *;generalize L32 ^ (ds.length - 2)=E at *;generalize val L32 ps=P at *;generalize val L32 ds=D at *;have hor:=or_join (r:=p0) (x:=p1) hp0 hp1;have hjb:=joinI_bound (r:=p0) (x:=p1) hp0 hp1;have HJ:Hid (joinI p0 p1=((joinN p0 p1:Nat):Int)):=Lib.hid rfl;have hJ:joinN p0 p1<18446744073709551616:=by have hL:L32=4294967296:=rfl;unfold joinN;omega
 have q0:((joinN p0 p1:Nat):Int) / (t:Int)=((joinN p0 p1 / t:Nat):Int):=by simp
 have r0:((joinN p0 p1:Nat):Int) % (t:Int)=((joinN p0 p1 % t:Nat):Int):=by simp
 rw[show ((joinN p0 p1:Nat):Int)=joinI p0 p1 from rfl] at q0 r0;have hq0:joinN p0 p1 / t<=joinN p0 p1:=Nat.div_le_self _ _;have hqr:joinN p0 p1 / t*t+joinN p0 p1 % t=joinN p0 p1:=by rw[Nat.mul_comm];exact Nat.div_add_mod _ _
 have hrs:joinN p0 p1 % t<=joinN p0 p1:=Nat.mod_le _ _;have hst:=G.start;have HG:=Lib.hid G;clear G;generalize hHn:joinN p0 p1=H at *;generalize H / t=qs at *;generalize H % t=rs at *;generalize joinI p0 p1=HI at *;have hn:ds.length<=ps.length:=by omega
 have HST:=Lib.hid hst;have HQR:=Lib.hid hqr;have HH:=Lib.hid hH;have hqb:0<=HI / (t:Int)/\HI / (t:Int)<18446744073709551616:=by rw[q0];omega
 have hrb:0<=HI % (t:Int)/\HI % (t:Int)<18446744073709551616:=by rw[r0];omega
 have Q0:=Lib.hid q0;have R0:=Lib.hid r0;clear hst hqr hH q0 r0;have hL:L32=4294967296:=rfl;have W0:IntKind.u64.wrap (p0:Int)=(p0:Int):=IntWalk.u64_in _ (by omega);have W1:IntKind.u64.wrap (p1:Int)=(p1:Int):=IntWalk.u64_in _ (by omega);have W2:IntKind.u64.wrap ((p0:Int)*4294967296)=(p0:Int)*4294967296:=IntWalk.u64_in _ (by omega);have W3:IntKind.u64.wrap (t:Int)=(t:Int):=IntWalk.u64_in _ (by omega);have W4:IntKind.u64.wrap (x:Int)=(x:Int):=IntWalk.u64_in _ (by omega);go_enter Tryz.func145,Tryz.ntmps145
 go_wp2_with fail
 go_quiet (fail)
 try simp only[W0,W1,W2,hor]
 go_wp2_with fail
 go_quiet (fail)
 try simp only[W3,W4]
 clear W0 W1 W2 W3 W4 hor;go_wp2_with fail
 go_quiet (fail)
 simp only[Q0.out,R0.out];clear hqb hrb;go_wp2_with fail
 go_loopw [9,10] (fun c i wr=>∃ q r:Nat,c=.int .u64 (q:Int)/\i=.int .u64 (r:Int)/\q<18446744073709551616/\r<18446744073709551616/\Hid (q*t+r=H)/\Hid (P / D<=q)/\Below w.heap.size w wr) (fun c _ _=>(intOf c).toNat)
 case atStart=>exact⟨qs,rs,rfl,rfl,by omega,by omega,HQR,HST,((below_drewN' _ _ _).trans (below_drewN' _ _ _)).trans (below_drewN' _ _ _)⟩
 case round =>
  clear HQR HST hrs hq0 Q0 R0;obtain⟨q,r,rfl,rfl,hq,hr,HQ,HP,hb⟩:=hrel;have c3':wr.cell? (a.add (ds.length - 2))=some (.int .u32 (p2:Int)):=by rw[hb.cell (cell_lt c3)];exact c3
  clear c1 c2 c3 c4 c5;have hp2':p2<4294967296:=hp2
  by_cases hr1:4294967296<=r
  ·have hqB:q<L32:=by
    rcases Nat.lt_or_ge q L32 with h | h
    ·exact h
    exfalso
    have e:=Nat.mul_le_mul_right t h;have e2:=HQ.out;have e3:=HH.out;rw[Nat.mul_comm t L32] at e3;have hL:L32=4294967296:=rfl
    omega
   have HF:=Lib.hid (HG.out.stop HQ.out hqB (Or.inr hr1));have hqL:q<4294967296:=hqB;go_wp2_with fail
   go_ret
   exact⟨q,rfl,hqB,HP.out,HF.out,hb⟩
  by_cases hq1:4294967296<=q
  ·have HP':=Lib.hid (show P / D<=q - 1 by have hL:L32=4294967296:=rfl;have:=HG.out.quo;omega)
   have HQ':=Lib.hid (show (q - 1)*t+(r+t)=H by
    have e:q*t=(q - 1)*t+t:=by rw[<-Nat.succ_mul];congr 1;omega
    have:=HQ.out;omega)
   have hrt:r+t<18446744073709551616:=by have:=HQ'.out;omega
   go_wp2_with fail
   go_roundw
   case rel=>exact⟨q - 1,r+t,by go_num,by go_num,by omega,hrt,HQ',HP',hb⟩
   case measure=>simp[intOf];omega
  have hqx:0<=(q:Int)*(x:Int)/\(q:Int)*(x:Int)<=18446744065119617025:=by
   have:=mul_bound (x:=q) (y:=x) (by omega) hx1;have e:(q:Int)*(x:Int)=((q*x:Nat):Int):=by simp
   rw[e];omega
  have hor:=or_join (r:=r) (x:=p2) (by omega) hp2;have hjb:=joinI_bound (r:=r) (x:=p2) (by omega) hp2
  by_cases hc:joinN r p2<q*x
  ·have hP:=HG.out.down HQ.out hc;have HP':=Lib.hid (show P / D<=q - 1 by omega)
   have hq0:0<q:=by
    rcases Nat.eq_zero_or_pos q with h | h
    ·rw[h] at hc;omega
    exact h
   have HQ':=Lib.hid (show (q - 1)*t+(r+t)=H by
    have e:q*t=(q - 1)*t+t:=by rw[<-Nat.succ_mul];congr 1;omega
    have:=HQ.out;omega)
   have hrt:r+t<18446744073709551616:=by have:=HQ'.out;omega
   have hc':joinI r p2<(q:Int)*(x:Int):=by unfold joinI;exact_mod_cast hc
   clear hc hP;go_wp2_with fail
   go_roundw
   case rel=>exact⟨q - 1,r+t,by go_num,by go_num,by omega,hrt,HQ',HP',hb⟩
   case measure=>simp[intOf];omega
  have HF:=Lib.hid (HG.out.stop HQ.out (Nat.lt_of_not_le hq1) (Or.inl (Nat.le_of_not_lt hc)))
  have hc':(q:Int)*(x:Int)<=joinI r p2:=by
   unfold joinI;have:=Nat.le_of_not_lt hc
   exact_mod_cast this
  clear hc;have hqL:q<4294967296:=by omega
  go_wp2_with fail
  go_ret
  exact⟨q,rfl,Nat.lt_of_not_le hq1,HP.out,HF.out,hb⟩
theorem subTimes_step {B:Nat} {t ys:List Nat} {S x k c b z v b':Nat} (hy:k<ys.length) (ht:k<t.length) (h:val B t+x*val B (ys.take k)=S+(c+b)*B ^ k) (hz:z=c+x*ys.getD k 0) (hv:v+z % B+b=t.getD k 0+b'*B) :
  val B (t.set k v)+x*val B (ys.take (k+1))=S+(z / B+b')*B ^ (k+1):=by
 have h1:=val_set B t k v ht;rw[val_take_succ B ys k hy,Nat.pow_succ];have h2:=Nat.mod_add_div z B;generalize z % B=r at *;generalize z / B=q at *;generalize B ^ k=P at *;have h3:(r+B*q)*P=(c+x*ys.getD k 0)*P:=by rw[h2,hz]
 have h4:(v+r+b)*P=(t.getD k 0+b'*B)*P:=by rw[hv]
 grind
theorem subTimes_last {B:Nat} {t:List Nat} {S Y k c b v b':Nat} (ht:k<t.length) (h:val B t+Y=S+(c+b)*B ^ k) (hv:v+c+b=t.getD k 0+b'*B) :
  val B (t.set k v)+Y=S+b'*B ^ (k+1):=by
 have h1:=val_set B t k v ht;rw[Nat.pow_succ];generalize B ^ k=P at *;have h4:(v+c+b)*P=(t.getD k 0+b'*B)*P:=by rw[hv]
 grind
theorem subTimes_any (g:Nat) (pre s post ys:List Nat) (vs vb:Value) (x:Nat) (zx:Int) (w:World) (hw:Ws w .u32 113 vs g pre s post) (hb:Sl w .u32 vb ys) (ha:Apart g vb) (hl:s.length=ys.length+1)
  (hs:Dig L32 s) (hy:Dig L32 ys) (hzx:zx=(x:Int)) (hx:x<4294967296) :
  Calls Tryz.prog 146 #[vs,vb,.int .u32 zx] w fun e w'=>∃ s' b o,e=.returned (.bool o)/\(b=0/\o=false\/b=1/\o=true)/\Ws w' .u32 113 vs g pre s' post/\w.grownBy w' (some g)/\s'.length=s.length/\Dig L32 s' /\
   val L32 s'+x*val L32 ys=val L32 s+b*L32 ^ (ys.length+1):=by
 subst hzx;have hl1:ys.length<s.length:=by omega
 have HL:=Lib.hid hl;clear hl;obtain⟨ao,cap,rfl,h1,h2,h3,h4⟩:=hw;have HB:=Lib.hid hb;obtain⟨bo,bcap,rfl,k1,k2,k3,k4⟩:=hb;go_enter Tryz.func146,Tryz.ntmps146
 go_wp2
 go_loopw [7,8,13] (fun c b i wr=>∃ (k:Nat) (t:List Nat) (cc bb:Nat),i=.int .i64 k/\c=.int .u64 (cc:Int)/\b=.int .u32 (bb:Int)/\cc<4294967296/\bb<=1/\k<=ys.length/\w.grownBy wr (some g)/\Hid (t.length=s.length)/\Dig 4294967296 t /\
   WsAt wr .u32 113 ao g pre t post s.length/\Hid (val L32 t+x*val L32 (ys.take k)=val L32 s+(cc+bb)*L32 ^ k))
  (fun _ _ i _=>ys.length - (intOf i).toNat)
 case atStart=>exact⟨0,s,0,0,rfl,rfl,rfl,by omega,by omega,by omega,World.grownBy.refl _ _,Lib.hid rfl,hs,h4,Lib.hid (by simp[val])⟩
 case round =>
  obtain⟨k,t,cc,bb,rfl,rfl,rfl,hcc,hbb,hk,hg,Ht,hdt,hB,HV⟩:=hrel
  by_cases hlt:k<ys.length
  ·obtain⟨b,rfl,hcb⟩:=k4 k hlt;obtain⟨rfl,hB'⟩:=hB (by omega);have hkt:k<t.length:=by have:=Ht.out;omega
   have hcb':=(HB.out.grown hg ha).at hlt
   have hct:wr.cell? ⟨g,pre.length+k,none⟩=some (.int .u32 (nth t k)):=by
    rw[hB'.cell (by simp;omega),nth_mid _ _ _ _ hkt]
   have hft:=hB'.frozen (pre.length+k);have y1:=u32_wf hy k;have t1:=u32_wf hdt k;have y0:=hy.getD (by decide) k;have t0:=hdt.getD (by decide) k
   have hm:0<=(x:Int)*nth ys k/\(x:Int)*nth ys k<=18446744065119617025:=by
    have:=mul_bound hx y0;have e:(x:Int)*nth ys k=((x*ys.getD k 0:Nat):Int):=by unfold nth;simp
    rw[e];omega
   have HE:=Lib.hid (show (cc:Int)+(x:Int)*nth ys k=((cc+x*ys.getD k 0:Nat):Int) by unfold nth;simp);have HZ:=Lib.hid (show cc+x*ys.getD k 0<18446744073709551616 by have:=mul_bound hx y0;omega);obtain⟨b',e1,e2,v',e3,e4,e5⟩:=bor32_nat (t.getD k 0) ((cc+x*ys.getD k 0) % L32) bb t0 (Nat.mod_lt _ (by decide)) hbb;have HS:=Lib.hid (subTimes_step hlt hkt HV.out rfl e5);have E1:=Lib.hid e1;have E3:=Lib.hid e3;have HM:=Lib.hid (show ((cc:Int)+(x:Int)*nth ys k) % 4294967296=(((cc+x*ys.getD k 0) % L32:Nat):Int) by rw[HE.out];rfl);clear hcb hB h4 k4 y0 t0 e1 e3 e5;go_wp2_with (go_at_call 130;refine (sub32_any _ _ _ _ (by omega) (by omega) (by omega)).mono ?_;rintro e w' ⟨rfl,rfl⟩)
   go_roundw
   case rel =>
    have hE:=HE.out;have hz:=HZ.out;refine⟨k+1,t.set k v',(cc+x*ys.getD k 0) / L32,b',by go_num,?_,?_,?_,e2,by omega,grown_setCell hg _,Lib.hid (by rw[List.length_set];exact Ht.out),hdt.set e4,fun _=>⟨rfl,?_⟩,HS⟩
    ·rw[hE];congr 1
    ·rw[<-E1.out,HM.out];rfl
    ·exact Nat.div_lt_of_lt_mul (by omega)
    rw[<-set_mid _ _ _ _ _ hkt];exact hB'.set _ _ _ (by rw[HM.out,<-E3.out];rfl)
   case measure=>simp[intOf];omega
  have hkk:k=ys.length:=by omega
  subst hkk;obtain⟨rfl,hB'⟩:=hB (by omega);have hkt:ys.length<t.length:=by have:=Ht.out;omega
  have hft:=hB'.frozen (pre.length+ys.length)
  have hct:wr.cell? ⟨g,pre.length+ys.length,none⟩=some (.int .u32 (nth t ys.length)):=by
   rw[hB'.cell (by simp;omega),nth_mid _ _ _ _ hkt]
  have t1:=u32_wf hdt ys.length;have t0:=hdt.getD (by decide) ys.length;obtain⟨b',e1,e2,v',e3,e4,e5⟩:=bor32_nat (t.getD ys.length 0) cc bb t0 hcc hbb;have HV':=Lib.hid (show val L32 t+x*val L32 ys=val L32 s+(cc+bb)*L32 ^ ys.length by have:=HV.out;rwa [List.take_length] at this);have HS:=Lib.hid (subTimes_last hkt HV'.out e5);have E1:=Lib.hid e1;have E3:=Lib.hid e3
  have hfin:∀ w2,Blk w2 g .u32 113 (pre++t.set ys.length v'++post)->Ws w2 .u32 113 (.slice (some ⟨g,pre.length,none⟩) s.length cap) g pre (t.set ys.length v') post:=fun w2 h =>
   ⟨some ⟨g,pre.length,none⟩,cap,by rw[List.length_set,Ht.out],by rw[List.length_set,Ht.out];exact h1,h2,h3,fun _=>⟨rfl,h⟩⟩
  have HFIN:=Lib.hid hfin;have hbI:bor32 (nth t ys.length) cc bb=(b':Int):=e1;have HB1:=Lib.hid hbI;clear hB h4 k4 e1 e3 e5 t0 hfin HV HV' hbI;go_wp2_with (go_at_call 130;refine (sub32_any _ _ _ _ (by omega) (by omega) (by omega)).mono ?_;rintro e w' ⟨rfl,rfl⟩)
  go_ret
  refine⟨t.set ys.length v',b',decide ((0:Int)<bor32 (nth t ys.length) cc bb),rfl,?_,?_,grown_setCell hg _,by rw[List.length_set];exact Ht.out,hdt.set e4,HS.out⟩
  ·rcases Nat.eq_zero_or_pos b' with h | h
   ·exact Or.inl ⟨h,by rw[HB1.out,h];rfl⟩
   exact Or.inr ⟨by omega,by rw[HB1.out];simpa using h⟩
  refine HFIN.out _ ?_;rw[<-set_mid _ _ _ _ _ hkt];exact hB'.set _ _ _ (by rw[<-E3.out];rfl)
theorem step_math {P D g t' b n:Nat} (hD:0<D) (h1:P / D<=g) (h2:g<=P / D+1) (h:t'+g*D=P+b*L32 ^ n) (ht:t'<L32 ^ n) (hb:b=0\/b=1) (hP:D<=L32 ^ n) :
  b=0/\g=P / D/\t'=P % D\/b=1/\g=P / D+1/\(t'+D) % L32 ^ n=P % D:=by
 have hm:=Nat.div_add_mod P D;have hr:=Nat.mod_lt P hD;rw[Nat.mul_comm] at hm;generalize P / D=Q at *;generalize P % D=R at *;generalize L32 ^ n=T at *;have hg:g=Q\/g=Q+1:=by omega
 rcases hg with rfl | rfl
 ·rcases hb with rfl | rfl
  ·left;exact⟨rfl,rfl,by omega⟩
  exfalso;omega
 rw[Nat.succ_mul] at h;rcases hb with rfl | rfl
 ·exfalso;omega
 right
 refine⟨rfl,rfl,?_⟩;rw[show t'+D=R+1*T by omega,Nat.add_mul_mod_self_right,Nat.mod_eq_of_lt (by omega)]
theorem divStep_any (g:Nat) (pre s post ys:List Nat) (vs vb:Value) (w:World) (hw:Ws w .u32 113 vs g pre s post) (hb:Sl w .u32 vb ys) (ha:Apart g vb) (hl:s.length=ys.length+1) (hl2:2<=ys.length)
  (hs:Dig L32 s) (hy:Dig L32 ys) (ht:0<ys.getD (ys.length - 1) 0) (hlt:val L32 s<val L32 ys*L32) (hg:g<w.heap.size) :
  Calls Tryz.prog 133 #[vs,vb] w fun e w'=>∃ (s':List Nat) (q:Nat),e=.returned (.int .u32 (q:Int))/\q=val L32 s / val L32 ys/\q<L32/\Ws w' .u32 113 vs g pre s' post/\w.grownBy w' (some g)/\s'.length=s.length/\Dig L32 s' /\
   val L32 s'=val L32 s % val L32 ys:=by
 have hpos:0<val L32 ys:=by
  rcases Nat.eq_zero_or_pos (val L32 ys) with h | h
  ·rw[h] at hlt;omega
  exact h
 have HLT:=Lib.hid hlt;have HL:=Lib.hid hl;have hsl:=Lib.hid hw.sl;have HT:=Lib.hid ht;clear hlt hl ht;obtain⟨ao,cap,rfl⟩:=hw.at;go_enter Tryz.func133,Tryz.ntmps133
 go_wp2_with fail
 refine (guessLimb_any _ _ s ys w hsl.out hb hs hy hl2 HL.out HT.out HLT.out).mono ?_;rintro e w1 ⟨x,rfl,hx,hx1,hx2,hb1⟩;have hw1:=hw.below hb1 hg;have hy1:=hb.below hb1;have hg1:w.grownBy w1 (some g):=grown_of_below hb1;go_wp2_with fail
 refine (subTimes_any g pre s post ys _ _ x _ w1 hw1 hy1 ha HL.out hs hy rfl hx).mono ?_;rintro e w2 ⟨t,b,o,rfl,hbo,hw2,hg2,hl2',hd2,hv2⟩;have hg2':=grown_trans hg1 hg2;have hDn:val L32 ys<=L32 ^ (ys.length+1):=Nat.le_trans (Nat.le_of_lt (val_lt hy)) (Nat.pow_le_pow_right (by decide) (by omega));have hm:=step_math (n:=ys.length+1) hpos hx1 hx2 hv2 (by have:=val_lt hd2;rw[hl2',HL.out] at this;exact this) (by omega) hDn;have HV:=Lib.hid hv2;clear hv2 hx1 hx2;have hxL:x<4294967296:=hx;rcases hbo with ⟨rfl,rfl⟩ | ⟨rfl,rfl⟩
 ·have hm':x=val L32 s / val L32 ys/\val L32 t=val L32 s % val L32 ys:=by omega
  have HM:=Lib.hid hm';clear hm hm';have HL2:=Lib.hid hl2';clear hl2';go_wp2_with fail
  go_ret
  exact⟨t,x,rfl,HM.out.1,hx,hw2,hg2',HL2.out,hd2,HM.out.2⟩
 have hm':x=val L32 s / val L32 ys+1/\(val L32 t+val L32 ys) % L32 ^ (ys.length+1)=val L32 s % val L32 ys:=by omega
 have HM:=Lib.hid hm';have hx0:0<x:=by rw[hm'.1];exact Nat.succ_pos _
 have HL2:=Lib.hid hl2';clear hm hm' hl2';have hy2:=hy1.grown hg2 ha;have hle:ys.length<=t.length:=by have:=HL2.out;have:=HL.out;omega
 have hws2:Ws w2 .u32 113 (.slice ao s.length cap) g pre t post:=hw2;go_wp2_with fail
 refine (addTo_any g pre t post ys _ _ w2 hw2 hy2 ha hle hd2 hy).mono ?_;rintro e w3 ⟨r,rfl,hw3,hg3,hl3,hd3,hv3⟩;have hg3':=grown_trans hg2' hg3;have HV3:=Lib.hid hv3;have HL3:=Lib.hid hl3;clear hv3 hl3 hle;go_wp2_with fail
 go_ret
 refine⟨r,x - 1,?_,by have:=HM.out.1;omega,Nat.lt_of_le_of_lt (Nat.sub_le _ _) hx,hw3,hg3',by rw[HL3.out,HL2.out],hd3,?_⟩
 ·rw[show ((x - 1:Nat):Int)=(x:Int) - 1 by omega];rfl
 rw[HV3.out,HL2.out,HL.out];exact HM.out.2
theorem lt_bl (n:Nat):n<2 ^ bl n:=by
 have h:=val_lt (Dig_dig (B:=2) (by decide) n)
 rwa [val_dig (by decide)] at h
theorem shift_len {Y:List Nat} {n s:Nat} (dy:Dig L32 Y) (hn:Y.length=n+1) (ht:0<Y.getD n 0) (hs:s+bl (Y.getD n 0)<=32) :
  (dig L32 (val L32 Y*2 ^ s)).length=n+1/\0<(dig L32 (val L32 Y*2 ^ s)).getD n 0/\L32 ^ n*2 ^ s<=val L32 Y*2 ^ s:=by
 have e:=val_take_succ' L32 Y n;rw[show n+1=Y.length by omega,List.take_length] at e;have h1:=val_lt (dy.take n);rw[List.length_take,Nat.min_eq_left (by omega)] at h1;have h2:=lt_bl (Y.getD n 0);generalize Y.getD n 0=t at *
 have hlo:L32 ^ n<=val L32 Y:=by
  rw[e];have:=Nat.mul_le_mul_right (L32 ^ n) ht
  omega
 have hlo2:L32 ^ n*2 ^ s<=val L32 Y*2 ^ s:=Nat.mul_le_mul_right _ hlo
 have hup:val L32 Y*2 ^ s<L32 ^ (n+1):=by
  have h3:val L32 Y<(t+1)*L32 ^ n:=by rw[e,Nat.succ_mul];omega
  have h4:(t+1)*L32 ^ n<=2 ^ bl t*L32 ^ n:=Nat.mul_le_mul_right _ h2;have h5:val L32 Y*2 ^ s<2 ^ bl t*L32 ^ n*2 ^ s:=Nat.mul_lt_mul_of_pos_right (Nat.lt_of_lt_of_le h3 h4) (Nat.pow_pos (by decide));have h6:2 ^ bl t*L32 ^ n*2 ^ s=2 ^ (s+bl t)*L32 ^ n:=by rw[Nat.pow_add];grind
  have h7:2 ^ (s+bl t)<=2 ^ 32:=Nat.pow_le_pow_right (by decide) hs;have h8:2 ^ (s+bl t)*L32 ^ n<=2 ^ 32*L32 ^ n:=Nat.mul_le_mul_right _ h7;have h9:L32 ^ (n+1)=2 ^ 32*L32 ^ n:=by rw[Nat.pow_succ,Nat.mul_comm]
  omega
 have hge:L32 ^ n<=val L32 Y*2 ^ s:=Nat.le_trans hlo (Nat.le_mul_of_pos_right _ (Nat.pow_pos (by decide)));generalize val L32 Y*2 ^ s=D at *;have hd:=Dig_dig (B:=L32) (by decide) D;have hv:=val_dig (B:=L32) (by decide) D
 have hl:(dig L32 D).length=n+1:=by
  have h1:=length_dig_le (B:=L32) (by decide) hup;rcases Nat.lt_or_ge (dig L32 D).length (n+1) with h | h
  ·exfalso
   have h3:=val_lt hd;rw[hv] at h3;have h4:L32 ^ (dig L32 D).length<=L32 ^ n:=Nat.pow_le_pow_right (by decide) (by omega)
   omega
  omega
 refine⟨hl,?_,hlo2⟩;rcases Nat.eq_zero_or_pos ((dig L32 D).getD n 0) with h | h
 ·exfalso
  have e2:=val_take_succ' L32 (dig L32 D) n;rw[show n+1=(dig L32 D).length by omega,List.take_length,h,hv,Nat.zero_mul] at e2;have h3:=val_lt (hd.take n);rw[List.length_take,Nat.min_eq_left (by omega)] at h3
  omega
 exact h
theorem val_zeros_high {B:Nat} {R:List Nat} {j:Nat} (h:val B R<B ^ j):val B R=val B (R.take j):=by
 rcases Nat.lt_or_ge R.length j with hj | hj
 ·rw[List.take_of_length_le (by omega)]
 have h1:=val_split B R j hj;rcases Nat.eq_zero_or_pos (val B (R.drop j)) with h0 | h0
 ·rw[h0] at h1;omega
 have:=Nat.mul_le_mul_left (B ^ j) h0
 omega
theorem long_part {B:Nat} (B0:0<B) {R Q:List Nat} {D A i n:Nat} (dr:Dig B R) (hD:D<B ^ n) (hi:i+n+1<=R.length) (hA:val B R+D*val B Q=A) (hR:val B R<D*B ^ (i+1)) :
  val B ((R.drop i).take (n+1))<D*B/\∀ (s':List Nat) (q:Nat),s'.length=n+1->i<Q.length->Q.getD i 0=0->q=val B ((R.drop i).take (n+1)) / D->val B s'=val B ((R.drop i).take (n+1)) % D ->
   val B (R.take i++s'++R.drop (i+(n+1)))+D*val B (Q.set i q)=A/\val B (R.take i++s'++R.drop (i+(n+1)))<D*B ^ i:=by
 have hpos:0<D:=by
  rcases Nat.eq_zero_or_pos D with h | h
  ·rw[h] at hR;omega
  exact h
 have hlt:val B R<B ^ (i+(n+1)):=by
  refine Nat.lt_of_lt_of_le hR ?_;rw[show i+(n+1)=n+(i+1) by omega,Nat.pow_add B n];exact Nat.mul_le_mul_right _ (Nat.le_of_lt hD)
 have h1:=val_zeros_high hlt
 have h0:val B (R.drop (i+(n+1)))=0:=by
  have h2:=val_split B R (i+(n+1)) (by omega);rw[<-h1] at h2;have h3:0<B ^ (i+(n+1)):=Nat.pow_pos B0;rcases Nat.eq_zero_or_pos (val B (R.drop (i+(n+1)))) with h | h
  ·exact h
  have:=Nat.mul_pos h3 h;omega
 have h4:=val_split B R i (by omega)
 have h5:val B (R.drop i)=val B ((R.drop i).take (n+1)):=by
  have h6:=val_split B (R.drop i) (n+1) (by rw[List.length_drop];omega);rw[List.drop_drop,h0] at h6
  omega
 have h7:=val_lt (dr.take i);rw[List.length_take,Nat.min_eq_left (by omega)] at h7;have hP:0<B ^ i:=Nat.pow_pos B0;rw[h5] at h4;generalize hS:val B ((R.drop i).take (n+1))=S at *;rw[Nat.pow_succ] at hR;refine⟨?_,?_⟩
 ·refine Nat.lt_of_mul_lt_mul_left (a:=B ^ i) ?_;have e:B ^ i*(D*B)=D*(B ^ i*B):=by grind
  rw[e];omega
 intro s' q hl hi2 hq0 hq hs
 have e1:val B (R.take i++s'++R.drop (i+(n+1)))=val B (R.take i)+B ^ i*val B s':=by
  rw[val_append,val_append,h0,List.length_take,Nat.min_eq_left (by omega)]
  omega
 have e2:=val_set B Q i q hi2;rw[hq0] at e2;have e3:=Nat.div_add_mod S D;have e4:=Nat.mod_lt S hpos;rw[e1,hs];rw[<-hq] at e3;generalize S % D=r at *;generalize val B (R.take i)=T at *;generalize B ^ i=P at *
 constructor
 ·rw[<-hA,h4,<-e3,show val B (Q.set i q)=val B Q+q*P by omega]
  grind
 have e5:P*(r+1)<=P*D:=Nat.mul_le_mul_left _ e4;rw[Nat.mul_comm D P];rw[Nat.mul_succ] at e5
 omega
theorem ws_sub {w:World} {T:TypeId} {g i n c:Nat} {P:List Nat} (hB:Blk w g .u32 T P) (hi:i+n<=P.length) (hc:n<=c) (hm:c<=9223372036854775807) :
  Ws w .u32 T (.slice (some ⟨g,i,none⟩) n c) g (P.take i) ((P.drop i).take n) (P.drop (i+n)):=by
 have e1:((P.drop i).take n).length=n:=by simp;omega
 have e2:(P.take i).length=i:=by simp;omega
 refine⟨some ⟨g,i,none⟩,c,by rw[e1],by rw[e1];omega,hm,(fun e=>by cases e),fun _=>⟨by rw[e2],?_⟩⟩
 have e3:P.take i++(P.drop i).take n++P.drop (i+n)=P:=by
  rw[List.append_assoc,<-List.drop_drop,List.take_append_drop,List.take_append_drop]
 rw[e3];exact hB
set_option maxRecDepth 100000 in
theorem divLong_any (va vb:Value) (X Y:List Nat) (w:World) (hx:Sl w .u32 va X) (hy:Sl w .u32 vb Y) (dx:Dig L32 X) (dy:Dig L32 Y) (hn:2<=Y.length) (ht:0<Y.getD (Y.length - 1) 0) (hm:X.length<=900000) (hle:val L32 Y<=val L32 X) :
  Calls Tryz.prog 106 #[va,vb] w fun e w'=>∃ q r,e=.returned (.tuple #[q,r])/\Sl w' .u32 q (dig L32 (val L32 X / val L32 Y))/\Sl w' .u32 r (dig L32 (val L32 X % val L32 Y))/\Below w.heap.size w w':=by
 obtain⟨i0,hi,hz0,hz1,hz2⟩:=info_parts info51;have t0:=dy.getD (by decide) (Y.length - 1);have t1:=u32_wf dy (Y.length - 1);have hl32:bl (Y.getD (Y.length - 1) 0)<=32:=bl_le t0;obtain⟨s,hs⟩:∃ s,s=32 - bl (Y.getD (Y.length - 1) 0):=⟨_,rfl⟩
 have hbl:(32:Int) - (Lib.bitLen (nth Y (Y.length - 1)).toNat:Int)=(s:Int):=by
  unfold nth;rw[Int.toNat_natCast,bitLen_bl _ (Nat.lt_trans t0 (by decide))];omega
 have hcl:clampN (s:Int)=s:=by unfold clampN;omega
 obtain⟨h1,h2,h3⟩:=shift_len (n:=Y.length - 1) (s:=s) dy (by omega) ht (by omega);rw[show Y.length - 1+1=Y.length by omega] at h1
 have hmn:Y.length<=X.length:=by
  rcases Nat.lt_or_ge X.length Y.length with h | h
  ·exfalso
   have e1:=val_lt dx;have e2:L32 ^ X.length<=L32 ^ (Y.length - 1):=Nat.pow_le_pow_right (by decide) (by omega);have e3:=Nat.le_of_mul_le_mul_right h3 (Nat.pow_pos (by decide))
   omega
  exact h
 have hXA:val L32 X*2 ^ s<L32 ^ (X.length+1):=by
  rw[Nat.pow_succ];exact Nat.mul_lt_mul_of_lt_of_le (val_lt dx) (show 2 ^ s<=2 ^ 32 from Nat.pow_le_pow_right (by decide) (by omega)) (by decide)
 have hla:=length_dig_le (B:=L32) (k:=X.length+1) (by decide) hXA
 have hq0:val L32 X*2 ^ s<val L32 Y*2 ^ s*L32 ^ (X.length - Y.length+1):=by
  have e1:L32 ^ (Y.length - 1)*2 ^ s*L32 ^ (X.length - Y.length+1)<=val L32 Y*2 ^ s*L32 ^ (X.length - Y.length+1):=Nat.mul_le_mul_right _ h3
  have e2:L32 ^ (Y.length - 1)*2 ^ s*L32 ^ (X.length - Y.length+1)=L32 ^ X.length*2 ^ s:=by
   rw[Nat.mul_right_comm,<-Nat.pow_add];congr 2;omega
  have e3:val L32 X*2 ^ s<L32 ^ X.length*2 ^ s:=Nat.mul_lt_mul_of_pos_right (val_lt dx) (Nat.pow_pos (by decide))
  omega
 have hDn:val L32 Y*2 ^ s<L32 ^ Y.length:=by
  have:=val_lt (Dig_dig (B:=L32) (by decide) (val L32 Y*2 ^ s))
  rwa [val_dig (by decide),h1] at this
 have hdiv:val L32 X*2 ^ s / (val L32 Y*2 ^ s)=val L32 X / val L32 Y:=Nat.mul_div_mul_right _ _ (Nat.pow_pos (by decide))
 have hmod:val L32 X*2 ^ s % (val L32 Y*2 ^ s) / 2 ^ s=val L32 X % val L32 Y:=by
  rw[Nat.mul_mod_mul_right,Nat.mul_div_cancel _ (Nat.pow_pos (by decide))]
 have hs32:s<=32:=by omega
 obtain⟨Dl,hDl⟩:∃ Dl,Dl=dig L32 (val L32 Y*2 ^ s):=⟨_,rfl⟩
 obtain⟨D,hDv⟩:∃ D,D=val L32 Y*2 ^ s:=⟨_,rfl⟩
 obtain⟨A,hAv⟩:∃ A,A=val L32 X*2 ^ s:=⟨_,rfl⟩
 obtain⟨R0,hR0⟩:∃ R0,R0=dig L32 (val L32 X*2 ^ s)++List.replicate (X.length+1 - (dig L32 (val L32 X*2 ^ s)).length) 0:=⟨_,rfl⟩
 have dDl:Dig L32 Dl:=by rw[hDl];exact Dig_dig (by decide) _
 have vDl:val L32 Dl=D:=by rw[hDl,val_dig (by decide),hDv]
 have dR0:Dig L32 R0:=by rw[hR0];exact (Dig_dig (by decide) _).append (Dig.replicate (by decide) _)
 have vR0:val L32 R0=A:=by rw[hR0,append_zeros_val,val_dig (by decide),hAv]
 have lR0:R0.length=X.length+1:=by rw[hR0,lsa,List.length_replicate];omega
 have hDpos:0<D:=by
  rcases Nat.eq_zero_or_pos D with h | h
  ·rw[hDv] at h;rw[h] at hq0;omega
  exact h
 rw[<-hDl] at h1 h2;rw[<-hDv] at hq0 hDn hdiv hmod;rw[<-hAv] at hq0 hdiv hmod;have HRL:=Lib.hid lR0;have HVR:=Lib.hid vR0;have HVD:=Lib.hid vDl;have HDl:=Lib.hid hDl;have HR0:=Lib.hid hR0;have HD:=Lib.hid hdiv;have HM:=Lib.hid hmod;have HC:=Lib.hid hcl;have HBL:=Lib.hid hbl;have HT:=Lib.hid h2;have HQ0:=Lib.hid hq0;have HDN:=Lib.hid hDn;have HLA:=Lib.hid hla;have HLD:=Lib.hid h1;clear hdiv hmod hcl hbl h1 h2 h3 hq0 hDn hXA ht hle hla hs hDl hR0 vDl vR0 lR0 hDv hAv;obtain⟨ao,ac,rfl⟩:=sl_shape hx;have HY:=Lib.hid hy;obtain⟨bo,bc,rfl,b1,b2,b3,b4⟩:=hy;obtain⟨b,rfl,c1⟩:=b4 (Y.length - 1) (by omega);clear b4 b3;go_enter Tryz.func106,Tryz.ntmps106
 go_wp2_with fail
 refine (Tryz.bits_LeadingZeros32 _ _ (by omega) (by omega)).mono ?_;rintro e w' ⟨rfl,hw'⟩;obtain rfl:=hw'.symm;rw[HBL.out];go_wp2_with fail
 refine (shl_any _ Y _ _ HY.out dy (by omega)).mono ?_;rintro e w1 ⟨vd,rfl,hd1,hb1⟩;rw[HC.out,<-HDl.out] at hd1;go_wp2_with fail
 refine (shl_any _ X _ w1 (hx.below hb1) dx (by omega)).mono ?_;rintro e w2 ⟨v2,rfl,ha2,hb2⟩;rw[HC.out] at ha2;have hd2:=hd1.below hb2;have hb2t:Below _ _ w2:=hb1.trans (hb2.mono hb1.size);obtain⟨o2,cp2,rfl⟩:=sl_shape ha2;go_wp2_with fail
 refine (padded_any o2 _ cp2 _ (X.length+1) _ w2 ha2 HLA.out (by omega) (by omega)).mono ?_;rintro e w3 ⟨v3,rfl,hr3,hb3,hs3⟩;rw[<-HR0.out] at hr3;have hb3t:Below _ _ w3:=hb2t.trans (hb3.mono hb2t.size);obtain⟨o3,c3,rfl,r1,r2,r3,r4⟩:=hr3;obtain⟨rfl,hB3⟩:=r4 (by rw[HRL.out];omega);rw[List.nil_append,List.append_nil] at hB3;rw[HRL.out] at r1 r4 ⊢;have hs3':w2.heap.size<w3.heap.size:=hs3 (by omega);have hd3:=hd2.below hb3;obtain⟨od,cd,rfl⟩:=sl_shape hd3;have hap:Apart w2.heap.size (.slice od Dl.length cd):=sl_apart hd2 (Nat.le_refl _);rw[HLD.out] at hap hd3 ⊢;clear hs3 r4 ha2 hd2 hd1;go_wp2_with (at_make;refine wpList_make_blk _ rfl _ _ 24 rfl 113 i0 .u32 Tryz.underlying24 hi hz0 hz1 _ _ _ _ (X.length - Y.length+1) rfl rfl (by omega) (by omega) (by omega) (by omega) ?_;intro w4 hB4 hb4 hs4)
 have hd4:=hd3.below hb4;have hb4t:Below w.heap.size w w4:=hb3t.trans (hb4.mono hb3t.size);have hB34:=hB3.below hb4 (by omega);have hap2:Apart w3.heap.size (.slice od Y.length cd):=sl_apart hd3 (Nat.le_refl _);have hg1:=hb2t.size;have hg2:=hb3t.size;clear hB3 hd3
 go_loopw [10] (fun i wr=>∃ (k:Nat) (R Q:List Nat),i=.int .i64 ((k:Int) - 1)/\k<=X.length - Y.length+1/\Blk wr w2.heap.size .u32 113 R/\Blk wr w3.heap.size .u32 113 Q/\Below w.heap.size w wr/\Sl wr .u32 (.slice od Y.length cd) Dl/\Dig L32 R/\Dig L32 Q /\
  Hid (R.length=X.length+1)/\Hid (Q.length=X.length - Y.length+1)/\Hid (∀ j,j<k->Q.getD j 0=0)/\Hid (val L32 R+D*val L32 Q=A)/\Hid (val L32 R<D*L32 ^ k)) (fun i _=>(intOf i+1).toNat)
 case atStart=>exact⟨X.length - Y.length+1,R0,_,by go_num,Nat.le_refl _,hB34,hB4,hb4t,hd4,dR0,Dig.replicate (by decide) _,HRL,Lib.hid (by simp),Lib.hid (fun j _=>getD_zeros _ _),Lib.hid (by rw[val_replicate_zero,HVR.out];simp),Lib.hid (by rw[HVR.out];exact HQ0.out)⟩
 case round =>
  clear hB34 hB4 hb4t hd4 hb4 hs4;obtain⟨k,R,Q,rfl,hk,hBR,hBQ,hb,hd,dR,dQ,HLR,HLQ,HZ,HA,HR⟩:=hrel
  by_cases h0:0<k
  ·have hws:=ws_sub (i:=k - 1) (n:=Y.length+1) (c:=c3 - (k - 1)) hBR (by have:=HLR.out;omega) (by omega) (by omega);have hft:=hBQ.frozen (k - 1);have hQl:k - 1<Q.length:=by have:=HLQ.out;omega
   go_wp2_with fail
   rw[show k - 1+Y.length+1 - (k - 1)=Y.length+1 by omega];have hlp:=long_part (B:=L32) (by decide) (i:=k - 1) (n:=Y.length) dR HDN.out (by have:=HLR.out;omega) HA.out (by rw[show k - 1+1=k by omega];exact HR.out);refine (divStep_any w2.heap.size _ _ _ Dl _ _ wr hws hd hap (by rw[HLD.out,List.length_take,List.length_drop,HLR.out];omega) (by rw[HLD.out];omega) ((dR.drop _).take _) dDl (by rw[HLD.out];exact HT.out) (by rw[HVD.out];exact hlp.1) hBR.lt).mono ?_;rintro e w5 ⟨r,q,rfl,hq,hqb,hw5,hg5,hl5,hd5,hv5⟩;rw[HVD.out] at hq hv5;rw[List.length_take,List.length_drop,HLR.out,Nat.min_eq_left (by omega)] at hl5;have HN:=Lib.hid (hlp.2 r q hl5 hQl (HZ.out _ (by omega)) hq hv5);have hBR5:=ws_whole hw5 (by omega);have hBQ5:=hBQ.other hg5 (fun e=>by injection e with e;omega);have hft5:=hBQ5.frozen (k - 1);have hcl5:=hBQ5.cell hQl
   have hb5:=hb.trans (below_of_grown' hg5 hg1 hb.size);have hd5':=hd.grown hg5 hap;have hqb':q<4294967296:=hqb;have HL5:=Lib.hid hl5;clear hlp hq hv5 hl5 hw5 hws hft;go_wp2_with fail
   go_roundw
   case rel =>
    have hset:=hBQ5.set (k - 1) q _ rfl;refine⟨k - 1,R.take (k - 1)++r++R.drop (k - 1+(Y.length+1)),Q.set (k - 1) q,by go_num,by omega,?_,hset,below_of_grown' (grown_setCell (World.grownBy.refl _ _) _) hg2 hb5.size |> hb5.trans,hd5'.grown (grown_setCell (World.grownBy.refl _ _) _) hap2,((dR.take _).append hd5).append (dR.drop _),dQ.set hqb,Lib.hid ?_,Lib.hid (by rw[List.length_set];exact HLQ.out),Lib.hid ?_,Lib.hid HN.out.1,Lib.hid HN.out.2⟩
    ·exact hBR5.other (grown_setCell (World.grownBy.refl _ (some w3.heap.size)) _) (fun e=>by injection e with e;omega)
    ·rw[lsa,lsa,HL5.out,List.length_take,List.length_drop,HLR.out];omega
    intro j hj;rw[getD_set,if_neg (by omega)];exact HZ.out j (by omega)
   case measure=>simp[intOf];omega
  have hk0:k=0:=by omega
  subst hk0;have hA:=HA.out;have hR:=HR.out;rw[Nat.pow_zero,Nat.mul_one] at hR
  have e1:val L32 Q=A / D:=by
   rw[<-hA,Nat.add_mul_div_left _ _ hDpos,Nat.div_eq_of_lt hR,Nat.zero_add]
  have e2:val L32 R=A % D:=by
   rw[<-hA,Nat.add_mul_mod_self_left,Nat.mod_eq_of_lt hR]
  rw[HD.out] at e1;have e3:val L32 R / 2 ^ s=val L32 X % val L32 Y:=by rw[e2];exact HM.out
  have E1:=Lib.hid e1;have E3:=Lib.hid e3;have hsq:=hBQ.sl 0 (X.length - Y.length+1) (X.length - Y.length+1) (by rw[HLQ.out];omega) (Nat.le_refl _) (by omega);rw[List.drop_zero,List.take_of_length_le (by rw[HLQ.out];omega)] at hsq;have hsr:=hBR.sl 0 (X.length+1) c3 (by rw[HLR.out];omega) (by omega) (by omega);rw[List.drop_zero,List.take_of_length_le (by rw[HLR.out];omega)] at hsr;clear e1 e2 e3 hA hR hBQ hBR;go_wp2_with fail
  refine (trimmed_v _ Q _ hsq dQ).mono ?_;rintro e w6 ⟨v6,rfl,ht6,rfl⟩;go_wp2_with fail
  refine (shr_any _ R _ wr hsr dR (by rw[HLR.out];omega)).mono ?_;rintro e w7 ⟨v7,rfl,ht7,hb7⟩;rw[HC.out,E3.out] at ht7;rw[E1.out] at ht6;go_wp2_with fail
  go_ret2
  exact⟨_,_,rfl,ht6.below hb7,ht7,hb.trans (hb7.mono hb.size)⟩
theorem nz_top {xs:List Nat} {B:Nat} (hB:2<=B) (dx:Dig B xs) (h:nz xs=xs.length) (hp:0<xs.length):0<xs.getD (xs.length - 1) 0:=by
 rcases Nat.eq_zero_or_pos (xs.getD (xs.length - 1) 0) with h0 | h0
 ·exfalso
  have e:=val_take_succ' B xs (xs.length - 1);rw[show xs.length - 1+1=xs.length by omega,List.take_length,h0,Nat.zero_mul,Nat.add_zero] at e;have h1:(dig B (val B xs)).length=nz xs:=length_dig_val hB dx;have h2:=val_lt (dx.take (xs.length - 1));rw[<-e,List.length_take,Nat.min_eq_left (by omega)] at h2;have h3:=length_dig_le hB h2
  omega
 exact h0
theorem nz_take_nz {xs:List Nat} {B:Nat} (hB:2<=B) (dx:Dig B xs):nz (xs.take (nz xs))=nz xs:=by
 have h1:(dig B (val B xs)).length=nz xs:=length_dig_val hB dx;have h2:(dig B (val B (xs.take (nz xs)))).length=nz (xs.take (nz xs)):=length_dig_val hB (dx.take _);rw[val_take_nz hB dx] at h2
 omega
theorem div_two (va vb:Value) (xs ys:List Nat) (w:World) (hx:Sl w .u32 va xs) (hy:Sl w .u32 vb ys) (dx:Dig L32 xs) (dy:Dig L32 ys) (lx:xs.length<=900000) (h0:val L32 ys<=val L32 xs) (h1:2<=nz ys) :
  Calls Tryz.prog 70 #[va,vb] w fun e w'=>∃ q r,e=.returned (.tuple #[q,r,.bool true])/\Sl w' .u32 q (dig L32 (val L32 xs / val L32 ys))/\Sl w' .u32 r (dig L32 (val L32 xs % val L32 ys))/\Below w.heap.size w w':=by
 obtain⟨ao,ac,rfl⟩:=sl_shape hx;obtain⟨bo,bc,rfl⟩:=sl_shape hy;have hly:=nz_le ys;have nx:=nz_le xs;have hx':=hx.take (nz xs) (nz_le xs);have hy':=hy.take (nz ys) (nz_le ys);have VX:=val_take_nz (B:=L32) (by decide) dx;have VY:=val_take_nz (B:=L32) (by decide) dy;have lX:(xs.take (nz xs)).length=nz xs:=by simp;omega
 have lY:(ys.take (nz ys)).length=nz ys:=by simp;omega
 have hT:=nz_top (B:=L32) (by decide) (dy.take (nz ys)) (by rw[nz_take_nz (B:=L32) (by decide) dy,lY]) (by omega);have hz:(((nz ys:Nat):Int)==0)=false:=by rw[beq_eq_false_iff_ne];omega
 have hz1:(((nz ys:Nat):Int)==1)=false:=by rw[beq_eq_false_iff_ne];omega
 have hc:0<=cmpN (val L32 (xs.take (nz xs))) (val L32 (ys.take (nz ys))):=by
  rw[VX,VY];unfold cmpN;rw[if_neg (by omega)];split<;>omega
 have dX:=dx.take (nz xs);have dY:=dy.take (nz ys);have HSX:=Lib.hid hx;have HSY:=Lib.hid hy;have SIGX:=Lib.hid (fun w=>sig_any ao xs.length ac xs w);have SIGY:=Lib.hid (fun w=>sig_any bo ys.length bc ys w);rw[<-VX,<-VY] at h0 ⊢;clear hx hy VX VY dx dy;generalize xs.take (nz xs)=X at *;generalize ys.take (nz ys)=Y at *;generalize nz xs=m at *;generalize nz ys=n at *;have LX:=Lib.hid lX;have LY:=Lib.hid lY;have HT:=Lib.hid hT;have HLE:=Lib.hid h0;clear lX lY hT h0;go_enter Tryz.func70,Tryz.ntmps70
 go_wp2_with fail
 refine (SIGX.out _ HSX.out).mono ?_;rintro e w' ⟨rfl,rfl⟩;go_wp2_with fail
 refine (SIGY.out _ HSY.out).mono ?_;rintro e w' ⟨rfl,rfl⟩;go_wp2_with fail
 refine (cmp_any _ _ _ _ _ hx' hy' dX dY).mono ?_;rintro e w1 ⟨rfl,hb1⟩;go_wp2_with fail
 refine (divLong_any _ _ X Y w1 (hx'.below hb1) (hy'.below hb1) dX dY (by rw[LY.out];exact h1) HT.out (by rw[LX.out];omega) HLE.out).mono ?_;rintro e w2 ⟨q,r,rfl,hq,hr,hb2⟩;go_wp2_with fail
 go_ret3
 exact⟨_,_,rfl,hq,hr,hb1.trans (hb2.mono hb1.size)⟩
theorem div_any (va vb:Value) (xs ys:List Nat) (w:World) (hx:Sl w .u32 va xs) (hy:Sl w .u32 vb ys) (dx:Dig L32 xs) (dy:Dig L32 ys) (lx:xs.length<=900000) (h0:0<val L32 ys) :
  Calls Tryz.prog 70 #[va,vb] w fun e w'=>∃ q r,e=.returned (.tuple #[q,r,.bool true])/\Sl w' .u32 q (dig L32 (val L32 xs / val L32 ys))/\Sl w' .u32 r (dig L32 (val L32 xs % val L32 ys))/\Below w.heap.size w w':=by
 by_cases h:val L32 xs<val L32 ys
 ·refine (div_lt va vb xs ys w hx hy dx dy (by omega) h).mono ?_;rintro e w' ⟨r,rfl,hr,hb⟩;exact⟨_,_,rfl,by rw[Nat.div_eq_of_lt h,dig_zero];exact Sl.nil _ _,by rw[Nat.mod_eq_of_lt h];exact hr,hb⟩
 by_cases h1:nz ys=1
 ·exact div_one va vb xs ys w hx hy dx dy (by omega) (by omega) h1
 exact div_two va vb xs ys w hx hy dx dy lx (by omega) (by have:=nz_pos_of dy h0;omega)
theorem div_n {va vb:Value} {m n k1 k2:Nat} {w:World} (hx:GN w va m k1) (hy:GN w vb n k2) (h1:k1<=900000) (h0:0<n) :
  Calls Tryz.prog 70 #[va,vb] w fun e w'=>∃ q r,e=.returned (.tuple #[q,r,.bool true])/\Sl w' .u32 q (dig L32 (m / n))/\Sl w' .u32 r (dig L32 (m % n))/\Below w.heap.size w w':=by
 obtain⟨xs,hx,dx,rfl,lx⟩:=hx;obtain⟨ys,hy,dy,rfl,ly⟩:=hy;exact div_any _ _ _ _ w hx hy dx dy (by omega) h0
open Classical in
theorem bl_pos {n:Nat} (h:0<n):0<bl n:=by rw[bl_half h];omega
def dn (l:List UInt8):Nat:=l.foldl (fun n c=>10*n+(c.toNat - 48)) 0
def AllD (l:List UInt8):Prop:=∀ c ∈ l,48<=c.toNat/\c.toNat<=57
theorem dn_snoc (l:List UInt8) (c:UInt8):dn (l++[c])=10*dn l+(c.toNat - 48):=by
 unfold dn;rw[List.foldl_append];rfl
theorem digit_of {d:Nat} (h:d<10):(UInt8.ofNat (48+d)).toNat=48+d:=by
 rw[UInt8.toNat_ofNat'];omega
theorem dn_dec (n:Nat):AllD (Lib.decDigits n)/\dn (Lib.decDigits n)=n/\Lib.decDigits n ≠ []/\(0<n->(Lib.decDigits n).getD 0 48≠48):=by
 induction n using Nat.strongRecOn with
 | ind n ih =>
  by_cases h:n<10
  ·rw[Lib.decDigits_one h];refine⟨?_,?_,by simp,?_⟩
   ·intro c hc;obtain rfl:=List.mem_singleton.1 hc;rw[digit_of h];omega
   ·show 10*0+((UInt8.ofNat (48+n)).toNat - 48)=n
    rw[digit_of h];omega
   intro h0 e;have e1:UInt8.ofNat (48+n)=48:=e;have e2:=congrArg UInt8.toNat e1;rw[digit_of h] at e2;have e3:(48:UInt8).toNat=48:=rfl
   omega
  obtain⟨h1,h2,h3,h4⟩:=ih (n / 10) (by omega);have hd:n % 10<10:=by omega
  rw[Lib.decDigits,dif_neg h];refine⟨?_,?_,by simp,?_⟩
  ·intro c hc;rcases List.mem_append.1 hc with hc | hc
   ·exact h1 c hc
   obtain rfl:=List.mem_singleton.1 hc;rw[digit_of hd];omega
  ·rw[dn_snoc,h2,digit_of hd];omega
  intro _;have h5:=h4 (by omega)
  cases hl:Lib.decDigits (n / 10) with
  | nil=>exact absurd hl h3
  | cons a m=>rw[hl] at h5;simpa using h5
end Go.Proofs.YtdkfnbbebpbhaaaGreatDoor
namespace Go.Proofs.YtdkfnbbebpbhaaaGreatDoor
open Go.RowKit Go.Sort Go.Lib
set_option maxRecDepth 100000
theorem holds_zero0 (w:World) (T:TypeId) (nd:Nat) (hs:nd<=24):Holds (fun (b:UInt8)=>Value.int .u8 (b.toNat:Int)) (w.alloc (.cells Lib.zeros24 T)) w.heap.size 0 (Array.replicate nd (0:UInt8)):=fun j hj=>by
 have hj':j<nd:=by simpa using hj
 refine⟨?_,World.frozen?_alloc_new _ _ _ _⟩;rw[World.cell?_alloc_new,Lib.zeros24_at _ (by omega),getElem!_pos _ j hj]
 simp
theorem below_putRow (w:World) (o:Obj) (dk:Array UInt8) (k:Nat):Below w.heap.size w ((putRow (fun (b:UInt8)=>Value.int .u8 (b.toNat:Int)) (w.alloc o) w.heap.size 0 dk).drewN k):=by
 rw[alloc_eq_grow];obtain⟨os',_,e⟩:=putRow_grow_new (fun (b:UInt8)=>Value.int .u8 (b.toNat:Int)) w #[o] w.heap.size 0 dk (Nat.le_refl _);rw[e];exact⟨rfl,rfl,rfl,by show w.heap.size<=(w.heap++os').size;rw[Array.size_append];omega,fun i hi=>heap_grow_old w os' hi⟩
set_option maxRecDepth 100000 in
theorem fmt65 (u : Nat) (h1 : 100 ≤ u) (hu64 : u < 18446744073709551616) (w : World) (htab : Lib.TabIs Tryz.prog w "internal/strconv.uint64pow10" .u64 Lib.pow10Tab) :
  Calls Tryz.prog 149 #[.int .u64 u,.int .i64 10] w fun e w'=>e=.returned (.string ⟨(Lib.decDigits u).toArray⟩)/\Below w.heap.size w w':=by
 have hnd20:Lib.nDigits u<=20:=by have:=Lib.numDigits_eq u (by omega) hu64;split at this<;>omega
 have hal:Tryz.prog.arrayLen 190=24:=by simp[Program.arrayLen,Tryz.underlying190]
 have hsl1:∀ W,(Instr.sliceAt 190 (.pointer (some ⟨w.heap.size,0,none⟩)) none (some (.int .i64 (Lib.nDigits u:Int))) none).run Tryz.prog W=.ok (.slice (some ⟨w.heap.size,0,none⟩) (Lib.nDigits u) 24) W:=fun W=>by
  rw[run_sliceAt_array_h W 190 ⟨w.heap.size,0,none⟩ (by simp[Program.arrayLen,Program.elem,Tryz.underlying190]) .i64 (Lib.nDigits u:Int) (by omega) (by rw[hal];omega)];go_simp
  try omega
 have hH0:=holds_zero0 w 190 (Lib.nDigits u) (by omega);have hfmt:=Tryz.internal_strconv_formatBase10 w.heap.size 0 24 u (Array.replicate (Lib.nDigits u) 0) (w.alloc (.cells Lib.zeros24 190)) hH0 (by rw[Array.size_replicate];exact Lib.lt_pow_nDigits u) hu64 (by rw[Array.size_replicate];omega);rw[Array.size_replicate] at hfmt;have HH0:=Lib.hid hH0;have HFMT:=Lib.hid hfmt;clear hH0 hal hfmt;go_enter Tryz.func149,Tryz.ntmps149
 go_wp2_with fail
 refine (Tryz.internal_strconv_numDigits u (by omega) hu64 _ (Lib.tabIs_alloc htab _)).mono ?_;rintro e w' ⟨rfl,rfl⟩;go_wp2_with fail
 refine HFMT.out.mono ?_;rintro e w' ⟨rfl,k,v',dk,rfl,hF⟩
 have hcv:(convert 70 9 (.slice (some ⟨w.heap.size,0,none⟩) (Lib.nDigits u) 24)).run Tryz.prog ((putRow (fun (b:UInt8)=>Value.int .u8 (b.toNat:Int)) (w.alloc (.cells Lib.zeros24 190)) w.heap.size 0 dk).drewN k)=.ok (.string ⟨(Lib.decDigits u).toArray⟩) ((putRow (fun (b:UInt8)=>Value.int .u8 (b.toNat:Int)) (w.alloc (.cells Lib.zeros24 190)) w.heap.size 0 dk).drewN k):=by
  have h:=run_convert_bytes_back (P:=Tryz.prog) ((putRow (fun (b:UInt8)=>Value.int .u8 (b.toNat:Int)) (w.alloc (.cells Lib.zeros24 190)) w.heap.size 0 dk).drewN k) 70 9 5 ⟨w.heap.size,0,none⟩ 24 (Lib.decDigits u) Tryz.underlying70 Tryz.underlying5 Tryz.underlying9 (fun j hj=>by
   rw[Lib.row_is_numeral hF j hj,Lib.add_plain,World.cell?_drewN]
   exact cell?_putRow (fun (b:UInt8)=>Value.int .u8 (b.toNat:Int)) _ w.heap.size 0 _ dk HH0.out (by rw[hF.size,Array.size_replicate]) j (by rw[hF.size];rw[Lib.decDigits_length] at hj;exact hj))
  rw[Lib.decDigits_length] at h;exact h
 have HB:=Lib.hid (below_putRow w (.cells Lib.zeros24 190) dk k);go_wp2_with fail
 go_ret
 exact⟨rfl,HB.out⟩
theorem tab_below {w w':World} {name:String} {k:IntKind} {zs:List Int} (h:Lib.TabIs Tryz.prog w name k zs) (hb:Below w.heap.size w w'):Lib.TabIs Tryz.prog w' name k zs:=by
 unfold Lib.TabIs World.var? at *
 cases hg:Tryz.prog.globalNamed name with
 | none=>simp[hg] at h
 | some g =>
  simp only[hg,Option.bind_some] at h ⊢
  have hlt:g<w.heap.size:=by
   rcases Nat.lt_or_ge g w.heap.size with h' | h'
   ·exact h'
   rw[Array.getElem?_eq_none h'] at h;simp at h
  rw[hb.block g hlt];exact h
theorem fmt55 (u : Nat) (hu64 : u < 18446744073709551616) (w : World) (htab : Lib.TabIs Tryz.prog w "internal/strconv.uint64pow10" .u64 Lib.pow10Tab) :
  Calls Tryz.prog 142 #[.int .u64 u,.int .i64 10] w fun e w'=>e=.returned (.string ⟨(Lib.decDigits u).toArray⟩)/\Below w.heap.size w w':=by
 by_cases h:u<100
 ·refine (fmt_small u _ rfl h w).mono ?_;rintro e w' ⟨rfl,rfl⟩;exact⟨rfl,Below.refl _ _⟩
 have HF:=Lib.hid (fmt65 u (by omega) hu64 w htab);clear h htab;go_enter Tryz.func142,Tryz.ntmps142
 go_wp2_with fail
 refine HF.out.mono ?_;rintro e w' ⟨rfl,hb⟩;go_wp2_with fail
 go_ret
 exact⟨rfl,hb⟩
theorem fmtAt {w : World} (htab : Lib.TabIs Tryz.prog w "internal/strconv.uint64pow10" .u64 Lib.pow10Tab) : FmtAt w (fun i => i < 18446744073709551616) :=
 fun w' i z hb hz hi=>by
  subst hz;exact fmt55 i hi w' (tab_below htab hb)
theorem text_any (va : Value) (xs : List Nat) (w : World) (htab : Lib.TabIs Tryz.prog w "internal/strconv.uint64pow10" .u64 Lib.pow10Tab) (hx : Sl w .u32 va xs) (dx : Dig L32 xs) (lx : xs.length ≤ 10000) :
  Calls Tryz.prog 119 #[va] w fun e w'=>e=.returned (.string ⟨(Lib.decDigits (val L32 xs)).toArray⟩)/\Below w.heap.size w w':=
 text_gen _ va xs w (fmtAt htab) hx dx lx (fun g hg _=>by have hG:G9=1000000000:=rfl;show g<18446744073709551616;omega) (fun _ g hg=>by have hG:G9=1000000000:=rfl;show G9+g<18446744073709551616;omega)
end Go.Proofs.YtdkfnbbebpbhaaaGreatDoor
namespace Go.Proofs.YtdkfnbbebpbhaaaGreatDoor
open Go.RowKit
set_option maxRecDepth 100000
def sg (b:Bool) (n:Nat):Int:=if b then -(n:Int) else (n:Int)
theorem sg_natAbs (b:Bool) (n:Nat):(sg b n).natAbs=n:=by cases b<;>simp[sg]
theorem sg_neg (b:Bool) (n:Nat):decide (sg b n<0)=(b && decide (0<n)):=by
 cases b
 ·simp[sg]
 simp[sg]
def GI (w:World) (v:Value) (z:Int) (k:Nat):Prop:=∃ b va n,v=.agg #[.bool b,va]/\GN w va n k/\z=sg b n
def CI (w:World) (v:Value) (z:Int) (k:Nat):Prop:=∃ va,v=.agg #[.bool (decide (z<0)),va]/\Sl w .u32 va (dig L32 z.natAbs)/\z.natAbs<L32 ^ k
theorem GI.below {w w':World} {v:Value} {z:Int} {k:Nat} (h:GI w v z k) (hb:Below w.heap.size w w'):GI w' v z k:=by
 obtain⟨b,va,n,rfl,h,rfl⟩:=h;exact⟨b,va,n,rfl,h.below hb,rfl⟩
theorem CI.below {w w':World} {v:Value} {z:Int} {k:Nat} (h:CI w v z k) (hb:Below w.heap.size w w'):CI w' v z k:=by
 obtain⟨va,rfl,h,h2⟩:=h;exact⟨va,rfl,h.below hb,h2⟩
theorem CI.gi {w:World} {v:Value} {z:Int} {k:Nat} (h:CI w v z k):GI w v z k:=by
 obtain⟨va,rfl,h,h2⟩:=h;refine⟨_,va,_,rfl,gn_dig h h2,?_⟩;unfold sg
 by_cases hz:z<0
 ·rw[if_pos (by simpa using hz)];omega
 rw[if_neg (by simpa using hz)];omega
theorem ci_mk {w:World} {b:Bool} {n k:Nat} {va:Value} (h:Sl w .u32 va (dig L32 n)) (hn:n<L32 ^ k):CI w (.agg #[.bool (b && decide (0<n)),va]) (sg b n) k:=
 ⟨va,by rw[sg_neg],by rw[sg_natAbs];exact h,by rw[sg_natAbs];exact hn⟩
theorem dig_len_pos {n:Nat}:0<n->0<(dig L32 n).length:=fun h=>by
 rcases Nat.eq_zero_or_pos (dig L32 n).length with h0 | h0
 ·have:=val_dig (B:=L32) (by decide) n;rw[List.eq_nil_of_length_eq_zero h0] at this
  simp[val] at this;omega
 exact h0
theorem signed_any (b:Bool) (va:Value) (n k:Nat) (w:World) (hs:Sl w .u32 va (dig L32 n)) (hn:n<L32 ^ k) :
  Calls Tryz.prog 63 #[.bool b,va] w fun e w'=>∃ v,e=.returned v/\CI w' v (sg b n) k/\Below w.heap.size w w':=by
 have hci:∀ w' B,B=(b && decide (0<n))->Below w.heap.size w w'->CI w' (.agg #[.bool B,va]) (sg b n) k:=fun w' B e hb=>by subst e;exact ci_mk (hs.below hb) hn
 obtain⟨ao,ac,rfl⟩:=sl_shape hs;have HS:=Lib.hid hci;clear hci hs hn
 cases b
 ·go_enter Tryz.func63,Tryz.ntmps63
  go_wp2
  exact bodyPost_ret (v:=.agg #[.bool false,.slice ao (dig L32 n).length ac]) (by simp[results,Tryz.results63,go_sem]) rfl ⟨_,rfl,HS.out _ _ rfl ((Below.refl _ _).alloc (Nat.le_refl _) _),(Below.refl _ _).alloc (Nat.le_refl _) _⟩
 by_cases h0:0<n
 ·have hl:=dig_len_pos h0;have HD:=Lib.hid (show true=(true && decide (0<n)) by simp[h0]);go_enter Tryz.func63,Tryz.ntmps63
  go_wp2
  exact bodyPost_ret (v:=.agg #[.bool true,.slice ao (dig L32 n).length ac]) (by simp[results,Tryz.results63,go_sem]) rfl ⟨_,rfl,HS.out _ _ HD.out ((Below.refl _ _).alloc (Nat.le_refl _) _),(Below.refl _ _).alloc (Nat.le_refl _) _⟩
 obtain rfl:n=0:=by omega
 have HD:=Lib.hid (show false=(true && decide (0<0)) by simp);have hl:(dig L32 0).length<=0:=by rw[dig_zero];exact Nat.le_refl _
 have hd:decide (0<(dig L32 0).length)=false:=by rw[decide_eq_false_iff_not];omega
 go_enter Tryz.func63,Tryz.ntmps63
 go_wp2
 exact bodyPost_ret (v:=.agg #[.bool false,.slice ao (dig L32 0).length ac]) (by simp[results,Tryz.results63,go_sem]) rfl ⟨_,rfl,HS.out _ _ HD.out ((Below.refl _ _).alloc (Nat.le_refl _) _),(Below.refl _ _).alloc (Nat.le_refl _) _⟩
theorem GN.shape {w:World} {v:Value} {n k:Nat} (h:GN w v n k):∃ ao l c,v=.slice ao l c/\l<=k:=by
 obtain⟨xs,h,_,_,hk⟩:=h;obtain⟨ao,c,rfl⟩:=sl_shape h;exact⟨ao,_,c,rfl,hk⟩
theorem trim_n {va:Value} {n k:Nat} {w:World} (hx:GN w va n k) (hk:k<=1000000) :
  Calls Tryz.prog 66 #[va] w fun e w'=>∃ v,e=.returned v/\Sl w' .u32 v (dig L32 n)/\Below w.heap.size w w':=by
 obtain⟨xs,hx,dx,rfl,lx⟩:=hx;exact (trim_any _ xs w hx dx (by omega)).mono fun _ _ ⟨v,he,hs,hb⟩=>⟨v,he,hs.sl,hb⟩
theorem CI.shape {w:World} {v:Value} {z:Int} {k:Nat} (h:CI w v z k):∃ b ao l c,v=.agg #[.bool b,.slice ao l c]:=by
 obtain⟨va,rfl,h,_⟩:=h;obtain⟨ao,c,rfl⟩:=sl_shape h;exact⟨_,ao,_,c,rfl⟩
theorem GI.shape {w:World} {v:Value} {z:Int} {k:Nat} (h:GI w v z k):∃ b ao l c n,v=.agg #[.bool b,.slice ao l c]/\GN w (.slice ao l c) n k/\z=sg b n:=by
 obtain⟨b,va,n,rfl,h,rfl⟩:=h;obtain⟨ao,l,c,rfl,_⟩:=h.shape;exact⟨b,ao,l,c,n,rfl,h,rfl⟩
theorem two_cells {w:World} {g:Nat} {T:TypeId} {a b:Value} (h:w.heap[g]?=some (.cells #[a,b] T (0,0))) :
  w.cell? ⟨g,0,none⟩=some a/\w.cell? ⟨g,1,none⟩=some b/\w.frozen? ⟨g,0,none⟩=false/\w.frozen? ⟨g,1,none⟩=false:=
 ⟨by rw[cell_of_row w g 0 _ T (0,0) h];rfl,by rw[cell_of_row w g 1 _ T (0,0) h];rfl,frozen_of_row w g 0 _ T h,frozen_of_row w g 1 _ T h⟩
theorem Sl.set {w:World} {k:IntKind} {v:Value} {xs:List Nat} (h:Sl w k v xs) {p:Addr} {u:Value} (hc:w.cell? p=some u) (hu:∀ k z,u ≠ .int k z) (x:Value):Sl (w.setCell p x) k v xs:=by
 obtain⟨ao,cap,rfl,h1,h2,h3,h4⟩:=h;refine⟨ao,cap,rfl,h1,h2,h3,fun i hi=>?_⟩;obtain⟨a,ha,hq⟩:=h4 i hi;refine⟨a,ha,?_⟩;rw[World.cell?_setCell_other w p (a.add i) x (fun e=>by rw[<-e,hc] at hq;injection hq with hq;exact hu _ _ hq)];exact hq
theorem Sl.set2 {w:World} {k:IntKind} {v:Value} {xs:List Nat} (h:Sl w k v xs) {g:Nat} {T:TypeId} {b0:Bool} {a0:Option Addr} {n0 c0:Nat} (hB:w.heap[g]?=some (.cells #[.bool b0,.slice a0 n0 c0] T (0,0))) (x y:Value) :
  Sl ((w.setCell ⟨g,0,none⟩ x).setCell ⟨g,1,none⟩ y) k v xs:=by
 obtain⟨q0,q1,_,_⟩:=two_cells hB;refine (h.set q0 (by intro k z e;cases e) x).set (u:=.slice a0 n0 c0) ?_ (by intro k z e;cases e) y;rw[World.cell?_setCell_other w _ _ x (by intro e;injection e with _ e;omega)];exact q1
theorem CI.set2 {w:World} {v:Value} {z:Int} {k:Nat} (h:CI w v z k) {g:Nat} {T:TypeId} {b0:Bool} {a0:Option Addr} {n0 c0:Nat} (hB:w.heap[g]?=some (.cells #[.bool b0,.slice a0 n0 c0] T (0,0))) (x y:Value) :
  CI ((w.setCell ⟨g,0,none⟩ x).setCell ⟨g,1,none⟩ y) v z k:=by
 obtain⟨va,rfl,h,h2⟩:=h;exact⟨va,rfl,h.set2 hB x y,h2⟩
theorem below_set2 {B:Nat} {w w':World} (h:Below B w w') (hB:B<=w.heap.size) (x y:Value):Below B w ((w'.setCell ⟨w.heap.size,0,none⟩ x).setCell ⟨w.heap.size,1,none⟩ y):=
 (h.setCell (by simpa using hB) _).setCell (by simpa using hB) _
theorem big_any (b:Bool) (va:Value) (n k:Nat) (w:World) (hx:GN w va n k) (hk:k<=1000000) :
  Calls Tryz.prog 34 #[.bool b,va] w fun e w'=>∃ v,e=.returned v/\CI w' v (sg b n) k/\Below w.heap.size w w':=by
 have hn:=hx.lt;have hx':=hx;obtain⟨ao,l,c,rfl,hl⟩:=hx.shape;go_enter Tryz.func34,Tryz.ntmps34
 go_wp2_with fail
 refine (trim_n (hx'.below ((Below.refl _ _).alloc (Nat.le_refl _) _)) hk).mono ?_;rintro e w1 ⟨v1,rfl,s1,hb1⟩;have hB1:=(hb1.block w.heap.size (by simp)).trans (heap_alloc_new w _);have hb1t:Below w.heap.size w w1:=((Below.refl _ _).alloc (Nat.le_refl _) _).trans (hb1.mono (by simp));go_wp2_with fail
 refine (signed_any b v1 n k w1 s1 hn).mono ?_;rintro e w2 ⟨v2,rfl,c2,hb2⟩;have hB2:=(hb2.block w.heap.size (lt_of_block hB1)).trans hB1;have hb2t:Below w.heap.size w w2:=hb1t.trans (hb2.mono hb1t.size);obtain⟨bb,bo,bl,bc,rfl⟩:=c2.shape;obtain⟨q0,q1,f0,f1⟩:=two_cells hB2;have HB:=Lib.hid hB2;clear hB1 hB2;go_wp2_with fail
 exact bodyPost_ret (v:=.agg #[.bool bb,.slice bo bl bc]) (by simp[results,Tryz.results34,go_sem,q0,q1]) rfl ⟨_,rfl,c2.set2 HB.out _ _,below_set2 hb2t (Nat.le_refl _) _ _⟩
theorem Sl.keeps {w w':World} {k:IntKind} {v:Value} {xs:List Nat} (h:Sl w k v xs) (hk:Keeps w w'):Sl w' k v xs:=by
 obtain⟨ao,cap,rfl,h1,h2,h3,h4⟩:=h;refine⟨ao,cap,rfl,h1,h2,h3,fun i hi=>?_⟩;obtain⟨a,ha,hq⟩:=h4 i hi;exact⟨a,ha,hk _ _ _ hq⟩
theorem GN.keeps {w w':World} {v:Value} {n k:Nat} (h:GN w v n k) (hk:Keeps w w'):GN w' v n k:=by
 obtain⟨xs,h1,h2⟩:=h;exact⟨xs,h1.keeps hk,h2⟩
theorem CI.keeps {w w':World} {v:Value} {z:Int} {k:Nat} (h:CI w v z k) (hk:Keeps w w'):CI w' v z k:=by
 obtain⟨va,rfl,h,h2⟩:=h;exact⟨va,rfl,h.keeps hk,h2⟩
theorem mul_d {va vb:Value} {m n k1 k2:Nat} {w:World} (hx:GN w va m k1) (hy:GN w vb n k2) (h1:k1<=1000000) (h2:k2<=1000000) :
  Calls Tryz.prog 69 #[va,vb] w fun e w'=>∃ v,e=.returned v/\Sl w' .u32 v (dig L32 (m*n))/\Below w.heap.size w w':=by
 obtain⟨xs,hx,dx,rfl,lx⟩:=hx;obtain⟨ys,hy,dy,rfl,ly⟩:=hy;exact mul_any _ _ _ _ w hx hy dx dy (by omega) (by omega)
theorem add_d {va vb:Value} {m n k1 k2:Nat} {w:World} (hx:GN w va m k1) (hy:GN w vb n k2) (h1:k1<=1000000) (h2:k2<=1000000) :
  Calls Tryz.prog 67 #[va,vb] w fun e w'=>∃ v,e=.returned v/\Sl w' .u32 v (dig L32 (m+n))/\Below w.heap.size w w':=by
 obtain⟨xs,hx,dx,rfl,lx⟩:=hx;obtain⟨ys,hy,dy,rfl,ly⟩:=hy;exact add_any _ _ _ _ w hx hy dx dy (by omega) (by omega)
theorem GN.drew {w:World} {v:Value} {n k:Nat} (h:GN w v n k):GN w.drew v n k:=h
theorem GN.alloc {w:World} {v:Value} {n k:Nat} (h:GN w v n k) (o:Obj):GN (w.alloc o) v n k:=h.below ((Below.refl _ _).alloc (Nat.le_refl _) _)
theorem undrew {B:Nat} {w w1:World} (h:Below B w.drew w1):Below B w w1:=⟨h.os,h.tape,h.output,h.size,h.block⟩
theorem blocks2 {w w1:World} {T1 T2:TypeId} {c1 c2:Array Value} (hb:Below (w.heap.size+2) ((w.alloc (.cells c1 T1)).alloc (.cells c2 T2)) w1) :
  w1.heap[w.heap.size]?=some (.cells c1 T1 (0,0))/\w1.heap[w.heap.size+1]?=some (.cells c2 T2 (0,0)):=by
 have h1:=heap_alloc_new (w.alloc (.cells c1 T1)) (.cells c2 T2);refine⟨(hb.block _ (by omega)).trans ?_,(hb.block _ (by omega)).trans (by simpa using h1)⟩;rw[Below.heap_alloc _ _ _ (by simp)];exact heap_alloc_new w _
theorem blocks3 {w w1:World} {T1 T2 T3:TypeId} {c1 c2 c3:Array Value} (hb:Below (w.heap.size+3) (((w.alloc (.cells c1 T1)).alloc (.cells c2 T2)).alloc (.cells c3 T3)) w1) :
  w1.heap[w.heap.size]?=some (.cells c1 T1 (0,0))/\w1.heap[w.heap.size+1]?=some (.cells c2 T2 (0,0))/\w1.heap[w.heap.size+2]?=some (.cells c3 T3 (0,0)):=by
 have h1:=heap_alloc_new ((w.alloc (.cells c1 T1)).alloc (.cells c2 T2)) (.cells c3 T3);obtain⟨a,b⟩:=blocks2 (Below.refl (w.heap.size+2) ((w.alloc (.cells c1 T1)).alloc (.cells c2 T2)));refine⟨(hb.block _ (by omega)).trans ?_,(hb.block _ (by omega)).trans ?_,(hb.block _ (by omega)).trans (by simpa using h1)⟩
 ·rw[Below.heap_alloc _ _ _ (by simp;omega)];exact a
 rw[Below.heap_alloc _ _ _ (by simp)];exact b
theorem below2 (w:World) (o1 o2:Obj):Below w.heap.size w ((w.alloc o1).alloc o2):=((Below.refl _ _).alloc (Nat.le_refl _) _).alloc (by simp) _
theorem below3 (w:World) (o1 o2 o3:Obj):Below w.heap.size w (((w.alloc o1).alloc o2).alloc o3):=(below2 w o1 o2).alloc (by simp;omega) _
theorem below_setg {B g:Nat} {w w':World} (h:Below B w w') (hB:B<=g) (x y:Value):Below B w ((w'.setCell ⟨g,0,none⟩ x).setCell ⟨g,1,none⟩ y):=
 (h.setCell (by simpa using hB) _).setCell (by simpa using hB) _
theorem far2 {w:World} {g g' o:Nat} {x y:Value} (h:g'≠g):((w.setCell ⟨g,0,none⟩ x).setCell ⟨g,1,none⟩ y).cell? ⟨g',o,none⟩=w.cell? ⟨g',o,none⟩:=by
 rw[World.cell?_setCell_other _ _ _ _ (by intro e;injection e with e;omega),World.cell?_setCell_other _ _ _ _ (by intro e;injection e with e;omega)]
theorem sg_mul (a b:Bool) (m n:Nat):sg a m*sg b n=sg (a != b) (m*n):=by
 cases a<;>cases b<;>simp[sg,Int.neg_mul,Int.mul_neg]
theorem wmul_any (va vb:Value) (y z:Int) (k1 k2:Nat) (w:World) (hx:GI w va y k1) (hy:GI w vb z k2) (h1:k1<=1000000) (h2:k2<=1000000) :
  Calls Tryz.prog 40 #[va,vb] w fun e w'=>∃ v,e=.returned v/\CI w' v (y*z) (k1+k2)/\Below w.heap.size w w':=by
 obtain⟨b,ao,l,c,m,rfl,hg,rfl⟩:=hx.shape;obtain⟨d,po,pl,pc,n,rfl,hg2,rfl⟩:=hy.shape;have hn:m*n<L32 ^ (k1+k2):=by rw[Nat.pow_add];exact Nat.mul_lt_mul'' hg.lt hg2.lt
 rw[sg_mul];have hW:=below3 w (.cells #[.bool b,.slice ao l c] 26) (.cells #[.bool d,.slice po pl pc] 26) (.cells #[.bool false,.slice none 0 0] 26);go_enter Tryz.func40,Tryz.ntmps40
 go_wp2_with fail
 go_region_held3 (fun w'=>w'.cell? ⟨w.heap.size,0,none⟩=some (.bool b)/\w'.cell? ⟨w.heap.size,1,none⟩=some (.slice ao l c)/\w'.cell? ⟨w.heap.size+1,0,none⟩=some (.bool d)/\w'.cell? ⟨w.heap.size+1,1,none⟩=some (.slice po pl pc))
  (first | exact⟨kc0,kc1,kd0,kd1⟩ | exact⟨(far2 (by omega)).trans kc0,(far2 (by omega)).trans kc1,(far2 (by omega)).trans kd0,(far2 (by omega)).trans kd1⟩ | go_keep)
  (first
   | (go_at_call 69;refine (mul_d (((hg.alloc _).alloc _).alloc _).drew (((hg2.alloc _).alloc _).alloc _).drew h1 h2).mono ?_;rintro e w2 ⟨v2,rfl,s2,hb2⟩;have hk2:=blocks3 (undrew (hb2.mono (by simp)));have hb2t:=hW.trans (undrew (hb2.mono (by simp;omega)));clear hb2;obtain⟨kc0,kc1,_,_⟩:=two_cells hk2.1;obtain⟨kd0,kd1,_,_⟩:=two_cells hk2.2.1)
   | (
     go_at_call 63;refine (signed_any _ v2 _ (k1+k2) w2 s2 hn).mono ?_;rintro e w3 ⟨v3,rfl,c3,hb3⟩;obtain⟨bb,bo,bl,bc,rfl⟩:=c3.shape
     have hk0:=(hb3.block _ (lt_of_block hk2.1)).trans hk2.1;have hk1:=(hb3.block _ (lt_of_block hk2.2.1)).trans hk2.2.1;have hk3:=(hb3.block _ (lt_of_block hk2.2.2)).trans hk2.2.2;have hb3t:=hb2t.trans (hb3.mono hb2t.size);clear hb3 hk2 hb2t kc0 kc1 kd0 kd1
     obtain⟨kc0,kc1,_,_⟩:=two_cells hk0;obtain⟨kd0,kd1,_,_⟩:=two_cells hk1;obtain⟨q0,q1,f0,f1⟩:=two_cells hk3;have HB:=Lib.hid hk3;clear hk0 hk1 hk3))
 go_wp2_with fail
 exact bodyPost_ret (v:=.agg #[.bool bb,.slice bo bl bc]) (by simp[results,Tryz.results40,go_sem,q0,q1]) rfl ⟨_,rfl,c3.set2 HB.out _ _,below_setg hb3t (by omega) _ _⟩
theorem bl_eq0 {n:Nat}:bl n=0 ↔ n=0:=⟨fun h=>by rcases Nat.eq_zero_or_pos n with h0 | h0;exact h0;exact absurd h (by have:=bl_pos h0;omega),fun h=>by rw[h,bl_zero]⟩
def sgnZ (z:Int):Int:=if z=0 then 0 else if z<0 then -1 else 1
theorem wsign_any (va:Value) (z:Int) (k:Nat) (w:World) (hx:GI w va z k) (hk:k<=1000000) :
  Calls Tryz.prog 71 #[va] w fun e w'=>e=.returned (.int .i64 (sgnZ z))/\Below w.heap.size w w':=by
 obtain⟨b,ao,l,c,n,rfl,hg,rfl⟩:=hx.shape
 by_cases h0:n=0
 ·subst h0;have HB:=Lib.hid (show sgnZ (sg b 0)=0 by cases b<;>simp[sgnZ,sg]);have hz:(((bl 0:Nat):Int)==0)=true:=by rw[bl_zero];rfl
  go_enter Tryz.func71,Tryz.ntmps71
  go_wp2_with fail
  refine (bits_n (hg.alloc _) hk).mono ?_;rintro e w3 ⟨rfl,rfl⟩;go_wp2_with fail
  go_ret
  exact⟨by rw[HB.out];rfl,(Below.refl _ _).alloc (Nat.le_refl _) _⟩
 have hz:(((bl n:Nat):Int)==0)=false:=by rw[beq_eq_false_iff_ne];have:=mt bl_eq0.1 h0;omega
 have hp:0<n:=by omega
 cases b
 ·have HB:=Lib.hid (show sgnZ (sg false n)=1 by unfold sgnZ sg;simp only[Bool.false_eq_true,if_false];rw[if_neg (by omega),if_neg (by omega)]);go_enter Tryz.func71,Tryz.ntmps71
  go_wp2_with fail
  refine (bits_n (hg.alloc _) hk).mono ?_;rintro e w3 ⟨rfl,rfl⟩;go_wp2_with fail
  go_ret
  exact⟨by rw[HB.out];rfl,(Below.refl _ _).alloc (Nat.le_refl _) _⟩
 have HB:=Lib.hid (show sgnZ (sg true n) = -1 by unfold sgnZ sg;simp only[if_true];rw[if_neg (by omega),if_pos (by omega)]);go_enter Tryz.func71,Tryz.ntmps71
 go_wp2_with fail
 refine (bits_n (hg.alloc _) hk).mono ?_;rintro e w3 ⟨rfl,rfl⟩;go_wp2_with fail
 go_ret
 exact⟨by rw[HB.out];rfl,(Below.refl _ _).alloc (Nat.le_refl _) _⟩
theorem sub_d {va vb:Value} {m n k1 k2:Nat} {w:World} (hx:GN w va m k1) (hy:GN w vb n k2) (h1:k1<=1000000) (hle:n<=m) :
  Calls Tryz.prog 68 #[va,vb] w fun e w'=>∃ v,e=.returned (.tuple #[v,.bool true])/\Sl w' .u32 v (dig L32 (m - n))/\Below w.heap.size w w':=by
 obtain⟨xs,hx,dx,rfl,lx⟩:=hx;obtain⟨ys,hy,dy,rfl,ly⟩:=hy;exact sub_ge _ _ _ _ w hx hy dx dy (by omega) hle
theorem sub_no {va vb:Value} {m n k1 k2:Nat} {w:World} (hx:GN w va m k1) (hy:GN w vb n k2) (hlt:m<n) :
  Calls Tryz.prog 68 #[va,vb] w fun e w'=>e=.returned (.tuple #[.slice none 0 0,.bool false])/\Below w.heap.size w w':=by
 obtain⟨xs,hx,dx,rfl,lx⟩:=hx;obtain⟨ys,hy,dy,rfl,ly⟩:=hy;exact sub_lt _ _ _ _ w hx hy dx dy hlt
theorem lt_pow_more {m k k':Nat} (h:m<L32 ^ k) (hk:k<=k'):m<L32 ^ k':=Nat.lt_of_lt_of_le h (Nat.pow_le_pow_right (by decide) hk)
theorem sg_add (b:Bool) (m n:Nat):sg b m+sg b n=sg b (m+n):=by
 cases b<;>simp[sg];omega
theorem sg_sub1 {b d:Bool} (h:b≠d) {m n:Nat} (hle:n<=m):sg b m+sg d n=sg b (m - n):=by
 cases b<;>cases d<;>simp[sg] at *<;>omega
theorem sg_sub2 {b d:Bool} (h:b≠d) {m n:Nat} (hle:m<=n):sg b m+sg d n=sg d (n - m):=by
 cases b<;>cases d<;>simp[sg] at *<;>omega
theorem wadd_any (va vb:Value) (y z:Int) (k1 k2:Nat) (w:World) (hx:GI w va y k1) (hy:GI w vb z k2) (h1:k1<=1000000) (h2:k2<=1000000) :
  Calls Tryz.prog 35 #[va,vb] w fun e w'=>∃ v,e=.returned v/\CI w' v (y+z) (k1+k2+1)/\Below w.heap.size w w':=by
 obtain⟨b,ao,l,c,m,rfl,hg,rfl⟩:=hx.shape;obtain⟨d,po,pl,pc,n,rfl,hg2,rfl⟩:=hy.shape;have hlm:=hg.lt;have hln:=hg2.lt;have hW:=below3 w (.cells #[.bool b,.slice ao l c] 26) (.cells #[.bool d,.slice po pl pc] 26) (.cells #[.bool false,.slice none 0 0] 26)
 by_cases hbd:b=d
 ·subst hbd;have hn:=pow_add_lt hlm hln;rw[sg_add];have heq:(b==b)=true:=by cases b<;>rfl
  go_enter Tryz.func35,Tryz.ntmps35
  go_wp2_with fail
  go_region_held3 (fun w'=>w'.cell? ⟨w.heap.size,0,none⟩=some (.bool b)/\w'.cell? ⟨w.heap.size,1,none⟩=some (.slice ao l c)/\w'.cell? ⟨w.heap.size+1,1,none⟩=some (.slice po pl pc))
   (first | exact⟨kc0,kc1,kd1⟩ | exact⟨(far2 (by omega)).trans kc0,(far2 (by omega)).trans kc1,(far2 (by omega)).trans kd1⟩ | go_keep)
   (first
    | (go_at_call 67;refine (add_d (((hg.alloc _).alloc _).alloc _).drew (((hg2.alloc _).alloc _).alloc _).drew h1 h2).mono ?_;rintro e w2 ⟨v2,rfl,s2,hb2⟩;have hk2:=blocks3 (undrew (hb2.mono (by simp)));have hb2t:=hW.trans (undrew (hb2.mono (by simp;omega)));clear hb2;obtain⟨kc0,kc1,_,_⟩:=two_cells hk2.1;obtain⟨kd0,kd1,_,_⟩:=two_cells hk2.2.1)
    | (
      go_at_call 63;refine (signed_any _ v2 _ (k1+k2+1) w2 s2 hn).mono ?_;rintro e w3 ⟨v3,rfl,c3,hb3⟩;obtain⟨bb,bo,bl,bc,rfl⟩:=c3.shape
      have hk0:=(hb3.block _ (lt_of_block hk2.1)).trans hk2.1;have hk1:=(hb3.block _ (lt_of_block hk2.2.1)).trans hk2.2.1;have hk3:=(hb3.block _ (lt_of_block hk2.2.2)).trans hk2.2.2;have hb3t:=hb2t.trans (hb3.mono hb2t.size);clear hb3 hk2 hb2t kc0 kc1 kd0 kd1
      obtain⟨kc0,kc1,_,_⟩:=two_cells hk0;obtain⟨kd0,kd1,_,_⟩:=two_cells hk1;obtain⟨q0,q1,f0,f1⟩:=two_cells hk3;have HB:=Lib.hid hk3;clear hk0 hk1 hk3))
  go_wp2_with fail
  exact bodyPost_ret (v:=.agg #[.bool bb,.slice bo bl bc]) (by simp[results,Tryz.results35,go_sem,q0,q1]) rfl ⟨_,rfl,c3.set2 HB.out _ _,below_setg hb3t (by omega) _ _⟩
 have heq:(b==d)=false:=by cases b<;>cases d<;>simp at hbd ⊢
 by_cases hle:n<=m
 ·have hn:m - n<L32 ^ (k1+k2+1):=lt_pow_more (k:=k1) (by omega) (by omega);rw[sg_sub1 hbd hle];clear hbd;go_enter Tryz.func35,Tryz.ntmps35
  go_wp2_with fail
  refine (sub_d (((hg.alloc _).alloc _).alloc _) (((hg2.alloc _).alloc _).alloc _) h1 hle).mono ?_;rintro e w2 ⟨v2,rfl,s2,hb2⟩;have hk2:=blocks3 (hb2.mono (by simp));have hb2t:=hW.trans (hb2.mono (by simp;omega));clear hb2;obtain⟨kc0,kc1,_,_⟩:=two_cells hk2.1;obtain⟨kd0,kd1,_,_⟩:=two_cells hk2.2.1;have HK:=Lib.hid hk2.2.2;clear hk2;obtain⟨vo,vc,rfl⟩:=sl_shape s2;go_wp2_with fail
  refine (signed_any _ _ _ (k1+k2+1) w2 s2 hn).mono ?_;rintro e w3 ⟨v3,rfl,c3,hb3⟩;obtain⟨bb,bo,bl,bc,rfl⟩:=c3.shape;have hk3:=(hb3.block _ (lt_of_block HK.out)).trans HK.out;have hb3t:=hb2t.trans (hb3.mono hb2t.size);clear hb3 hb2t kc0 kc1 kd0 kd1;obtain⟨q0,q1,f0,f1⟩:=two_cells hk3;have HB:=Lib.hid hk3;clear hk3;go_wp2_with fail
  exact bodyPost_ret (v:=.agg #[.bool bb,.slice bo bl bc]) (by simp[results,Tryz.results35,go_sem,q0,q1]) rfl ⟨_,rfl,c3.set2 HB.out _ _,below_setg hb3t (by omega) _ _⟩
 have hn:n - m<L32 ^ (k1+k2+1):=lt_pow_more (k:=k2) (by omega) (by omega);have hlt:m<n:=by omega
 have hle2:m<=n:=by omega
 rw[sg_sub2 hbd hle2];clear hbd hle;go_enter Tryz.func35,Tryz.ntmps35
 go_wp2_with fail
 refine (sub_no (((hg.alloc _).alloc _).alloc _) (((hg2.alloc _).alloc _).alloc _) hlt).mono ?_;rintro e w2 ⟨rfl,hb2⟩;have hk2:=blocks3 (hb2.mono (by simp));have hb2t:=hW.trans (hb2.mono (by simp;omega));clear hb2;obtain⟨kc0,kc1,_,_⟩:=two_cells hk2.1;obtain⟨kd0,kd1,_,_⟩:=two_cells hk2.2.1;have HK:=Lib.hid hk2;clear hk2;go_wp2_with fail
 refine (sub_d (hg2.below hb2t) (hg.below hb2t) h2 hle2).mono ?_;rintro e w4 ⟨v4,rfl,s4,hb4⟩;have hk0:=(hb4.block _ (lt_of_block HK.out.1)).trans HK.out.1;have hk1:=(hb4.block _ (lt_of_block HK.out.2.1)).trans HK.out.2.1;have hk2:=(hb4.block _ (lt_of_block HK.out.2.2)).trans HK.out.2.2;have hb4t:=hb2t.trans (hb4.mono hb2t.size);clear hb4 kc0 kc1 kd0 kd1;obtain⟨kc0,kc1,_,_⟩:=two_cells hk0;obtain⟨kd0,kd1,_,_⟩:=two_cells hk1;have HK2:=Lib.hid hk2;clear hk0 hk1 hk2;obtain⟨vo,vc,rfl⟩:=sl_shape s4;go_wp2_with fail
 refine (signed_any _ _ _ (k1+k2+1) w4 s4 hn).mono ?_;rintro e w3 ⟨v3,rfl,c3,hb3⟩;obtain⟨bb,bo,bl,bc,rfl⟩:=c3.shape;have hk3:=(hb3.block _ (lt_of_block HK2.out)).trans HK2.out;have hb3t:=hb4t.trans (hb3.mono hb4t.size);clear hb3 hb4t hb2t kc0 kc1 kd0 kd1;obtain⟨q0,q1,f0,f1⟩:=two_cells hk3;have HB:=Lib.hid hk3;clear hk3;go_wp2_with fail
 exact bodyPost_ret (v:=.agg #[.bool bb,.slice bo bl bc]) (by simp[results,Tryz.results35,go_sem,q0,q1]) rfl ⟨_,rfl,c3.set2 HB.out _ _,below_setg hb3t (by omega) _ _⟩
theorem GI.alloc {w:World} {v:Value} {z:Int} {k:Nat} (h:GI w v z k) (o:Obj):GI (w.alloc o) v z k:=h.below ((Below.refl _ _).alloc (Nat.le_refl _) _)
theorem gi_mk {w:World} {va:Value} {n k:Nat} (h:GN w va n k) (b:Bool):GI w (.agg #[.bool b,va]) (sg b n) k:=⟨b,va,n,rfl,h,rfl⟩
theorem wsub_any (va vb:Value) (y z:Int) (k1 k2:Nat) (w:World) (hx:GI w va y k1) (hy:GI w vb z k2) (h1:k1<=1000000) (h2:k2<=1000000) :
  Calls Tryz.prog 59 #[va,vb] w fun e w'=>∃ v,e=.returned v/\CI w' v (y - z) (k1+k2+1)/\Below w.heap.size w w':=by
 obtain⟨b,ao,l,c,m,rfl,hg,rfl⟩:=hx.shape;obtain⟨d,po,pl,pc,n,rfl,hg2,rfl⟩:=hy.shape;have hW:=below3 w (.cells #[.bool b,.slice ao l c] 26) (.cells #[.bool d,.slice po pl pc] 26) (.cells #[.bool false,.slice none 0 0] 26);rw[show sg b m - sg d n=sg b m+sg (!d) n by cases d<;>simp[sg]<;>omega];go_enter Tryz.func59,Tryz.ntmps59
 go_wp2_with fail
 refine (wadd_any _ _ _ _ k1 k2 _ (((hx.alloc _).alloc _).alloc _) (gi_mk (((hg2.alloc _).alloc _).alloc _) (!d)) h1 h2).mono ?_;rintro e w3 ⟨v3,rfl,c3,hb3⟩;obtain⟨bb,bo,bl,bc,rfl⟩:=c3.shape;have hk3:=(blocks3 (hb3.mono (by simp))).2.2;have hb3t:=hW.trans (hb3.mono (by simp;omega));clear hb3;obtain⟨q0,q1,f0,f1⟩:=two_cells hk3;have HB:=Lib.hid hk3;clear hk3;go_wp2_with fail
 exact bodyPost_ret (v:=.agg #[.bool bb,.slice bo bl bc]) (by simp[results,Tryz.results59,go_sem,q0,q1]) rfl ⟨_,rfl,c3.set2 HB.out _ _,below_setg hb3t (by omega) _ _⟩
theorem compare_any (a b:Int) (w:World):Calls Tryz.prog 72 #[.int .i64 a,.int .i64 b] w fun e w'=>e=.returned (.int .i64 (sgnZ (a - b)))/\w=w':=by
 have HN:∀ (x:Int) (w:World),Calls Tryz.prog 108 #[.int .i64 x] w fun e w'=>e=.returned (.bool false)/\w=w':=by
  intro x w;go_enter Tryz.func108,Tryz.ntmps108
  go_wp2
  go_ret
  exact⟨by simp,rfl⟩
 rcases Int.lt_trichotomy a b with h | h | h
 ·have HS:=Lib.hid (show sgnZ (a - b) = -1 by unfold sgnZ;rw[if_neg (by omega),if_pos (by omega)]);have H:=Lib.hid HN;clear HN;go_enter Tryz.func72,Tryz.ntmps72
  go_wp2_with fail
  refine (H.out a _).mono ?_;rintro e w' ⟨rfl,rfl⟩;go_wp2_with fail
  refine (H.out b _).mono ?_;rintro e w' ⟨rfl,rfl⟩;go_wp2_with fail
  go_ret
  exact⟨by rw[HS.out];rfl,rfl⟩
 ·subst h;have HS:=Lib.hid (show sgnZ (a - a)=0 by unfold sgnZ;rw[if_pos (by omega)]);have H:=Lib.hid HN;clear HN;go_enter Tryz.func72,Tryz.ntmps72
  go_wp2_with fail
  refine (H.out a _).mono ?_;rintro e w' ⟨rfl,rfl⟩;go_wp2_with fail
  refine (H.out a _).mono ?_;rintro e w' ⟨rfl,rfl⟩;go_wp2_with fail
  go_ret
  exact⟨by rw[HS.out];rfl,rfl⟩
 have HS:=Lib.hid (show sgnZ (a - b)=1 by unfold sgnZ;rw[if_neg (by omega),if_neg (by omega)]);have H:=Lib.hid HN;clear HN;have h':¬ a<b:=by omega
 go_enter Tryz.func72,Tryz.ntmps72
 go_wp2_with fail
 refine (H.out a _).mono ?_;rintro e w' ⟨rfl,rfl⟩;go_wp2_with fail
 refine (H.out b _).mono ?_;rintro e w' ⟨rfl,rfl⟩;go_wp2_with fail
 go_ret
 exact⟨by rw[HS.out];rfl,rfl⟩
theorem of_d (n:Nat) (z:Int) (w:World) (hz:z=(n:Int)) (hn:n<18446744073709551616) :
  Calls Tryz.prog 64 #[.int .u64 z] w fun e w'=>∃ v,e=.returned v/\Sl w' .u32 v (dig L32 n)/\n<L32 ^ 2/\Below w.heap.size w w':=
 (of_any n z w hz hn).mono fun _ _ ⟨v,he,hs,hb⟩=>⟨v,he,hs,Nat.lt_of_lt_of_eq hn (by decide),hb⟩
theorem wof_any (z:Int) (w:World) (h1 : -9223372036854775808<=z) (h2:z<=9223372036854775807) :
  Calls Tryz.prog 31 #[.int .i64 z] w fun e w'=>∃ v,e=.returned v/\CI w' v z 2/\Below w.heap.size w w':=by
 have hW:Below w.heap.size w (w.alloc (.cells #[.bool false,.slice none 0 0] 26)):=(Below.refl _ _).alloc (Nat.le_refl _) _
 by_cases hz:z<0
 ·have HZ:=Lib.hid (show sg true z.natAbs=z by simp[sg];omega);go_enter Tryz.func31,Tryz.ntmps31
  go_wp2_with fail
  refine (of_d z.natAbs _ _ (by simp only[IntKind.wrap_u64];omega) (by omega)).mono ?_;rintro e w2 ⟨v2,rfl,s2,hn,hb2⟩;have hk2:=(hb2.block w.heap.size (by simp)).trans (heap_alloc_new w _);have hb2t:=hW.trans (hb2.mono (by simp));clear hb2;obtain⟨vo,vc,rfl⟩:=sl_shape s2;go_wp2_with fail
  refine (signed_any _ _ _ 2 w2 s2 hn).mono ?_;rintro e w3 ⟨v3,rfl,c3,hb3⟩;obtain⟨bb,bo,bl,bc,rfl⟩:=c3.shape;have hk3:=(hb3.block _ (lt_of_block hk2)).trans hk2;have hb3t:=hb2t.trans (hb3.mono hb2t.size);clear hb3 hk2 hb2t;obtain⟨q0,q1,f0,f1⟩:=two_cells hk3;have HB:=Lib.hid hk3;clear hk3;rw[HZ.out] at c3;go_wp2_with fail
  exact bodyPost_ret (v:=.agg #[.bool bb,.slice bo bl bc]) (by simp[results,Tryz.results31,go_sem,q0,q1]) rfl ⟨_,rfl,c3.set2 HB.out _ _,below_setg hb3t (by omega) _ _⟩
 have HZ:=Lib.hid (show sg false z.natAbs=z by simp[sg];omega);go_enter Tryz.func31,Tryz.ntmps31
 go_wp2_with fail
 refine (of_d z.natAbs _ _ (by omega) (by omega)).mono ?_;rintro e w2 ⟨v2,rfl,s2,hn,hb2⟩;have hk2:=(hb2.block w.heap.size (by simp)).trans (heap_alloc_new w _);have hb2t:=hW.trans (hb2.mono (by simp));clear hb2;obtain⟨vo,vc,rfl⟩:=sl_shape s2;go_wp2_with fail
 refine (signed_any _ _ _ 2 w2 s2 hn).mono ?_;rintro e w3 ⟨v3,rfl,c3,hb3⟩;obtain⟨bb,bo,bl,bc,rfl⟩:=c3.shape;have hk3:=(hb3.block _ (lt_of_block hk2)).trans hk2;have hb3t:=hb2t.trans (hb3.mono hb2t.size);clear hb3 hk2 hb2t;obtain⟨q0,q1,f0,f1⟩:=two_cells hk3;have HB:=Lib.hid hk3;clear hk3;rw[HZ.out] at c3;go_wp2_with fail
 exact bodyPost_ret (v:=.agg #[.bool bb,.slice bo bl bc]) (by simp[results,Tryz.results31,go_sem,q0,q1]) rfl ⟨_,rfl,c3.set2 HB.out _ _,below_setg hb3t (by omega) _ _⟩
theorem sgnZ_le (z:Int) : -1<=sgnZ z/\sgnZ z<=1:=by unfold sgnZ;split;omega;split<;>omega
theorem sgnZ_diff {y z:Int} (h:sgnZ y≠sgnZ z):sgnZ (sgnZ y - sgnZ z)=sgnZ (y - z):=by
 unfold sgnZ at h ⊢
 split at h<;>split at h<;>(try split at h)<;>(try split at h)<;>simp_all<;>first | omega | (rw[if_neg (by omega)];first | rw[if_pos (by omega)] | rw[if_neg (by omega)])
theorem sgnZ_same {b d:Bool} {m n:Nat} (h:sgnZ (sg b m)=sgnZ (sg d n)):sgnZ (sg b m)*cmpN m n=sgnZ (sg b m - sg d n):=by
 unfold sgnZ sg cmpN at *
 cases b<;>cases d<;>simp at h ⊢<;>(repeat' split at h)<;>(repeat' split)<;>first | rfl | omega
theorem wcmp_any (va vb:Value) (y z:Int) (k1 k2:Nat) (w:World) (hx:GI w va y k1) (hy:GI w vb z k2) (h1:k1<=1000000) (h2:k2<=1000000) :
  Calls Tryz.prog 42 #[va,vb] w fun e w'=>e=.returned (.int .i64 (sgnZ (y - z)))/\Below w.heap.size w w':=by
 have hgx:=hx;have hgy:=hy;obtain⟨b,ao,l,c,m,rfl,hg,rfl⟩:=hx.shape;obtain⟨d,po,pl,pc,n,rfl,hg2,rfl⟩:=hy.shape;have hW:=below2 w (.cells #[.bool b,.slice ao l c] 26) (.cells #[.bool d,.slice po pl pc] 26)
 by_cases hs:sgnZ (sg b m)=sgnZ (sg d n)
 ·have HE:=Lib.hid (sgnZ_same hs);have HS:=Lib.hid hs;have hbs:=sgnZ_le (sg b m);have hbp:=sgnZ_le (sg b m - sg d n);have hne:(sgnZ (sg d n) != sgnZ (sg d n))=false:=by simp
  clear hs;go_enter Tryz.func42,Tryz.ntmps42
  go_wp2_with fail
  refine (wsign_any _ _ k1 _ ((hgx.alloc _).alloc _) h1).mono ?_;rintro e w2 ⟨rfl,hb2⟩;have hk2:=blocks2 (hb2.mono (by simp));have hb2t:=hW.trans (hb2.mono (by simp;omega));clear hb2;obtain⟨kc0,kc1,_,_⟩:=two_cells hk2.1;obtain⟨kd0,kd1,_,_⟩:=two_cells hk2.2;have HK:=Lib.hid hk2;clear hk2;rw[HS.out];go_wp2_with fail
  refine (wsign_any _ _ k2 _ (hgy.below hb2t) h2).mono ?_;rintro e w4 ⟨rfl,hb4⟩;have hk0:=(hb4.block _ (lt_of_block HK.out.1)).trans HK.out.1;have hk1:=(hb4.block _ (lt_of_block HK.out.2)).trans HK.out.2;have hb4t:=hb2t.trans (hb4.mono hb2t.size);clear hb4 kc0 kc1 kd0 kd1;obtain⟨kc0,kc1,_,_⟩:=two_cells hk0;obtain⟨kd0,kd1,_,_⟩:=two_cells hk1;have HK0:=Lib.hid hk0;have HK1:=Lib.hid hk1;clear hk0 hk1;go_wp2_with fail
  refine (cmp_n (hg.below hb4t) (hg2.below hb4t)).mono ?_;rintro e w5 ⟨rfl,hb5⟩;have hb5t:=hb4t.trans (hb5.mono hb4t.size);have HP:=Lib.hid (show sgnZ (sg d n)*cmpN m n=sgnZ (sg b m - sg d n) by rw[<-HS.out];exact HE.out);have p1 : -9223372036854775808<=sgnZ (sg d n)*cmpN m n:=by rw[HP.out];omega
  have p2:sgnZ (sg d n)*cmpN m n<=9223372036854775807:=by rw[HP.out];omega
  clear hb5;go_wp2_with fail
  go_ret
  exact⟨by rw[<-HP.out];rfl,hb5t⟩
 have HD:=Lib.hid (sgnZ_diff hs);have hne:(sgnZ (sg b m) != sgnZ (sg d n))=true:=by rw[bne_iff_ne];exact hs
 clear hs;go_enter Tryz.func42,Tryz.ntmps42
 go_wp2_with fail
 refine (wsign_any _ _ k1 _ ((hgx.alloc _).alloc _) h1).mono ?_;rintro e w2 ⟨rfl,hb2⟩;have hk2:=blocks2 (hb2.mono (by simp));have hb2t:=hW.trans (hb2.mono (by simp;omega));clear hb2;obtain⟨kd0,kd1,_,_⟩:=two_cells hk2.2;have HK:=Lib.hid hk2.2;clear hk2;go_wp2_with fail
 refine (wsign_any _ _ k2 _ (hgy.below hb2t) h2).mono ?_;rintro e w4 ⟨rfl,hb4⟩;have hk1:=(hb4.block _ (lt_of_block HK.out)).trans HK.out;have hb4t:=hb2t.trans (hb4.mono hb2t.size);clear hb4 kd0 kd1;obtain⟨kd0,kd1,_,_⟩:=two_cells hk1;clear hk1;go_wp2_with fail
 refine (wsign_any _ _ k2 _ (hgy.below hb4t) h2).mono ?_;rintro e w5 ⟨rfl,hb5⟩;have hb5t:=hb4t.trans (hb5.mono hb4t.size);clear hb5 kd0 kd1;go_wp2_with fail
 refine (compare_any _ _ _).mono ?_;rintro e w6 ⟨rfl,rfl⟩;rw[HD.out];go_wp2_with fail
 go_ret
 exact⟨rfl,hb5t⟩
def zText (z:Int):List UInt8:=if z<0 then 45::Lib.decDigits z.natAbs else Lib.decDigits z.natAbs
theorem app45 (l:List UInt8):((⟨#[45]⟩:ByteArray)++(⟨l.toArray⟩:ByteArray))=⟨(45::l).toArray⟩:=by
 apply ByteArray.ext
 simp[ByteArray.data_append]
theorem dec_len {n k:Nat} (h:n<L32 ^ k) (hk:k<=10000):(Lib.decDigits n).length<=100001:=by
 have h1:L32 ^ k<=10 ^ (10*k):=by rw[Nat.pow_mul];exact Nat.pow_le_pow_left (by decide) _
 have:=decDigits_len (k:=10*k+1) (Nat.lt_of_lt_of_le h (Nat.le_trans h1 (Nat.pow_le_pow_right (by decide) (by omega)))) (by omega)
 omega
theorem wtext_any (va : Value) (z : Int) (k : Nat) (w : World) (htab : Lib.TabIs Tryz.prog w "internal/strconv.uint64pow10" .u64 Lib.pow10Tab) (hx : GI w va z k) (hk : k ≤ 10000) :
  Calls Tryz.prog 82 #[va] w fun e w'=>e=.returned (.string ⟨(zText z).toArray⟩)/\Below w.heap.size w w':=by
 have hgx:=hx;obtain⟨b,ao,l,c,n,rfl,hg,rfl⟩:=hx.shape;have hW:Below w.heap.size w (w.alloc (.cells #[.bool b,.slice ao l c] 26)):=(Below.refl _ _).alloc (Nat.le_refl _) _;have hgn:=hg;obtain⟨xs,hs,dx,rfl,lx⟩:=hgn;have HN:=Lib.hid (sg_natAbs b (val L32 xs));have hdl:=dec_len hg.lt hk
 by_cases hz:sg b (val L32 xs)<0
 ·have HS:=Lib.hid (show sgnZ (sg b (val L32 xs)) = -1 by unfold sgnZ;rw[if_neg (by omega),if_pos hz]);have HT:=Lib.hid (show zText (sg b (val L32 xs))=45::Lib.decDigits (val L32 xs) by unfold zText;rw[if_pos hz,HN.out]);clear hz;go_enter Tryz.func82,Tryz.ntmps82
  go_wp2_with fail
  refine (wsign_any _ _ k _ (hgx.alloc _) (by omega)).mono ?_;rintro e w2 ⟨rfl,hb2⟩;have hk2:=(hb2.block w.heap.size (by simp)).trans (heap_alloc_new w _);have hb2t:=hW.trans (hb2.mono (by simp));clear hb2;obtain⟨kc0,kc1,_,_⟩:=two_cells hk2;clear hk2;rw[HS.out];go_wp2_with fail
  refine (text_any _ xs w2 (tab_below htab hb2t) (hs.below hb2t) dx (by omega)).mono ?_;rintro e w4 ⟨rfl,hb4⟩;have hb4t:=hb2t.trans (hb4.mono hb2t.size);go_wp2_with fail
  go_ret
  exact⟨by rw[HT.out,<-app45];rfl,hb4t⟩
 have HS:=Lib.hid (show (0:Int)<=sgnZ (sg b (val L32 xs)) by unfold sgnZ;rw[if_neg hz];split<;>omega);have HT:=Lib.hid (show zText (sg b (val L32 xs))=Lib.decDigits (val L32 xs) by unfold zText;rw[if_neg hz,HN.out]);clear hz;have h0:=HS.out;go_enter Tryz.func82,Tryz.ntmps82
 go_wp2_with fail
 refine (wsign_any _ _ k _ (hgx.alloc _) (by omega)).mono ?_;rintro e w2 ⟨rfl,hb2⟩;have hk2:=(hb2.block w.heap.size (by simp)).trans (heap_alloc_new w _);have hb2t:=hW.trans (hb2.mono (by simp));clear hb2;obtain⟨kc0,kc1,_,_⟩:=two_cells hk2;clear hk2;go_wp2_with fail
 refine (text_any _ xs w2 (tab_below htab hb2t) (hs.below hb2t) dx (by omega)).mono ?_;rintro e w4 ⟨rfl,hb4⟩;have hb4t:=hb2t.trans (hb4.mono hb2t.size);go_wp2_with fail
 go_ret
 exact⟨by rw[HT.out];rfl,hb4t⟩
theorem div_d {va vb:Value} {m n k1 k2:Nat} {w:World} (hx:GN w va m k1) (hy:GN w vb n k2) (h1:k1<=900000) (h0:0<n) :
  Calls Tryz.prog 70 #[va,vb] w fun e w'=>∃ q r,e=.returned (.tuple #[q,r,.bool true])/\Sl w' .u32 q (dig L32 (m / n))/\Sl w' .u32 r (dig L32 (m % n))/\Below w.heap.size w w':=div_n hx hy h1 h0
theorem sg_div {b d:Bool} {m n:Nat} (hn:0<n) (h:b=d\/m % n=0):Int.fdiv (sg b m) (sg d n)=sg (b != d) (m / n)/\Int.fmod (sg b m) (sg d n)=sg d (m % n):=by
 have hd:=Nat.div_add_mod m n;have hl:=Nat.mod_lt m hn;generalize m / n=q at *;generalize m % n=r at *;have hdz:(n:Int)*q+r=m:=by exact_mod_cast hd
 cases d
 ·have hp:sg false n > 0:=by simp[sg];omega
  refine (Int.fdiv_fmod_unique hp).2 ?_
  cases b<;>simp[sg,Int.mul_neg] at *<;>(try subst h)<;>omega
 have hp:sg true n<0:=by simp[sg];omega
 refine (Int.fdiv_fmod_unique' hp).2 ?_
 cases b<;>simp[sg,Int.neg_mul,Int.mul_neg] at *<;>(try subst h)<;>omega
theorem sg_div2 {b d:Bool} {m n:Nat} (hn:0<n) (h:b≠d) (hr:0<m % n):Int.fdiv (sg b m) (sg d n)=sg (b != d) (m / n+1)/\Int.fmod (sg b m) (sg d n)=sg d (n - m % n):=by
 have hd:=Nat.div_add_mod m n;have hl:=Nat.mod_lt m hn;generalize m / n=q at *;generalize m % n=r at *;have hdz:(n:Int)*q+r=m:=by exact_mod_cast hd
 cases d
 ·have hp:sg false n > 0:=by simp[sg];omega
  refine (Int.fdiv_fmod_unique hp).2 ?_
  cases b<;>simp[sg,Int.mul_neg,Int.mul_add] at *<;>omega
 have hp:sg true n<0:=by simp[sg];omega
 refine (Int.fdiv_fmod_unique' hp).2 ?_
 cases b<;>simp[sg,Int.neg_mul,Int.mul_neg,Int.mul_add] at *<;>omega
theorem wdiv_plain (b d s:Bool) (ao po:Option Addr) (l c pl pc m n k1 k2:Nat) (w:World) (hg:GN w (.slice ao l c) m k1) (hg2:GN w (.slice po pl pc) n k2) (h1:k1<=900000) (h0:0<n) (hs:s=(b != d)) (h:b=d\/m % n=0) :
  Calls Tryz.prog 41 #[.agg #[.bool b,.slice ao l c],.agg #[.bool d,.slice po pl pc]] w fun e w'=>∃ q r,e=.returned (.tuple #[q,r,.bool true])/\CI w' q (sg s (m / n)) (k1+3)/\CI w' r (sg d (m % n)) k2/\Below w.heap.size w w':=by
 have hqn:m / n<L32 ^ (k1+3):=lt_pow_more (k:=k1) (Nat.lt_of_le_of_lt (Nat.div_le_self _ _) hg.lt) (by omega);have hrn:m % n<L32 ^ k2:=Nat.lt_trans (Nat.mod_lt _ h0) hg2.lt
 cases b<;>cases d
 ·obtain rfl:s=false:=hs;clear h;have hbt:=Below.refl w.heap.size w;go_enter Tryz.func41,Tryz.ntmps41
  go_wp2_with fail
  have hbx:Below w.heap.size w ((((w.alloc (.cells #[.bool false,.slice ao l c] 26)).alloc (.cells #[.bool false,.slice po pl pc] 26)).alloc (.cells #[.bool false,.slice none 0 0] 26)).alloc (.cells #[.bool false,.slice none 0 0] 26)):=(((((Below.refl _ _).alloc (by simp) _).alloc (by simp) _).alloc (by simp;omega) _).alloc (by simp;omega) _)
  replace hg:=hg.below hbx;replace hg2:=hg2.below hbx;replace hbt:=hbt.trans (hbx.mono hbt.size);clear hbx;have HB_xa:Hid (((((w.alloc (.cells #[.bool false,.slice ao l c] 26)).alloc (.cells #[.bool false,.slice po pl pc] 26)).alloc (.cells #[.bool false,.slice none 0 0] 26)).alloc (.cells #[.bool false,.slice none 0 0] 26)).heap[w.heap.size]?=some (.cells #[.bool false,.slice ao l c] 26 (0,0))):=Lib.hid (made_more (made_more (made_more (made_at w (.cells #[.bool false,.slice ao l c] 26) _ (by first | rfl | simp)) _) _) _)
  have HB_xb:Hid (((((w.alloc (.cells #[.bool false,.slice ao l c] 26)).alloc (.cells #[.bool false,.slice po pl pc] 26)).alloc (.cells #[.bool false,.slice none 0 0] 26)).alloc (.cells #[.bool false,.slice none 0 0] 26)).heap[w.heap.size+1]?=some (.cells #[.bool false,.slice po pl pc] 26 (0,0))):=Lib.hid (made_more (made_more (made_at (w.alloc (.cells #[.bool false,.slice ao l c] 26)) (.cells #[.bool false,.slice po pl pc] 26) _ (by first | rfl | simp)) _) _)
  have HB_q:Hid (((((w.alloc (.cells #[.bool false,.slice ao l c] 26)).alloc (.cells #[.bool false,.slice po pl pc] 26)).alloc (.cells #[.bool false,.slice none 0 0] 26)).alloc (.cells #[.bool false,.slice none 0 0] 26)).heap[w.heap.size+2]?=some (.cells #[.bool false,.slice none 0 0] 26 (0,0))):=Lib.hid (made_more (made_at ((w.alloc (.cells #[.bool false,.slice ao l c] 26)).alloc (.cells #[.bool false,.slice po pl pc] 26)) (.cells #[.bool false,.slice none 0 0] 26) _ (by first | rfl | simp)) _)
  have HB_r:Hid (((((w.alloc (.cells #[.bool false,.slice ao l c] 26)).alloc (.cells #[.bool false,.slice po pl pc] 26)).alloc (.cells #[.bool false,.slice none 0 0] 26)).alloc (.cells #[.bool false,.slice none 0 0] 26)).heap[w.heap.size+3]?=some (.cells #[.bool false,.slice none 0 0] 26 (0,0))):=Lib.hid (made_at (((w.alloc (.cells #[.bool false,.slice ao l c] 26)).alloc (.cells #[.bool false,.slice po pl pc] 26)).alloc (.cells #[.bool false,.slice none 0 0] 26)) (.cells #[.bool false,.slice none 0 0] 26) _ (by first | rfl | simp));generalize ((((w.alloc (.cells #[.bool false,.slice ao l c] 26)).alloc (.cells #[.bool false,.slice po pl pc] 26)).alloc (.cells #[.bool false,.slice none 0 0] 26)).alloc (.cells #[.bool false,.slice none 0 0] 26))=wx1 at *;have xa0:=cell_at (v:=.bool false) HB_xa.out 0 rfl;have xa1:=cell_at (v:=.slice ao l c) HB_xa.out 1 rfl
  have xb0:=cell_at (v:=.bool false) HB_xb.out 0 rfl;have xb1:=cell_at (v:=.slice po pl pc) HB_xb.out 1 rfl;have q0:=cell_at (v:=.bool false) HB_q.out 0 rfl;have q1:=cell_at (v:=.slice none 0 0) HB_q.out 1 rfl;have r0:=cell_at (v:=.bool false) HB_r.out 0 rfl;have r1:=cell_at (v:=.slice none 0 0) HB_r.out 1 rfl;refine (div_d hg hg2 h1 h0).mono ?_;rintro e wx2 ⟨vq,vr,rfl,sq,sr,hbx⟩;replace hg:=hg.below hbx;replace hg2:=hg2.below hbx;replace hbt:=hbt.trans (hbx.mono hbt.size);replace HB_xa:=Lib.hid ((hbx.block _ (lt_of_block HB_xa.out)).trans HB_xa.out);replace HB_xb:=Lib.hid ((hbx.block _ (lt_of_block HB_xb.out)).trans HB_xb.out);replace HB_q:=Lib.hid ((hbx.block _ (lt_of_block HB_q.out)).trans HB_q.out);replace HB_r:=Lib.hid ((hbx.block _ (lt_of_block HB_r.out)).trans HB_r.out);clear hbx;replace xa0:=cell_at (v:=.bool false) HB_xa.out 0 rfl
  replace xa1:=cell_at (v:=.slice ao l c) HB_xa.out 1 rfl;replace xb0:=cell_at (v:=.bool false) HB_xb.out 0 rfl;replace xb1:=cell_at (v:=.slice po pl pc) HB_xb.out 1 rfl;replace q0:=cell_at (v:=.bool false) HB_q.out 0 rfl;replace q1:=cell_at (v:=.slice none 0 0) HB_q.out 1 rfl;replace r0:=cell_at (v:=.bool false) HB_r.out 0 rfl;replace r1:=cell_at (v:=.slice none 0 0) HB_r.out 1 rfl;obtain⟨qo,qc,rfl⟩:=sl_shape sq;obtain⟨ro,rc,rfl⟩:=sl_shape sr;go_wp2_with fail
  have hlt_xa:=lt_of_block HB_xa.out;have hlt_xb:=lt_of_block HB_xb.out;have hlt_q:=lt_of_block HB_q.out;have hlt_r:=lt_of_block HB_r.out;have hszb:=hbt.size
  refine Rely.region (by kernel_rfl) [[],[0],[],[2],[0,1,2,3],[],[0,1,2,3,4,5],[],[7],[],[0,1,2,3,4,5,6,7,8,9],[0,1,2,3,4,5,6,7,8,9,10],[0,1,2,3,4,5,6,7,8,9,10,11],[0,1,2,3,4,5,6,7,8,9,10,11,12]] [] [(11,1000),(12,1001)] (fun q=>[w.heap.size+2,w.heap.size+3].getD q 0) 2 14 (by kernel_rfl) (by kernel_rfl) (fun q hq=>by match q,hq with | 0,_=>exact hlt_q | 1,_=>exact hlt_r) (fun q r hq hr hne=>by match q,r,hq,hr,hne with | 0,0,_,_,h=>exact absurd rfl h | 0,1,_,_,h=>exact (by show w.heap.size+2≠w.heap.size+3;omega) | 1,0,_,_,h=>exact (by show w.heap.size+3≠w.heap.size+2;omega) | 1,1,_,_,h=>exact absurd rfl h) ?_;refine Rely.Chain.det ?_ (by rfl) (fun T xs wr hA=>?_) ?_
  rotate_left 1
  ·have e2:=hA.pre 2 (by kernel_rfl);simp only[gsa,gsc,gsz] at e2;clear hA;refine⟨(by rfl),?_⟩;go_simp<;>(try with_reducible rfl)
  refine Rely.Chain.det ?_ (by rfl) (fun T xs wr hA=>?_) ?_
  rotate_left 1
  ·have e43:=hA.tm 0 43 (by rfl) (by rfl);have f43:xs 0=_:=hA.fa 0 (by rfl)
   (try simp (disch:=rfl) only [Rely.mask_in] at f43)
   rw[f43] at e43;clear f43;have hBq:wr.heap[w.heap.size]?=_:=(hA.bl _ hlt_xa (fun q hq=>by match q,hq with | 0,_=>exact (by show w.heap.size+2≠w.heap.size;omega) | 1,_=>exact (by show w.heap.size+3≠w.heap.size;omega))).trans HB_xa.out;have q0:=cell_at (v:=.bool false) hBq 0 rfl;have q1:=cell_at (v:=.slice ao l c) hBq 1 rfl;clear hBq;clear hA;refine⟨(by rfl),?_⟩;go_simp<;>(try with_reducible rfl)
  refine Rely.Chain.det ?_ (by rfl) (fun T xs wr hA=>?_) ?_
  rotate_left 1
  ·have e3:=hA.pre 3 (by kernel_rfl);simp only[gsa,gsc,gsz] at e3;clear hA;refine⟨(by rfl),?_⟩;go_simp<;>(try with_reducible rfl)
  refine Rely.Chain.det ?_ (by rfl) (fun T xs wr hA=>?_) ?_
  rotate_left 1
  ·have e45:=hA.tm 2 45 (by rfl) (by rfl);have f45:xs 2=_:=hA.fa 2 (by rfl)
   (try simp (disch:=rfl) only [Rely.mask_in] at f45)
   rw[f45] at e45;clear f45;have hBq:wr.heap[w.heap.size+1]?=_:=(hA.bl _ hlt_xb (fun q hq=>by match q,hq with | 0,_=>exact (by show w.heap.size+2≠w.heap.size+1;omega) | 1,_=>exact (by show w.heap.size+3≠w.heap.size+1;omega))).trans HB_xb.out;have q0:=cell_at (v:=.bool false) hBq 0 rfl;have q1:=cell_at (v:=.slice po pl pc) hBq 1 rfl;clear hBq;clear hA;refine⟨(by rfl),?_⟩;go_simp<;>(try with_reducible rfl)
  refine Rely.Chain.det ?_ (by rfl) (fun T xs wr hA=>?_) ?_
  rotate_left 1
  ·have e44:=hA.tm 1 44 (by rfl) (by rfl);have f44:xs 1=_:=hA.fa 1 (by rfl)
   (try simp (disch:=rfl) only [Rely.mask_in] at f44)
   rw[f44] at e44;clear f44;have e46:=hA.tm 3 46 (by rfl) (by rfl);have f46:xs 3=_:=hA.fa 3 (by rfl)
   (try simp (disch:=rfl) only [Rely.mask_in] at f46)
   rw[f46] at e46;clear f46;clear hA;refine⟨(by rfl),?_⟩;go_simp<;>(try with_reducible rfl)
  refine Rely.Chain.det ?_ (by rfl) (fun T xs wr hA=>?_) ?_
  rotate_left 1
  ·have e7:=hA.pre 7 (by kernel_rfl);simp only[gsa,gsc,gsz] at e7;clear hA;refine⟨(by rfl),?_⟩;go_simp<;>(try with_reducible rfl)
  refine Rely.Chain.call (fun _ v w=>CI w v (sg false (m / n)) (k1+3)) (fun _ _ _ _ h hb=>h.below hb) (fun _ _ _ _ _ h hp=>h.keeps hp.keeps) (by rfl) (fun T xs wr hA=>?_) ?_
  ·have e47:=hA.tm 4 47 (by rfl) (by rfl);have f47:xs 4=_:=hA.fa 4 (by rfl)
   (try simp (disch:=rfl) only [Rely.mask_in] at f47)
   rw[f47] at e47;clear f47;have e48:=hA.tm 5 48 (by rfl) (by rfl);have f48:xs 5=_:=hA.fa 5 (by rfl)
   (try simp (disch:=rfl) only [Rely.mask_in] at f48)
   rw[f48] at e48;clear f48;have hkp:=undrewK hA.kp;have hbt':=hbt.trans (undrew (hA.be w.heap.size hszb (fun q hq=>by match q,hq with | 0,_=>exact (by show w.heap.size<=w.heap.size+2;omega) | 1,_=>exact (by show w.heap.size<=w.heap.size+3;omega))));have sq:=sq.keeps hkp;clear hA;refine⟨(by rfl),fun K hK=>?_⟩;go_simp
   refine (signed_any false (.slice qo _ qc) (m / n) (k1+3) _ sq hqn).mono ?_;rintro e wq ⟨v,rfl,c,hb⟩;exact hK.out _ _ c hb
  refine Rely.Chain.det ?_ (by rfl) (fun T xs wr hA=>?_) ?_
  rotate_left 1
  ·have e3:=hA.pre 3 (by kernel_rfl);simp only[gsa,gsc,gsz] at e3;clear hA;refine⟨(by rfl),?_⟩;go_simp<;>(try with_reducible rfl)
  refine Rely.Chain.det ?_ (by rfl) (fun T xs wr hA=>?_) ?_
  rotate_left 1
  ·have e50:=hA.tm 7 50 (by rfl) (by rfl);have f50:xs 7=_:=hA.fa 7 (by rfl)
   (try simp (disch:=rfl) only [Rely.mask_in] at f50)
   rw[f50] at e50;clear f50;have hBq:wr.heap[w.heap.size+1]?=_:=(hA.bl _ hlt_xb (fun q hq=>by match q,hq with | 0,_=>exact (by show w.heap.size+2≠w.heap.size+1;omega) | 1,_=>exact (by show w.heap.size+3≠w.heap.size+1;omega))).trans HB_xb.out;have q0:=cell_at (v:=.bool false) hBq 0 rfl;have q1:=cell_at (v:=.slice po pl pc) hBq 1 rfl;clear hBq;clear hA;refine⟨(by rfl),?_⟩;go_simp<;>(try with_reducible rfl)
  refine Rely.Chain.det ?_ (by rfl) (fun T xs wr hA=>?_) ?_
  rotate_left 1
  ·have e8:=hA.pre 8 (by kernel_rfl);simp only[gsa,gsc,gsz] at e8;clear hA;refine⟨(by rfl),?_⟩;go_simp<;>(try with_reducible rfl)
  refine Rely.Chain.call (fun _ v w=>CI w v (sg false (m % n)) k2) (fun _ _ _ _ h hb=>h.below hb) (fun _ _ _ _ _ h hp=>h.keeps hp.keeps) (by rfl) (fun T xs wr hA=>?_) ?_
  ·have e51:=hA.tm 8 51 (by rfl) (by rfl);have f51:xs 8=_:=hA.fa 8 (by rfl)
   (try simp (disch:=rfl) only [Rely.mask_in] at f51)
   rw[f51] at e51;clear f51;have e52:=hA.tm 9 52 (by rfl) (by rfl);have f52:xs 9=_:=hA.fa 9 (by rfl)
   (try simp (disch:=rfl) only [Rely.mask_in] at f52)
   rw[f52] at e52;clear f52;have hkp:=undrewK hA.kp;have hbt':=hbt.trans (undrew (hA.be w.heap.size hszb (fun q hq=>by match q,hq with | 0,_=>exact (by show w.heap.size<=w.heap.size+2;omega) | 1,_=>exact (by show w.heap.size<=w.heap.size+3;omega))));have sr:=sr.keeps hkp;clear hA;refine⟨(by rfl),fun K hK=>?_⟩;go_simp
   refine (signed_any false (.slice ro _ rc) (m % n) k2 _ sr hrn).mono ?_;rintro e wq ⟨v,rfl,c,hb⟩;exact hK.out _ _ c hb
  refine Rely.Chain.storeOld 0 6 26 (by rfl) (by rfl) (by decide) (Rely.own_one (by rfl)) (fun T xs wr hA hB0=>?_) ?_
  ·have e4:=hA.pre 4 (by kernel_rfl);simp only[gsa,gsc,gsz] at e4;have hB:wr.heap[w.heap.size+2]?=_:=hB0.trans HB_q.out;clear hB0;have e49:=hA.tm 6 49 (by rfl) (by rfl);have hc:CI wr (xs 6) (sg false (m / n)) (k1+3):=hA.fa 6 (by rfl);obtain⟨b_h,o_h,l_h,k_h,hv⟩:=hc.shape;clear hc;rw[hv] at e49;have z0:=cell_at hB 0 rfl;have z1:=cell_at hB 1 rfl;have fz0:=froz_at hB 0;have fz1:=froz_at hB 1;clear hA;refine⟨(by rfl),fun K hK=>?_⟩;go_simp
   exact hK.out _ _ hv (hset2 hB _ _) (priv2 hB (by rfl) (by rfl))
  refine Rely.Chain.storeOld 1 10 26 (by rfl) (by rfl) (by decide) (Rely.own_one (by rfl)) (fun T xs wr hA hB0=>?_) ?_
  ·have e5:=hA.pre 5 (by kernel_rfl);simp only[gsa,gsc,gsz] at e5;have hB:wr.heap[w.heap.size+3]?=_:=hB0.trans HB_r.out;clear hB0;have e53:=hA.tm 10 53 (by rfl) (by rfl);have hc:CI wr (xs 10) (sg false (m % n)) k2:=hA.fa 10 (by rfl);obtain⟨b_h,o_h,l_h,k_h,hv⟩:=hc.shape;clear hc;rw[hv] at e53;have z0:=cell_at hB 0 rfl;have z1:=cell_at hB 1 rfl;have fz0:=froz_at hB 0;have fz1:=froz_at hB 1;clear hA;refine⟨(by rfl),fun K hK=>?_⟩;go_simp
   exact hK.out _ _ hv (hset2 hB _ _) (priv2 hB (by rfl) (by rfl))
  refine Rely.Chain.det ?_ (by rfl) (fun T xs wr hA=>?_) ?_
  rotate_left 1
  ·clear hA;refine⟨(by rfl),?_⟩;go_simp<;>(try with_reducible rfl)
  refine Rely.Chain.done (fun xs wx3 hL=>?_);obtain⟨⟨hbe,hbl,hkp0⟩,hf,hp,hn⟩:=hL;have f0:xs 0=_:=hf 0 (by decide)
  (try simp (disch:=rfl) only [Rely.mask_in] at f0)
  have f1:xs 1=_:=hf 1 (by decide)
  (try simp (disch:=rfl) only [Rely.mask_in] at f1)
  have f2:xs 2=_:=hf 2 (by decide)
  (try simp (disch:=rfl) only [Rely.mask_in] at f2)
  have f3:xs 3=_:=hf 3 (by decide)
  (try simp (disch:=rfl) only [Rely.mask_in] at f3)
  have f4:xs 4=_:=hf 4 (by decide)
  (try simp (disch:=rfl) only [Rely.mask_in] at f4)
  have f5:xs 5=_:=hf 5 (by decide)
  (try simp (disch:=rfl) only [Rely.mask_in] at f5)
  have c_q2:CI wx3 (xs 6) (sg false (m / n)) (k1+3):=hf 6 (by decide);have f7:xs 7=_:=hf 7 (by decide)
  (try simp (disch:=rfl) only [Rely.mask_in] at f7)
  have f8:xs 8=_:=hf 8 (by decide)
  (try simp (disch:=rfl) only [Rely.mask_in] at f8)
  have f9:xs 9=_:=hf 9 (by decide)
  (try simp (disch:=rfl) only [Rely.mask_in] at f9)
  have c_r2:CI wx3 (xs 10) (sg false (m % n)) k2:=hf 10 (by decide);obtain⟨cc,hv,hB_q⟩:=hf 11 (by decide);change xs 6=_ at hv;obtain⟨b_q2,o_q2,l_q2,k_q2,hs_q2⟩:=c_q2.shape;rw[hs_q2] at hv;injection hv with hv;subst hv;obtain⟨cc,hv,hB_r⟩:=hf 12 (by decide);change xs 10=_ at hv;obtain⟨b_r2,o_r2,l_r2,k_r2,hs_r2⟩:=c_r2.shape;rw[hs_r2] at hv;injection hv with hv;subst hv;have f13:xs 13=_:=hf 13 (by decide)
  (try simp (disch:=rfl) only [Rely.mask_in] at f13)
  clear hf hp hn;refine Rely.rest_done ?_;rw[hs_q2] at c_q2;rw[hs_r2] at c_r2;simp only[Rely.fill,List.setIfInBounds_toArray,List.set_cons_zero,List.set_cons_succ,f0,f1,f2,f3,f4,f5,f7,f8,f9,f13,hs_q2,hs_r2];clear f0 f1 f2 f3 f4 f5 f7 f8 f9 f13 hs_q2 hs_r2;clear xs;replace hkp0:=undrewK hkp0;replace hg:=hg.keeps hkp0;replace hg2:=hg2.keeps hkp0;replace sq:=sq.keeps hkp0;replace sr:=sr.keeps hkp0;replace hbt:=hbt.trans (undrew (hbe w.heap.size hszb (fun q hq=>by match q,hq with | 0,_=>exact (by show w.heap.size<=w.heap.size+2;omega) | 1,_=>exact (by show w.heap.size<=w.heap.size+3;omega))));replace HB_xa:=Lib.hid ((hbl _ hlt_xa (fun q hq=>by match q,hq with | 0,_=>exact (by show w.heap.size+2≠w.heap.size;omega) | 1,_=>exact (by show w.heap.size+3≠w.heap.size;omega))).trans HB_xa.out)
  replace HB_xb:=Lib.hid ((hbl _ hlt_xb (fun q hq=>by match q,hq with | 0,_=>exact (by show w.heap.size+2≠w.heap.size+1;omega) | 1,_=>exact (by show w.heap.size+3≠w.heap.size+1;omega))).trans HB_xb.out);replace HB_q:=Lib.hid (show wx3.heap[w.heap.size+2]?=some (.cells #[.bool b_q2,.slice o_q2 l_q2 k_q2] 26 (0,0)) from hB_q);clear hB_q;replace HB_r:=Lib.hid (show wx3.heap[w.heap.size+3]?=some (.cells #[.bool b_r2,.slice o_r2 l_r2 k_r2] 26 (0,0)) from hB_r);clear hB_r;clear hkp0 hbe hbl hszb;replace xa0:=cell_at (v:=.bool false) HB_xa.out 0 rfl;replace xa1:=cell_at (v:=.slice ao l c) HB_xa.out 1 rfl;replace xb0:=cell_at (v:=.bool false) HB_xb.out 0 rfl;replace xb1:=cell_at (v:=.slice po pl pc) HB_xb.out 1 rfl;replace q0:=cell_at (v:=.bool b_q2) HB_q.out 0 rfl;replace q1:=cell_at (v:=.slice o_q2 l_q2 k_q2) HB_q.out 1 rfl
  replace r0:=cell_at (v:=.bool b_r2) HB_r.out 0 rfl;replace r1:=cell_at (v:=.slice o_r2 l_r2 k_r2) HB_r.out 1 rfl;clear hlt_xa hlt_xb hlt_q hlt_r;go_wp2_with fail
  exact bodyPost_ret (v:=.tuple #[.agg #[.bool b_q2,.slice o_q2 l_q2 k_q2],.agg #[.bool b_r2,.slice o_r2 l_r2 k_r2],.bool true]) (by simp[results,Tryz.results41,go_sem,q0,q1,r0,r1]) rfl ⟨_,_,rfl,c_q2,c_r2,hbt⟩
 ·obtain rfl:s=true:=hs
  have hl0:(dig L32 (m % n)).length<=0:=by
   rcases h with h | h
   ·cases h
   rw[h,dig_zero];exact Nat.le_refl _
  clear h;have hbt:=Below.refl w.heap.size w;go_enter Tryz.func41,Tryz.ntmps41
  go_wp2_with fail
  have hbx:Below w.heap.size w ((((w.alloc (.cells #[.bool false,.slice ao l c] 26)).alloc (.cells #[.bool true,.slice po pl pc] 26)).alloc (.cells #[.bool false,.slice none 0 0] 26)).alloc (.cells #[.bool false,.slice none 0 0] 26)):=(((((Below.refl _ _).alloc (by simp) _).alloc (by simp) _).alloc (by simp;omega) _).alloc (by simp;omega) _)
  replace hg:=hg.below hbx;replace hg2:=hg2.below hbx;replace hbt:=hbt.trans (hbx.mono hbt.size);clear hbx;have HB_xa:Hid (((((w.alloc (.cells #[.bool false,.slice ao l c] 26)).alloc (.cells #[.bool true,.slice po pl pc] 26)).alloc (.cells #[.bool false,.slice none 0 0] 26)).alloc (.cells #[.bool false,.slice none 0 0] 26)).heap[w.heap.size]?=some (.cells #[.bool false,.slice ao l c] 26 (0,0))):=Lib.hid (made_more (made_more (made_more (made_at w (.cells #[.bool false,.slice ao l c] 26) _ (by first | rfl | simp)) _) _) _)
  have HB_xb:Hid (((((w.alloc (.cells #[.bool false,.slice ao l c] 26)).alloc (.cells #[.bool true,.slice po pl pc] 26)).alloc (.cells #[.bool false,.slice none 0 0] 26)).alloc (.cells #[.bool false,.slice none 0 0] 26)).heap[w.heap.size+1]?=some (.cells #[.bool true,.slice po pl pc] 26 (0,0))):=Lib.hid (made_more (made_more (made_at (w.alloc (.cells #[.bool false,.slice ao l c] 26)) (.cells #[.bool true,.slice po pl pc] 26) _ (by first | rfl | simp)) _) _)
  have HB_q:Hid (((((w.alloc (.cells #[.bool false,.slice ao l c] 26)).alloc (.cells #[.bool true,.slice po pl pc] 26)).alloc (.cells #[.bool false,.slice none 0 0] 26)).alloc (.cells #[.bool false,.slice none 0 0] 26)).heap[w.heap.size+2]?=some (.cells #[.bool false,.slice none 0 0] 26 (0,0))):=Lib.hid (made_more (made_at ((w.alloc (.cells #[.bool false,.slice ao l c] 26)).alloc (.cells #[.bool true,.slice po pl pc] 26)) (.cells #[.bool false,.slice none 0 0] 26) _ (by first | rfl | simp)) _)
  have HB_r:Hid (((((w.alloc (.cells #[.bool false,.slice ao l c] 26)).alloc (.cells #[.bool true,.slice po pl pc] 26)).alloc (.cells #[.bool false,.slice none 0 0] 26)).alloc (.cells #[.bool false,.slice none 0 0] 26)).heap[w.heap.size+3]?=some (.cells #[.bool false,.slice none 0 0] 26 (0,0))):=Lib.hid (made_at (((w.alloc (.cells #[.bool false,.slice ao l c] 26)).alloc (.cells #[.bool true,.slice po pl pc] 26)).alloc (.cells #[.bool false,.slice none 0 0] 26)) (.cells #[.bool false,.slice none 0 0] 26) _ (by first | rfl | simp));generalize ((((w.alloc (.cells #[.bool false,.slice ao l c] 26)).alloc (.cells #[.bool true,.slice po pl pc] 26)).alloc (.cells #[.bool false,.slice none 0 0] 26)).alloc (.cells #[.bool false,.slice none 0 0] 26))=wx1 at *;have xa0:=cell_at (v:=.bool false) HB_xa.out 0 rfl;have xa1:=cell_at (v:=.slice ao l c) HB_xa.out 1 rfl
  have xb0:=cell_at (v:=.bool true) HB_xb.out 0 rfl;have xb1:=cell_at (v:=.slice po pl pc) HB_xb.out 1 rfl;have q0:=cell_at (v:=.bool false) HB_q.out 0 rfl;have q1:=cell_at (v:=.slice none 0 0) HB_q.out 1 rfl;have r0:=cell_at (v:=.bool false) HB_r.out 0 rfl;have r1:=cell_at (v:=.slice none 0 0) HB_r.out 1 rfl;refine (div_d hg hg2 h1 h0).mono ?_;rintro e wx2 ⟨vq,vr,rfl,sq,sr,hbx⟩;replace hg:=hg.below hbx;replace hg2:=hg2.below hbx;replace hbt:=hbt.trans (hbx.mono hbt.size);replace HB_xa:=Lib.hid ((hbx.block _ (lt_of_block HB_xa.out)).trans HB_xa.out);replace HB_xb:=Lib.hid ((hbx.block _ (lt_of_block HB_xb.out)).trans HB_xb.out);replace HB_q:=Lib.hid ((hbx.block _ (lt_of_block HB_q.out)).trans HB_q.out);replace HB_r:=Lib.hid ((hbx.block _ (lt_of_block HB_r.out)).trans HB_r.out);clear hbx;replace xa0:=cell_at (v:=.bool false) HB_xa.out 0 rfl
  replace xa1:=cell_at (v:=.slice ao l c) HB_xa.out 1 rfl;replace xb0:=cell_at (v:=.bool true) HB_xb.out 0 rfl;replace xb1:=cell_at (v:=.slice po pl pc) HB_xb.out 1 rfl;replace q0:=cell_at (v:=.bool false) HB_q.out 0 rfl;replace q1:=cell_at (v:=.slice none 0 0) HB_q.out 1 rfl;replace r0:=cell_at (v:=.bool false) HB_r.out 0 rfl;replace r1:=cell_at (v:=.slice none 0 0) HB_r.out 1 rfl;obtain⟨qo,qc,rfl⟩:=sl_shape sq;obtain⟨ro,rc,rfl⟩:=sl_shape sr;go_wp2_with fail
  have hlt_xa:=lt_of_block HB_xa.out;have hlt_xb:=lt_of_block HB_xb.out;have hlt_q:=lt_of_block HB_q.out;have hlt_r:=lt_of_block HB_r.out;have hszb:=hbt.size
  refine Rely.region (by kernel_rfl) [[],[0],[],[2],[0,1,2,3],[],[0,1,2,3,4,5],[],[7],[],[0,1,2,3,4,5,6,7,8,9],[0,1,2,3,4,5,6,7,8,9,10],[0,1,2,3,4,5,6,7,8,9,10,11],[0,1,2,3,4,5,6,7,8,9,10,11,12]] [] [(11,1000),(12,1001)] (fun q=>[w.heap.size+2,w.heap.size+3].getD q 0) 2 14 (by kernel_rfl) (by kernel_rfl) (fun q hq=>by match q,hq with | 0,_=>exact hlt_q | 1,_=>exact hlt_r) (fun q r hq hr hne=>by match q,r,hq,hr,hne with | 0,0,_,_,h=>exact absurd rfl h | 0,1,_,_,h=>exact (by show w.heap.size+2≠w.heap.size+3;omega) | 1,0,_,_,h=>exact (by show w.heap.size+3≠w.heap.size+2;omega) | 1,1,_,_,h=>exact absurd rfl h) ?_;refine Rely.Chain.det ?_ (by rfl) (fun T xs wr hA=>?_) ?_
  rotate_left 1
  ·have e2:=hA.pre 2 (by kernel_rfl);simp only[gsa,gsc,gsz] at e2;clear hA;refine⟨(by rfl),?_⟩;go_simp<;>(try with_reducible rfl)
  refine Rely.Chain.det ?_ (by rfl) (fun T xs wr hA=>?_) ?_
  rotate_left 1
  ·have e43:=hA.tm 0 43 (by rfl) (by rfl);have f43:xs 0=_:=hA.fa 0 (by rfl)
   (try simp (disch:=rfl) only [Rely.mask_in] at f43)
   rw[f43] at e43;clear f43;have hBq:wr.heap[w.heap.size]?=_:=(hA.bl _ hlt_xa (fun q hq=>by match q,hq with | 0,_=>exact (by show w.heap.size+2≠w.heap.size;omega) | 1,_=>exact (by show w.heap.size+3≠w.heap.size;omega))).trans HB_xa.out;have q0:=cell_at (v:=.bool false) hBq 0 rfl;have q1:=cell_at (v:=.slice ao l c) hBq 1 rfl;clear hBq;clear hA;refine⟨(by rfl),?_⟩;go_simp<;>(try with_reducible rfl)
  refine Rely.Chain.det ?_ (by rfl) (fun T xs wr hA=>?_) ?_
  rotate_left 1
  ·have e3:=hA.pre 3 (by kernel_rfl);simp only[gsa,gsc,gsz] at e3;clear hA;refine⟨(by rfl),?_⟩;go_simp<;>(try with_reducible rfl)
  refine Rely.Chain.det ?_ (by rfl) (fun T xs wr hA=>?_) ?_
  rotate_left 1
  ·have e45:=hA.tm 2 45 (by rfl) (by rfl);have f45:xs 2=_:=hA.fa 2 (by rfl)
   (try simp (disch:=rfl) only [Rely.mask_in] at f45)
   rw[f45] at e45;clear f45;have hBq:wr.heap[w.heap.size+1]?=_:=(hA.bl _ hlt_xb (fun q hq=>by match q,hq with | 0,_=>exact (by show w.heap.size+2≠w.heap.size+1;omega) | 1,_=>exact (by show w.heap.size+3≠w.heap.size+1;omega))).trans HB_xb.out;have q0:=cell_at (v:=.bool true) hBq 0 rfl;have q1:=cell_at (v:=.slice po pl pc) hBq 1 rfl;clear hBq;clear hA;refine⟨(by rfl),?_⟩;go_simp<;>(try with_reducible rfl)
  refine Rely.Chain.det ?_ (by rfl) (fun T xs wr hA=>?_) ?_
  rotate_left 1
  ·have e44:=hA.tm 1 44 (by rfl) (by rfl);have f44:xs 1=_:=hA.fa 1 (by rfl)
   (try simp (disch:=rfl) only [Rely.mask_in] at f44)
   rw[f44] at e44;clear f44;have e46:=hA.tm 3 46 (by rfl) (by rfl);have f46:xs 3=_:=hA.fa 3 (by rfl)
   (try simp (disch:=rfl) only [Rely.mask_in] at f46)
   rw[f46] at e46;clear f46;clear hA;refine⟨(by rfl),?_⟩;go_simp<;>(try with_reducible rfl)
  refine Rely.Chain.det ?_ (by rfl) (fun T xs wr hA=>?_) ?_
  rotate_left 1
  ·have e7:=hA.pre 7 (by kernel_rfl);simp only[gsa,gsc,gsz] at e7;clear hA;refine⟨(by rfl),?_⟩;go_simp<;>(try with_reducible rfl)
  refine Rely.Chain.call (fun _ v w=>CI w v (sg true (m / n)) (k1+3)) (fun _ _ _ _ h hb=>h.below hb) (fun _ _ _ _ _ h hp=>h.keeps hp.keeps) (by rfl) (fun T xs wr hA=>?_) ?_
  ·have e47:=hA.tm 4 47 (by rfl) (by rfl);have f47:xs 4=_:=hA.fa 4 (by rfl)
   (try simp (disch:=rfl) only [Rely.mask_in] at f47)
   rw[f47] at e47;clear f47;have e48:=hA.tm 5 48 (by rfl) (by rfl);have f48:xs 5=_:=hA.fa 5 (by rfl)
   (try simp (disch:=rfl) only [Rely.mask_in] at f48)
   rw[f48] at e48;clear f48;have hkp:=undrewK hA.kp;have hbt':=hbt.trans (undrew (hA.be w.heap.size hszb (fun q hq=>by match q,hq with | 0,_=>exact (by show w.heap.size<=w.heap.size+2;omega) | 1,_=>exact (by show w.heap.size<=w.heap.size+3;omega))));have sq:=sq.keeps hkp;clear hA;refine⟨(by rfl),fun K hK=>?_⟩;go_simp
   refine (signed_any true (.slice qo _ qc) (m / n) (k1+3) _ sq hqn).mono ?_;rintro e wq ⟨v,rfl,c,hb⟩;exact hK.out _ _ c hb
  refine Rely.Chain.det ?_ (by rfl) (fun T xs wr hA=>?_) ?_
  rotate_left 1
  ·have e3:=hA.pre 3 (by kernel_rfl);simp only[gsa,gsc,gsz] at e3;clear hA;refine⟨(by rfl),?_⟩;go_simp<;>(try with_reducible rfl)
  refine Rely.Chain.det ?_ (by rfl) (fun T xs wr hA=>?_) ?_
  rotate_left 1
  ·have e50:=hA.tm 7 50 (by rfl) (by rfl);have f50:xs 7=_:=hA.fa 7 (by rfl)
   (try simp (disch:=rfl) only [Rely.mask_in] at f50)
   rw[f50] at e50;clear f50;have hBq:wr.heap[w.heap.size+1]?=_:=(hA.bl _ hlt_xb (fun q hq=>by match q,hq with | 0,_=>exact (by show w.heap.size+2≠w.heap.size+1;omega) | 1,_=>exact (by show w.heap.size+3≠w.heap.size+1;omega))).trans HB_xb.out;have q0:=cell_at (v:=.bool true) hBq 0 rfl;have q1:=cell_at (v:=.slice po pl pc) hBq 1 rfl;clear hBq;clear hA;refine⟨(by rfl),?_⟩;go_simp<;>(try with_reducible rfl)
  refine Rely.Chain.det ?_ (by rfl) (fun T xs wr hA=>?_) ?_
  rotate_left 1
  ·have e8:=hA.pre 8 (by kernel_rfl);simp only[gsa,gsc,gsz] at e8;clear hA;refine⟨(by rfl),?_⟩;go_simp<;>(try with_reducible rfl)
  refine Rely.Chain.call (fun _ v w=>CI w v (sg true (m % n)) k2) (fun _ _ _ _ h hb=>h.below hb) (fun _ _ _ _ _ h hp=>h.keeps hp.keeps) (by rfl) (fun T xs wr hA=>?_) ?_
  ·have e51:=hA.tm 8 51 (by rfl) (by rfl);have f51:xs 8=_:=hA.fa 8 (by rfl)
   (try simp (disch:=rfl) only [Rely.mask_in] at f51)
   rw[f51] at e51;clear f51;have e52:=hA.tm 9 52 (by rfl) (by rfl);have f52:xs 9=_:=hA.fa 9 (by rfl)
   (try simp (disch:=rfl) only [Rely.mask_in] at f52)
   rw[f52] at e52;clear f52;have hkp:=undrewK hA.kp;have hbt':=hbt.trans (undrew (hA.be w.heap.size hszb (fun q hq=>by match q,hq with | 0,_=>exact (by show w.heap.size<=w.heap.size+2;omega) | 1,_=>exact (by show w.heap.size<=w.heap.size+3;omega))));have sr:=sr.keeps hkp;clear hA;refine⟨(by rfl),fun K hK=>?_⟩;go_simp
   refine (signed_any true (.slice ro _ rc) (m % n) k2 _ sr hrn).mono ?_;rintro e wq ⟨v,rfl,c,hb⟩;exact hK.out _ _ c hb
  refine Rely.Chain.storeOld 0 6 26 (by rfl) (by rfl) (by decide) (Rely.own_one (by rfl)) (fun T xs wr hA hB0=>?_) ?_
  ·have e4:=hA.pre 4 (by kernel_rfl);simp only[gsa,gsc,gsz] at e4;have hB:wr.heap[w.heap.size+2]?=_:=hB0.trans HB_q.out;clear hB0;have e49:=hA.tm 6 49 (by rfl) (by rfl);have hc:CI wr (xs 6) (sg true (m / n)) (k1+3):=hA.fa 6 (by rfl);obtain⟨b_h,o_h,l_h,k_h,hv⟩:=hc.shape;clear hc;rw[hv] at e49;have z0:=cell_at hB 0 rfl;have z1:=cell_at hB 1 rfl;have fz0:=froz_at hB 0;have fz1:=froz_at hB 1;clear hA;refine⟨(by rfl),fun K hK=>?_⟩;go_simp
   exact hK.out _ _ hv (hset2 hB _ _) (priv2 hB (by rfl) (by rfl))
  refine Rely.Chain.storeOld 1 10 26 (by rfl) (by rfl) (by decide) (Rely.own_one (by rfl)) (fun T xs wr hA hB0=>?_) ?_
  ·have e5:=hA.pre 5 (by kernel_rfl);simp only[gsa,gsc,gsz] at e5;have hB:wr.heap[w.heap.size+3]?=_:=hB0.trans HB_r.out;clear hB0;have e53:=hA.tm 10 53 (by rfl) (by rfl);have hc:CI wr (xs 10) (sg true (m % n)) k2:=hA.fa 10 (by rfl);obtain⟨b_h,o_h,l_h,k_h,hv⟩:=hc.shape;clear hc;rw[hv] at e53;have z0:=cell_at hB 0 rfl;have z1:=cell_at hB 1 rfl;have fz0:=froz_at hB 0;have fz1:=froz_at hB 1;clear hA;refine⟨(by rfl),fun K hK=>?_⟩;go_simp
   exact hK.out _ _ hv (hset2 hB _ _) (priv2 hB (by rfl) (by rfl))
  refine Rely.Chain.det ?_ (by rfl) (fun T xs wr hA=>?_) ?_
  rotate_left 1
  ·clear hA;refine⟨(by rfl),?_⟩;go_simp<;>(try with_reducible rfl)
  refine Rely.Chain.done (fun xs wx3 hL=>?_);obtain⟨⟨hbe,hbl,hkp0⟩,hf,hp,hn⟩:=hL;have f0:xs 0=_:=hf 0 (by decide)
  (try simp (disch:=rfl) only [Rely.mask_in] at f0)
  have f1:xs 1=_:=hf 1 (by decide)
  (try simp (disch:=rfl) only [Rely.mask_in] at f1)
  have f2:xs 2=_:=hf 2 (by decide)
  (try simp (disch:=rfl) only [Rely.mask_in] at f2)
  have f3:xs 3=_:=hf 3 (by decide)
  (try simp (disch:=rfl) only [Rely.mask_in] at f3)
  have f4:xs 4=_:=hf 4 (by decide)
  (try simp (disch:=rfl) only [Rely.mask_in] at f4)
  have f5:xs 5=_:=hf 5 (by decide)
  (try simp (disch:=rfl) only [Rely.mask_in] at f5)
  have c_q2:CI wx3 (xs 6) (sg true (m / n)) (k1+3):=hf 6 (by decide);have f7:xs 7=_:=hf 7 (by decide)
  (try simp (disch:=rfl) only [Rely.mask_in] at f7)
  have f8:xs 8=_:=hf 8 (by decide)
  (try simp (disch:=rfl) only [Rely.mask_in] at f8)
  have f9:xs 9=_:=hf 9 (by decide)
  (try simp (disch:=rfl) only [Rely.mask_in] at f9)
  have c_r2:CI wx3 (xs 10) (sg true (m % n)) k2:=hf 10 (by decide);obtain⟨cc,hv,hB_q⟩:=hf 11 (by decide);change xs 6=_ at hv;obtain⟨b_q2,o_q2,l_q2,k_q2,hs_q2⟩:=c_q2.shape;rw[hs_q2] at hv;injection hv with hv;subst hv;obtain⟨cc,hv,hB_r⟩:=hf 12 (by decide);change xs 10=_ at hv;obtain⟨b_r2,o_r2,l_r2,k_r2,hs_r2⟩:=c_r2.shape;rw[hs_r2] at hv;injection hv with hv;subst hv;have f13:xs 13=_:=hf 13 (by decide)
  (try simp (disch:=rfl) only [Rely.mask_in] at f13)
  clear hf hp hn;refine Rely.rest_done ?_;rw[hs_q2] at c_q2;rw[hs_r2] at c_r2;simp only[Rely.fill,List.setIfInBounds_toArray,List.set_cons_zero,List.set_cons_succ,f0,f1,f2,f3,f4,f5,f7,f8,f9,f13,hs_q2,hs_r2];clear f0 f1 f2 f3 f4 f5 f7 f8 f9 f13 hs_q2 hs_r2;clear xs;replace hkp0:=undrewK hkp0;replace hg:=hg.keeps hkp0;replace hg2:=hg2.keeps hkp0;replace sq:=sq.keeps hkp0;replace sr:=sr.keeps hkp0;replace hbt:=hbt.trans (undrew (hbe w.heap.size hszb (fun q hq=>by match q,hq with | 0,_=>exact (by show w.heap.size<=w.heap.size+2;omega) | 1,_=>exact (by show w.heap.size<=w.heap.size+3;omega))));replace HB_xa:=Lib.hid ((hbl _ hlt_xa (fun q hq=>by match q,hq with | 0,_=>exact (by show w.heap.size+2≠w.heap.size;omega) | 1,_=>exact (by show w.heap.size+3≠w.heap.size;omega))).trans HB_xa.out)
  replace HB_xb:=Lib.hid ((hbl _ hlt_xb (fun q hq=>by match q,hq with | 0,_=>exact (by show w.heap.size+2≠w.heap.size+1;omega) | 1,_=>exact (by show w.heap.size+3≠w.heap.size+1;omega))).trans HB_xb.out);replace HB_q:=Lib.hid (show wx3.heap[w.heap.size+2]?=some (.cells #[.bool b_q2,.slice o_q2 l_q2 k_q2] 26 (0,0)) from hB_q);clear hB_q;replace HB_r:=Lib.hid (show wx3.heap[w.heap.size+3]?=some (.cells #[.bool b_r2,.slice o_r2 l_r2 k_r2] 26 (0,0)) from hB_r);clear hB_r;clear hkp0 hbe hbl hszb;replace xa0:=cell_at (v:=.bool false) HB_xa.out 0 rfl;replace xa1:=cell_at (v:=.slice ao l c) HB_xa.out 1 rfl;replace xb0:=cell_at (v:=.bool true) HB_xb.out 0 rfl;replace xb1:=cell_at (v:=.slice po pl pc) HB_xb.out 1 rfl;replace q0:=cell_at (v:=.bool b_q2) HB_q.out 0 rfl;replace q1:=cell_at (v:=.slice o_q2 l_q2 k_q2) HB_q.out 1 rfl
  replace r0:=cell_at (v:=.bool b_r2) HB_r.out 0 rfl;replace r1:=cell_at (v:=.slice o_r2 l_r2 k_r2) HB_r.out 1 rfl;clear hlt_xa hlt_xb hlt_q hlt_r;go_wp2_with fail
  exact bodyPost_ret (v:=.tuple #[.agg #[.bool b_q2,.slice o_q2 l_q2 k_q2],.agg #[.bool b_r2,.slice o_r2 l_r2 k_r2],.bool true]) (by simp[results,Tryz.results41,go_sem,q0,q1,r0,r1]) rfl ⟨_,_,rfl,c_q2,c_r2,hbt⟩
 ·obtain rfl:s=true:=hs
  have hl0:(dig L32 (m % n)).length<=0:=by
   rcases h with h | h
   ·cases h
   rw[h,dig_zero];exact Nat.le_refl _
  clear h;have hbt:=Below.refl w.heap.size w;go_enter Tryz.func41,Tryz.ntmps41
  go_wp2_with fail
  have hbx:Below w.heap.size w ((((w.alloc (.cells #[.bool true,.slice ao l c] 26)).alloc (.cells #[.bool false,.slice po pl pc] 26)).alloc (.cells #[.bool false,.slice none 0 0] 26)).alloc (.cells #[.bool false,.slice none 0 0] 26)):=(((((Below.refl _ _).alloc (by simp) _).alloc (by simp) _).alloc (by simp;omega) _).alloc (by simp;omega) _)
  replace hg:=hg.below hbx;replace hg2:=hg2.below hbx;replace hbt:=hbt.trans (hbx.mono hbt.size);clear hbx;have HB_xa:Hid (((((w.alloc (.cells #[.bool true,.slice ao l c] 26)).alloc (.cells #[.bool false,.slice po pl pc] 26)).alloc (.cells #[.bool false,.slice none 0 0] 26)).alloc (.cells #[.bool false,.slice none 0 0] 26)).heap[w.heap.size]?=some (.cells #[.bool true,.slice ao l c] 26 (0,0))):=Lib.hid (made_more (made_more (made_more (made_at w (.cells #[.bool true,.slice ao l c] 26) _ (by first | rfl | simp)) _) _) _)
  have HB_xb:Hid (((((w.alloc (.cells #[.bool true,.slice ao l c] 26)).alloc (.cells #[.bool false,.slice po pl pc] 26)).alloc (.cells #[.bool false,.slice none 0 0] 26)).alloc (.cells #[.bool false,.slice none 0 0] 26)).heap[w.heap.size+1]?=some (.cells #[.bool false,.slice po pl pc] 26 (0,0))):=Lib.hid (made_more (made_more (made_at (w.alloc (.cells #[.bool true,.slice ao l c] 26)) (.cells #[.bool false,.slice po pl pc] 26) _ (by first | rfl | simp)) _) _)
  have HB_q:Hid (((((w.alloc (.cells #[.bool true,.slice ao l c] 26)).alloc (.cells #[.bool false,.slice po pl pc] 26)).alloc (.cells #[.bool false,.slice none 0 0] 26)).alloc (.cells #[.bool false,.slice none 0 0] 26)).heap[w.heap.size+2]?=some (.cells #[.bool false,.slice none 0 0] 26 (0,0))):=Lib.hid (made_more (made_at ((w.alloc (.cells #[.bool true,.slice ao l c] 26)).alloc (.cells #[.bool false,.slice po pl pc] 26)) (.cells #[.bool false,.slice none 0 0] 26) _ (by first | rfl | simp)) _)
  have HB_r:Hid (((((w.alloc (.cells #[.bool true,.slice ao l c] 26)).alloc (.cells #[.bool false,.slice po pl pc] 26)).alloc (.cells #[.bool false,.slice none 0 0] 26)).alloc (.cells #[.bool false,.slice none 0 0] 26)).heap[w.heap.size+3]?=some (.cells #[.bool false,.slice none 0 0] 26 (0,0))):=Lib.hid (made_at (((w.alloc (.cells #[.bool true,.slice ao l c] 26)).alloc (.cells #[.bool false,.slice po pl pc] 26)).alloc (.cells #[.bool false,.slice none 0 0] 26)) (.cells #[.bool false,.slice none 0 0] 26) _ (by first | rfl | simp));generalize ((((w.alloc (.cells #[.bool true,.slice ao l c] 26)).alloc (.cells #[.bool false,.slice po pl pc] 26)).alloc (.cells #[.bool false,.slice none 0 0] 26)).alloc (.cells #[.bool false,.slice none 0 0] 26))=wx1 at *;have xa0:=cell_at (v:=.bool true) HB_xa.out 0 rfl;have xa1:=cell_at (v:=.slice ao l c) HB_xa.out 1 rfl
  have xb0:=cell_at (v:=.bool false) HB_xb.out 0 rfl;have xb1:=cell_at (v:=.slice po pl pc) HB_xb.out 1 rfl;have q0:=cell_at (v:=.bool false) HB_q.out 0 rfl;have q1:=cell_at (v:=.slice none 0 0) HB_q.out 1 rfl;have r0:=cell_at (v:=.bool false) HB_r.out 0 rfl;have r1:=cell_at (v:=.slice none 0 0) HB_r.out 1 rfl;refine (div_d hg hg2 h1 h0).mono ?_;rintro e wx2 ⟨vq,vr,rfl,sq,sr,hbx⟩;replace hg:=hg.below hbx;replace hg2:=hg2.below hbx;replace hbt:=hbt.trans (hbx.mono hbt.size);replace HB_xa:=Lib.hid ((hbx.block _ (lt_of_block HB_xa.out)).trans HB_xa.out);replace HB_xb:=Lib.hid ((hbx.block _ (lt_of_block HB_xb.out)).trans HB_xb.out);replace HB_q:=Lib.hid ((hbx.block _ (lt_of_block HB_q.out)).trans HB_q.out);replace HB_r:=Lib.hid ((hbx.block _ (lt_of_block HB_r.out)).trans HB_r.out);clear hbx;replace xa0:=cell_at (v:=.bool true) HB_xa.out 0 rfl
  replace xa1:=cell_at (v:=.slice ao l c) HB_xa.out 1 rfl;replace xb0:=cell_at (v:=.bool false) HB_xb.out 0 rfl;replace xb1:=cell_at (v:=.slice po pl pc) HB_xb.out 1 rfl;replace q0:=cell_at (v:=.bool false) HB_q.out 0 rfl;replace q1:=cell_at (v:=.slice none 0 0) HB_q.out 1 rfl;replace r0:=cell_at (v:=.bool false) HB_r.out 0 rfl;replace r1:=cell_at (v:=.slice none 0 0) HB_r.out 1 rfl;obtain⟨qo,qc,rfl⟩:=sl_shape sq;obtain⟨ro,rc,rfl⟩:=sl_shape sr;go_wp2_with fail
  have hlt_xa:=lt_of_block HB_xa.out;have hlt_xb:=lt_of_block HB_xb.out;have hlt_q:=lt_of_block HB_q.out;have hlt_r:=lt_of_block HB_r.out;have hszb:=hbt.size
  refine Rely.region (by kernel_rfl) [[],[0],[],[2],[0,1,2,3],[],[0,1,2,3,4,5],[],[7],[],[0,1,2,3,4,5,6,7,8,9],[0,1,2,3,4,5,6,7,8,9,10],[0,1,2,3,4,5,6,7,8,9,10,11],[0,1,2,3,4,5,6,7,8,9,10,11,12]] [] [(11,1000),(12,1001)] (fun q=>[w.heap.size+2,w.heap.size+3].getD q 0) 2 14 (by kernel_rfl) (by kernel_rfl) (fun q hq=>by match q,hq with | 0,_=>exact hlt_q | 1,_=>exact hlt_r) (fun q r hq hr hne=>by match q,r,hq,hr,hne with | 0,0,_,_,h=>exact absurd rfl h | 0,1,_,_,h=>exact (by show w.heap.size+2≠w.heap.size+3;omega) | 1,0,_,_,h=>exact (by show w.heap.size+3≠w.heap.size+2;omega) | 1,1,_,_,h=>exact absurd rfl h) ?_;refine Rely.Chain.det ?_ (by rfl) (fun T xs wr hA=>?_) ?_
  rotate_left 1
  ·have e2:=hA.pre 2 (by kernel_rfl);simp only[gsa,gsc,gsz] at e2;clear hA;refine⟨(by rfl),?_⟩;go_simp<;>(try with_reducible rfl)
  refine Rely.Chain.det ?_ (by rfl) (fun T xs wr hA=>?_) ?_
  rotate_left 1
  ·have e43:=hA.tm 0 43 (by rfl) (by rfl);have f43:xs 0=_:=hA.fa 0 (by rfl)
   (try simp (disch:=rfl) only [Rely.mask_in] at f43)
   rw[f43] at e43;clear f43;have hBq:wr.heap[w.heap.size]?=_:=(hA.bl _ hlt_xa (fun q hq=>by match q,hq with | 0,_=>exact (by show w.heap.size+2≠w.heap.size;omega) | 1,_=>exact (by show w.heap.size+3≠w.heap.size;omega))).trans HB_xa.out;have q0:=cell_at (v:=.bool true) hBq 0 rfl;have q1:=cell_at (v:=.slice ao l c) hBq 1 rfl;clear hBq;clear hA;refine⟨(by rfl),?_⟩;go_simp<;>(try with_reducible rfl)
  refine Rely.Chain.det ?_ (by rfl) (fun T xs wr hA=>?_) ?_
  rotate_left 1
  ·have e3:=hA.pre 3 (by kernel_rfl);simp only[gsa,gsc,gsz] at e3;clear hA;refine⟨(by rfl),?_⟩;go_simp<;>(try with_reducible rfl)
  refine Rely.Chain.det ?_ (by rfl) (fun T xs wr hA=>?_) ?_
  rotate_left 1
  ·have e45:=hA.tm 2 45 (by rfl) (by rfl);have f45:xs 2=_:=hA.fa 2 (by rfl)
   (try simp (disch:=rfl) only [Rely.mask_in] at f45)
   rw[f45] at e45;clear f45;have hBq:wr.heap[w.heap.size+1]?=_:=(hA.bl _ hlt_xb (fun q hq=>by match q,hq with | 0,_=>exact (by show w.heap.size+2≠w.heap.size+1;omega) | 1,_=>exact (by show w.heap.size+3≠w.heap.size+1;omega))).trans HB_xb.out;have q0:=cell_at (v:=.bool false) hBq 0 rfl;have q1:=cell_at (v:=.slice po pl pc) hBq 1 rfl;clear hBq;clear hA;refine⟨(by rfl),?_⟩;go_simp<;>(try with_reducible rfl)
  refine Rely.Chain.det ?_ (by rfl) (fun T xs wr hA=>?_) ?_
  rotate_left 1
  ·have e44:=hA.tm 1 44 (by rfl) (by rfl);have f44:xs 1=_:=hA.fa 1 (by rfl)
   (try simp (disch:=rfl) only [Rely.mask_in] at f44)
   rw[f44] at e44;clear f44;have e46:=hA.tm 3 46 (by rfl) (by rfl);have f46:xs 3=_:=hA.fa 3 (by rfl)
   (try simp (disch:=rfl) only [Rely.mask_in] at f46)
   rw[f46] at e46;clear f46;clear hA;refine⟨(by rfl),?_⟩;go_simp<;>(try with_reducible rfl)
  refine Rely.Chain.det ?_ (by rfl) (fun T xs wr hA=>?_) ?_
  rotate_left 1
  ·have e7:=hA.pre 7 (by kernel_rfl);simp only[gsa,gsc,gsz] at e7;clear hA;refine⟨(by rfl),?_⟩;go_simp<;>(try with_reducible rfl)
  refine Rely.Chain.call (fun _ v w=>CI w v (sg true (m / n)) (k1+3)) (fun _ _ _ _ h hb=>h.below hb) (fun _ _ _ _ _ h hp=>h.keeps hp.keeps) (by rfl) (fun T xs wr hA=>?_) ?_
  ·have e47:=hA.tm 4 47 (by rfl) (by rfl);have f47:xs 4=_:=hA.fa 4 (by rfl)
   (try simp (disch:=rfl) only [Rely.mask_in] at f47)
   rw[f47] at e47;clear f47;have e48:=hA.tm 5 48 (by rfl) (by rfl);have f48:xs 5=_:=hA.fa 5 (by rfl)
   (try simp (disch:=rfl) only [Rely.mask_in] at f48)
   rw[f48] at e48;clear f48;have hkp:=undrewK hA.kp;have hbt':=hbt.trans (undrew (hA.be w.heap.size hszb (fun q hq=>by match q,hq with | 0,_=>exact (by show w.heap.size<=w.heap.size+2;omega) | 1,_=>exact (by show w.heap.size<=w.heap.size+3;omega))));have sq:=sq.keeps hkp;clear hA;refine⟨(by rfl),fun K hK=>?_⟩;go_simp
   refine (signed_any true (.slice qo _ qc) (m / n) (k1+3) _ sq hqn).mono ?_;rintro e wq ⟨v,rfl,c,hb⟩;exact hK.out _ _ c hb
  refine Rely.Chain.det ?_ (by rfl) (fun T xs wr hA=>?_) ?_
  rotate_left 1
  ·have e3:=hA.pre 3 (by kernel_rfl);simp only[gsa,gsc,gsz] at e3;clear hA;refine⟨(by rfl),?_⟩;go_simp<;>(try with_reducible rfl)
  refine Rely.Chain.det ?_ (by rfl) (fun T xs wr hA=>?_) ?_
  rotate_left 1
  ·have e50:=hA.tm 7 50 (by rfl) (by rfl);have f50:xs 7=_:=hA.fa 7 (by rfl)
   (try simp (disch:=rfl) only [Rely.mask_in] at f50)
   rw[f50] at e50;clear f50;have hBq:wr.heap[w.heap.size+1]?=_:=(hA.bl _ hlt_xb (fun q hq=>by match q,hq with | 0,_=>exact (by show w.heap.size+2≠w.heap.size+1;omega) | 1,_=>exact (by show w.heap.size+3≠w.heap.size+1;omega))).trans HB_xb.out;have q0:=cell_at (v:=.bool false) hBq 0 rfl;have q1:=cell_at (v:=.slice po pl pc) hBq 1 rfl;clear hBq;clear hA;refine⟨(by rfl),?_⟩;go_simp<;>(try with_reducible rfl)
  refine Rely.Chain.det ?_ (by rfl) (fun T xs wr hA=>?_) ?_
  rotate_left 1
  ·have e8:=hA.pre 8 (by kernel_rfl);simp only[gsa,gsc,gsz] at e8;clear hA;refine⟨(by rfl),?_⟩;go_simp<;>(try with_reducible rfl)
  refine Rely.Chain.call (fun _ v w=>CI w v (sg false (m % n)) k2) (fun _ _ _ _ h hb=>h.below hb) (fun _ _ _ _ _ h hp=>h.keeps hp.keeps) (by rfl) (fun T xs wr hA=>?_) ?_
  ·have e51:=hA.tm 8 51 (by rfl) (by rfl);have f51:xs 8=_:=hA.fa 8 (by rfl)
   (try simp (disch:=rfl) only [Rely.mask_in] at f51)
   rw[f51] at e51;clear f51;have e52:=hA.tm 9 52 (by rfl) (by rfl);have f52:xs 9=_:=hA.fa 9 (by rfl)
   (try simp (disch:=rfl) only [Rely.mask_in] at f52)
   rw[f52] at e52;clear f52;have hkp:=undrewK hA.kp;have hbt':=hbt.trans (undrew (hA.be w.heap.size hszb (fun q hq=>by match q,hq with | 0,_=>exact (by show w.heap.size<=w.heap.size+2;omega) | 1,_=>exact (by show w.heap.size<=w.heap.size+3;omega))));have sr:=sr.keeps hkp;clear hA;refine⟨(by rfl),fun K hK=>?_⟩;go_simp
   refine (signed_any false (.slice ro _ rc) (m % n) k2 _ sr hrn).mono ?_;rintro e wq ⟨v,rfl,c,hb⟩;exact hK.out _ _ c hb
  refine Rely.Chain.storeOld 0 6 26 (by rfl) (by rfl) (by decide) (Rely.own_one (by rfl)) (fun T xs wr hA hB0=>?_) ?_
  ·have e4:=hA.pre 4 (by kernel_rfl);simp only[gsa,gsc,gsz] at e4;have hB:wr.heap[w.heap.size+2]?=_:=hB0.trans HB_q.out;clear hB0;have e49:=hA.tm 6 49 (by rfl) (by rfl);have hc:CI wr (xs 6) (sg true (m / n)) (k1+3):=hA.fa 6 (by rfl);obtain⟨b_h,o_h,l_h,k_h,hv⟩:=hc.shape;clear hc;rw[hv] at e49;have z0:=cell_at hB 0 rfl;have z1:=cell_at hB 1 rfl;have fz0:=froz_at hB 0;have fz1:=froz_at hB 1;clear hA;refine⟨(by rfl),fun K hK=>?_⟩;go_simp
   exact hK.out _ _ hv (hset2 hB _ _) (priv2 hB (by rfl) (by rfl))
  refine Rely.Chain.storeOld 1 10 26 (by rfl) (by rfl) (by decide) (Rely.own_one (by rfl)) (fun T xs wr hA hB0=>?_) ?_
  ·have e5:=hA.pre 5 (by kernel_rfl);simp only[gsa,gsc,gsz] at e5;have hB:wr.heap[w.heap.size+3]?=_:=hB0.trans HB_r.out;clear hB0;have e53:=hA.tm 10 53 (by rfl) (by rfl);have hc:CI wr (xs 10) (sg false (m % n)) k2:=hA.fa 10 (by rfl);obtain⟨b_h,o_h,l_h,k_h,hv⟩:=hc.shape;clear hc;rw[hv] at e53;have z0:=cell_at hB 0 rfl;have z1:=cell_at hB 1 rfl;have fz0:=froz_at hB 0;have fz1:=froz_at hB 1;clear hA;refine⟨(by rfl),fun K hK=>?_⟩;go_simp
   exact hK.out _ _ hv (hset2 hB _ _) (priv2 hB (by rfl) (by rfl))
  refine Rely.Chain.det ?_ (by rfl) (fun T xs wr hA=>?_) ?_
  rotate_left 1
  ·clear hA;refine⟨(by rfl),?_⟩;go_simp<;>(try with_reducible rfl)
  refine Rely.Chain.done (fun xs wx3 hL=>?_);obtain⟨⟨hbe,hbl,hkp0⟩,hf,hp,hn⟩:=hL;have f0:xs 0=_:=hf 0 (by decide)
  (try simp (disch:=rfl) only [Rely.mask_in] at f0)
  have f1:xs 1=_:=hf 1 (by decide)
  (try simp (disch:=rfl) only [Rely.mask_in] at f1)
  have f2:xs 2=_:=hf 2 (by decide)
  (try simp (disch:=rfl) only [Rely.mask_in] at f2)
  have f3:xs 3=_:=hf 3 (by decide)
  (try simp (disch:=rfl) only [Rely.mask_in] at f3)
  have f4:xs 4=_:=hf 4 (by decide)
  (try simp (disch:=rfl) only [Rely.mask_in] at f4)
  have f5:xs 5=_:=hf 5 (by decide)
  (try simp (disch:=rfl) only [Rely.mask_in] at f5)
  have c_q2:CI wx3 (xs 6) (sg true (m / n)) (k1+3):=hf 6 (by decide);have f7:xs 7=_:=hf 7 (by decide)
  (try simp (disch:=rfl) only [Rely.mask_in] at f7)
  have f8:xs 8=_:=hf 8 (by decide)
  (try simp (disch:=rfl) only [Rely.mask_in] at f8)
  have f9:xs 9=_:=hf 9 (by decide)
  (try simp (disch:=rfl) only [Rely.mask_in] at f9)
  have c_r2:CI wx3 (xs 10) (sg false (m % n)) k2:=hf 10 (by decide);obtain⟨cc,hv,hB_q⟩:=hf 11 (by decide);change xs 6=_ at hv;obtain⟨b_q2,o_q2,l_q2,k_q2,hs_q2⟩:=c_q2.shape;rw[hs_q2] at hv;injection hv with hv;subst hv;obtain⟨cc,hv,hB_r⟩:=hf 12 (by decide);change xs 10=_ at hv;obtain⟨b_r2,o_r2,l_r2,k_r2,hs_r2⟩:=c_r2.shape;rw[hs_r2] at hv;injection hv with hv;subst hv;have f13:xs 13=_:=hf 13 (by decide)
  (try simp (disch:=rfl) only [Rely.mask_in] at f13)
  clear hf hp hn;refine Rely.rest_done ?_;rw[hs_q2] at c_q2;rw[hs_r2] at c_r2;simp only[Rely.fill,List.setIfInBounds_toArray,List.set_cons_zero,List.set_cons_succ,f0,f1,f2,f3,f4,f5,f7,f8,f9,f13,hs_q2,hs_r2];clear f0 f1 f2 f3 f4 f5 f7 f8 f9 f13 hs_q2 hs_r2;clear xs;replace hkp0:=undrewK hkp0;replace hg:=hg.keeps hkp0;replace hg2:=hg2.keeps hkp0;replace sq:=sq.keeps hkp0;replace sr:=sr.keeps hkp0;replace hbt:=hbt.trans (undrew (hbe w.heap.size hszb (fun q hq=>by match q,hq with | 0,_=>exact (by show w.heap.size<=w.heap.size+2;omega) | 1,_=>exact (by show w.heap.size<=w.heap.size+3;omega))));replace HB_xa:=Lib.hid ((hbl _ hlt_xa (fun q hq=>by match q,hq with | 0,_=>exact (by show w.heap.size+2≠w.heap.size;omega) | 1,_=>exact (by show w.heap.size+3≠w.heap.size;omega))).trans HB_xa.out)
  replace HB_xb:=Lib.hid ((hbl _ hlt_xb (fun q hq=>by match q,hq with | 0,_=>exact (by show w.heap.size+2≠w.heap.size+1;omega) | 1,_=>exact (by show w.heap.size+3≠w.heap.size+1;omega))).trans HB_xb.out);replace HB_q:=Lib.hid (show wx3.heap[w.heap.size+2]?=some (.cells #[.bool b_q2,.slice o_q2 l_q2 k_q2] 26 (0,0)) from hB_q);clear hB_q;replace HB_r:=Lib.hid (show wx3.heap[w.heap.size+3]?=some (.cells #[.bool b_r2,.slice o_r2 l_r2 k_r2] 26 (0,0)) from hB_r);clear hB_r;clear hkp0 hbe hbl hszb;replace xa0:=cell_at (v:=.bool true) HB_xa.out 0 rfl;replace xa1:=cell_at (v:=.slice ao l c) HB_xa.out 1 rfl;replace xb0:=cell_at (v:=.bool false) HB_xb.out 0 rfl;replace xb1:=cell_at (v:=.slice po pl pc) HB_xb.out 1 rfl;replace q0:=cell_at (v:=.bool b_q2) HB_q.out 0 rfl;replace q1:=cell_at (v:=.slice o_q2 l_q2 k_q2) HB_q.out 1 rfl
  replace r0:=cell_at (v:=.bool b_r2) HB_r.out 0 rfl;replace r1:=cell_at (v:=.slice o_r2 l_r2 k_r2) HB_r.out 1 rfl;clear hlt_xa hlt_xb hlt_q hlt_r;go_wp2_with fail
  exact bodyPost_ret (v:=.tuple #[.agg #[.bool b_q2,.slice o_q2 l_q2 k_q2],.agg #[.bool b_r2,.slice o_r2 l_r2 k_r2],.bool true]) (by simp[results,Tryz.results41,go_sem,q0,q1,r0,r1]) rfl ⟨_,_,rfl,c_q2,c_r2,hbt⟩
 obtain rfl:s=false:=hs;clear h;have hbt:=Below.refl w.heap.size w;go_enter Tryz.func41,Tryz.ntmps41
 go_wp2_with fail
 have hbx:Below w.heap.size w ((((w.alloc (.cells #[.bool true,.slice ao l c] 26)).alloc (.cells #[.bool true,.slice po pl pc] 26)).alloc (.cells #[.bool false,.slice none 0 0] 26)).alloc (.cells #[.bool false,.slice none 0 0] 26)):=(((((Below.refl _ _).alloc (by simp) _).alloc (by simp) _).alloc (by simp;omega) _).alloc (by simp;omega) _)
 replace hg:=hg.below hbx;replace hg2:=hg2.below hbx;replace hbt:=hbt.trans (hbx.mono hbt.size);clear hbx;have HB_xa:Hid (((((w.alloc (.cells #[.bool true,.slice ao l c] 26)).alloc (.cells #[.bool true,.slice po pl pc] 26)).alloc (.cells #[.bool false,.slice none 0 0] 26)).alloc (.cells #[.bool false,.slice none 0 0] 26)).heap[w.heap.size]?=some (.cells #[.bool true,.slice ao l c] 26 (0,0))):=Lib.hid (made_more (made_more (made_more (made_at w (.cells #[.bool true,.slice ao l c] 26) _ (by first | rfl | simp)) _) _) _)
 have HB_xb:Hid (((((w.alloc (.cells #[.bool true,.slice ao l c] 26)).alloc (.cells #[.bool true,.slice po pl pc] 26)).alloc (.cells #[.bool false,.slice none 0 0] 26)).alloc (.cells #[.bool false,.slice none 0 0] 26)).heap[w.heap.size+1]?=some (.cells #[.bool true,.slice po pl pc] 26 (0,0))):=Lib.hid (made_more (made_more (made_at (w.alloc (.cells #[.bool true,.slice ao l c] 26)) (.cells #[.bool true,.slice po pl pc] 26) _ (by first | rfl | simp)) _) _)
 have HB_q:Hid (((((w.alloc (.cells #[.bool true,.slice ao l c] 26)).alloc (.cells #[.bool true,.slice po pl pc] 26)).alloc (.cells #[.bool false,.slice none 0 0] 26)).alloc (.cells #[.bool false,.slice none 0 0] 26)).heap[w.heap.size+2]?=some (.cells #[.bool false,.slice none 0 0] 26 (0,0))):=Lib.hid (made_more (made_at ((w.alloc (.cells #[.bool true,.slice ao l c] 26)).alloc (.cells #[.bool true,.slice po pl pc] 26)) (.cells #[.bool false,.slice none 0 0] 26) _ (by first | rfl | simp)) _)
 have HB_r:Hid (((((w.alloc (.cells #[.bool true,.slice ao l c] 26)).alloc (.cells #[.bool true,.slice po pl pc] 26)).alloc (.cells #[.bool false,.slice none 0 0] 26)).alloc (.cells #[.bool false,.slice none 0 0] 26)).heap[w.heap.size+3]?=some (.cells #[.bool false,.slice none 0 0] 26 (0,0))):=Lib.hid (made_at (((w.alloc (.cells #[.bool true,.slice ao l c] 26)).alloc (.cells #[.bool true,.slice po pl pc] 26)).alloc (.cells #[.bool false,.slice none 0 0] 26)) (.cells #[.bool false,.slice none 0 0] 26) _ (by first | rfl | simp));generalize ((((w.alloc (.cells #[.bool true,.slice ao l c] 26)).alloc (.cells #[.bool true,.slice po pl pc] 26)).alloc (.cells #[.bool false,.slice none 0 0] 26)).alloc (.cells #[.bool false,.slice none 0 0] 26))=wx1 at *;have xa0:=cell_at (v:=.bool true) HB_xa.out 0 rfl;have xa1:=cell_at (v:=.slice ao l c) HB_xa.out 1 rfl
 have xb0:=cell_at (v:=.bool true) HB_xb.out 0 rfl;have xb1:=cell_at (v:=.slice po pl pc) HB_xb.out 1 rfl;have q0:=cell_at (v:=.bool false) HB_q.out 0 rfl;have q1:=cell_at (v:=.slice none 0 0) HB_q.out 1 rfl;have r0:=cell_at (v:=.bool false) HB_r.out 0 rfl;have r1:=cell_at (v:=.slice none 0 0) HB_r.out 1 rfl;refine (div_d hg hg2 h1 h0).mono ?_;rintro e wx2 ⟨vq,vr,rfl,sq,sr,hbx⟩;replace hg:=hg.below hbx;replace hg2:=hg2.below hbx;replace hbt:=hbt.trans (hbx.mono hbt.size);replace HB_xa:=Lib.hid ((hbx.block _ (lt_of_block HB_xa.out)).trans HB_xa.out);replace HB_xb:=Lib.hid ((hbx.block _ (lt_of_block HB_xb.out)).trans HB_xb.out);replace HB_q:=Lib.hid ((hbx.block _ (lt_of_block HB_q.out)).trans HB_q.out);replace HB_r:=Lib.hid ((hbx.block _ (lt_of_block HB_r.out)).trans HB_r.out);clear hbx;replace xa0:=cell_at (v:=.bool true) HB_xa.out 0 rfl
 replace xa1:=cell_at (v:=.slice ao l c) HB_xa.out 1 rfl;replace xb0:=cell_at (v:=.bool true) HB_xb.out 0 rfl;replace xb1:=cell_at (v:=.slice po pl pc) HB_xb.out 1 rfl;replace q0:=cell_at (v:=.bool false) HB_q.out 0 rfl;replace q1:=cell_at (v:=.slice none 0 0) HB_q.out 1 rfl;replace r0:=cell_at (v:=.bool false) HB_r.out 0 rfl;replace r1:=cell_at (v:=.slice none 0 0) HB_r.out 1 rfl;obtain⟨qo,qc,rfl⟩:=sl_shape sq;obtain⟨ro,rc,rfl⟩:=sl_shape sr;go_wp2_with fail
 have hlt_xa:=lt_of_block HB_xa.out;have hlt_xb:=lt_of_block HB_xb.out;have hlt_q:=lt_of_block HB_q.out;have hlt_r:=lt_of_block HB_r.out;have hszb:=hbt.size
 refine Rely.region (by kernel_rfl) [[],[0],[],[2],[0,1,2,3],[],[0,1,2,3,4,5],[],[7],[],[0,1,2,3,4,5,6,7,8,9],[0,1,2,3,4,5,6,7,8,9,10],[0,1,2,3,4,5,6,7,8,9,10,11],[0,1,2,3,4,5,6,7,8,9,10,11,12]] [] [(11,1000),(12,1001)] (fun q=>[w.heap.size+2,w.heap.size+3].getD q 0) 2 14 (by kernel_rfl) (by kernel_rfl) (fun q hq=>by match q,hq with | 0,_=>exact hlt_q | 1,_=>exact hlt_r) (fun q r hq hr hne=>by match q,r,hq,hr,hne with | 0,0,_,_,h=>exact absurd rfl h | 0,1,_,_,h=>exact (by show w.heap.size+2≠w.heap.size+3;omega) | 1,0,_,_,h=>exact (by show w.heap.size+3≠w.heap.size+2;omega) | 1,1,_,_,h=>exact absurd rfl h) ?_;refine Rely.Chain.det ?_ (by rfl) (fun T xs wr hA=>?_) ?_
 rotate_left 1
 ·have e2:=hA.pre 2 (by kernel_rfl);simp only[gsa,gsc,gsz] at e2;clear hA;refine⟨(by rfl),?_⟩;go_simp<;>(try with_reducible rfl)
 refine Rely.Chain.det ?_ (by rfl) (fun T xs wr hA=>?_) ?_
 rotate_left 1
 ·have e43:=hA.tm 0 43 (by rfl) (by rfl);have f43:xs 0=_:=hA.fa 0 (by rfl)
  (try simp (disch:=rfl) only [Rely.mask_in] at f43)
  rw[f43] at e43;clear f43;have hBq:wr.heap[w.heap.size]?=_:=(hA.bl _ hlt_xa (fun q hq=>by match q,hq with | 0,_=>exact (by show w.heap.size+2≠w.heap.size;omega) | 1,_=>exact (by show w.heap.size+3≠w.heap.size;omega))).trans HB_xa.out;have q0:=cell_at (v:=.bool true) hBq 0 rfl;have q1:=cell_at (v:=.slice ao l c) hBq 1 rfl;clear hBq;clear hA;refine⟨(by rfl),?_⟩;go_simp<;>(try with_reducible rfl)
 refine Rely.Chain.det ?_ (by rfl) (fun T xs wr hA=>?_) ?_
 rotate_left 1
 ·have e3:=hA.pre 3 (by kernel_rfl);simp only[gsa,gsc,gsz] at e3;clear hA;refine⟨(by rfl),?_⟩;go_simp<;>(try with_reducible rfl)
 refine Rely.Chain.det ?_ (by rfl) (fun T xs wr hA=>?_) ?_
 rotate_left 1
 ·have e45:=hA.tm 2 45 (by rfl) (by rfl);have f45:xs 2=_:=hA.fa 2 (by rfl)
  (try simp (disch:=rfl) only [Rely.mask_in] at f45)
  rw[f45] at e45;clear f45;have hBq:wr.heap[w.heap.size+1]?=_:=(hA.bl _ hlt_xb (fun q hq=>by match q,hq with | 0,_=>exact (by show w.heap.size+2≠w.heap.size+1;omega) | 1,_=>exact (by show w.heap.size+3≠w.heap.size+1;omega))).trans HB_xb.out;have q0:=cell_at (v:=.bool true) hBq 0 rfl;have q1:=cell_at (v:=.slice po pl pc) hBq 1 rfl;clear hBq;clear hA;refine⟨(by rfl),?_⟩;go_simp<;>(try with_reducible rfl)
 refine Rely.Chain.det ?_ (by rfl) (fun T xs wr hA=>?_) ?_
 rotate_left 1
 ·have e44:=hA.tm 1 44 (by rfl) (by rfl);have f44:xs 1=_:=hA.fa 1 (by rfl)
  (try simp (disch:=rfl) only [Rely.mask_in] at f44)
  rw[f44] at e44;clear f44;have e46:=hA.tm 3 46 (by rfl) (by rfl);have f46:xs 3=_:=hA.fa 3 (by rfl)
  (try simp (disch:=rfl) only [Rely.mask_in] at f46)
  rw[f46] at e46;clear f46;clear hA;refine⟨(by rfl),?_⟩;go_simp<;>(try with_reducible rfl)
 refine Rely.Chain.det ?_ (by rfl) (fun T xs wr hA=>?_) ?_
 rotate_left 1
 ·have e7:=hA.pre 7 (by kernel_rfl);simp only[gsa,gsc,gsz] at e7;clear hA;refine⟨(by rfl),?_⟩;go_simp<;>(try with_reducible rfl)
 refine Rely.Chain.call (fun _ v w=>CI w v (sg false (m / n)) (k1+3)) (fun _ _ _ _ h hb=>h.below hb) (fun _ _ _ _ _ h hp=>h.keeps hp.keeps) (by rfl) (fun T xs wr hA=>?_) ?_
 ·have e47:=hA.tm 4 47 (by rfl) (by rfl);have f47:xs 4=_:=hA.fa 4 (by rfl)
  (try simp (disch:=rfl) only [Rely.mask_in] at f47)
  rw[f47] at e47;clear f47;have e48:=hA.tm 5 48 (by rfl) (by rfl);have f48:xs 5=_:=hA.fa 5 (by rfl)
  (try simp (disch:=rfl) only [Rely.mask_in] at f48)
  rw[f48] at e48;clear f48;have hkp:=undrewK hA.kp;have hbt':=hbt.trans (undrew (hA.be w.heap.size hszb (fun q hq=>by match q,hq with | 0,_=>exact (by show w.heap.size<=w.heap.size+2;omega) | 1,_=>exact (by show w.heap.size<=w.heap.size+3;omega))));have sq:=sq.keeps hkp;clear hA;refine⟨(by rfl),fun K hK=>?_⟩;go_simp
  refine (signed_any false (.slice qo _ qc) (m / n) (k1+3) _ sq hqn).mono ?_;rintro e wq ⟨v,rfl,c,hb⟩;exact hK.out _ _ c hb
 refine Rely.Chain.det ?_ (by rfl) (fun T xs wr hA=>?_) ?_
 rotate_left 1
 ·have e3:=hA.pre 3 (by kernel_rfl);simp only[gsa,gsc,gsz] at e3;clear hA;refine⟨(by rfl),?_⟩;go_simp<;>(try with_reducible rfl)
 refine Rely.Chain.det ?_ (by rfl) (fun T xs wr hA=>?_) ?_
 rotate_left 1
 ·have e50:=hA.tm 7 50 (by rfl) (by rfl);have f50:xs 7=_:=hA.fa 7 (by rfl)
  (try simp (disch:=rfl) only [Rely.mask_in] at f50)
  rw[f50] at e50;clear f50;have hBq:wr.heap[w.heap.size+1]?=_:=(hA.bl _ hlt_xb (fun q hq=>by match q,hq with | 0,_=>exact (by show w.heap.size+2≠w.heap.size+1;omega) | 1,_=>exact (by show w.heap.size+3≠w.heap.size+1;omega))).trans HB_xb.out;have q0:=cell_at (v:=.bool true) hBq 0 rfl;have q1:=cell_at (v:=.slice po pl pc) hBq 1 rfl;clear hBq;clear hA;refine⟨(by rfl),?_⟩;go_simp<;>(try with_reducible rfl)
 refine Rely.Chain.det ?_ (by rfl) (fun T xs wr hA=>?_) ?_
 rotate_left 1
 ·have e8:=hA.pre 8 (by kernel_rfl);simp only[gsa,gsc,gsz] at e8;clear hA;refine⟨(by rfl),?_⟩;go_simp<;>(try with_reducible rfl)
 refine Rely.Chain.call (fun _ v w=>CI w v (sg true (m % n)) k2) (fun _ _ _ _ h hb=>h.below hb) (fun _ _ _ _ _ h hp=>h.keeps hp.keeps) (by rfl) (fun T xs wr hA=>?_) ?_
 ·have e51:=hA.tm 8 51 (by rfl) (by rfl);have f51:xs 8=_:=hA.fa 8 (by rfl)
  (try simp (disch:=rfl) only [Rely.mask_in] at f51)
  rw[f51] at e51;clear f51;have e52:=hA.tm 9 52 (by rfl) (by rfl);have f52:xs 9=_:=hA.fa 9 (by rfl)
  (try simp (disch:=rfl) only [Rely.mask_in] at f52)
  rw[f52] at e52;clear f52;have hkp:=undrewK hA.kp;have hbt':=hbt.trans (undrew (hA.be w.heap.size hszb (fun q hq=>by match q,hq with | 0,_=>exact (by show w.heap.size<=w.heap.size+2;omega) | 1,_=>exact (by show w.heap.size<=w.heap.size+3;omega))));have sr:=sr.keeps hkp;clear hA;refine⟨(by rfl),fun K hK=>?_⟩;go_simp
  refine (signed_any true (.slice ro _ rc) (m % n) k2 _ sr hrn).mono ?_;rintro e wq ⟨v,rfl,c,hb⟩;exact hK.out _ _ c hb
 refine Rely.Chain.storeOld 0 6 26 (by rfl) (by rfl) (by decide) (Rely.own_one (by rfl)) (fun T xs wr hA hB0=>?_) ?_
 ·have e4:=hA.pre 4 (by kernel_rfl);simp only[gsa,gsc,gsz] at e4;have hB:wr.heap[w.heap.size+2]?=_:=hB0.trans HB_q.out;clear hB0;have e49:=hA.tm 6 49 (by rfl) (by rfl);have hc:CI wr (xs 6) (sg false (m / n)) (k1+3):=hA.fa 6 (by rfl);obtain⟨b_h,o_h,l_h,k_h,hv⟩:=hc.shape;clear hc;rw[hv] at e49;have z0:=cell_at hB 0 rfl;have z1:=cell_at hB 1 rfl;have fz0:=froz_at hB 0;have fz1:=froz_at hB 1;clear hA;refine⟨(by rfl),fun K hK=>?_⟩;go_simp
  exact hK.out _ _ hv (hset2 hB _ _) (priv2 hB (by rfl) (by rfl))
 refine Rely.Chain.storeOld 1 10 26 (by rfl) (by rfl) (by decide) (Rely.own_one (by rfl)) (fun T xs wr hA hB0=>?_) ?_
 ·have e5:=hA.pre 5 (by kernel_rfl);simp only[gsa,gsc,gsz] at e5;have hB:wr.heap[w.heap.size+3]?=_:=hB0.trans HB_r.out;clear hB0;have e53:=hA.tm 10 53 (by rfl) (by rfl);have hc:CI wr (xs 10) (sg true (m % n)) k2:=hA.fa 10 (by rfl);obtain⟨b_h,o_h,l_h,k_h,hv⟩:=hc.shape;clear hc;rw[hv] at e53;have z0:=cell_at hB 0 rfl;have z1:=cell_at hB 1 rfl;have fz0:=froz_at hB 0;have fz1:=froz_at hB 1;clear hA;refine⟨(by rfl),fun K hK=>?_⟩;go_simp
  exact hK.out _ _ hv (hset2 hB _ _) (priv2 hB (by rfl) (by rfl))
 refine Rely.Chain.det ?_ (by rfl) (fun T xs wr hA=>?_) ?_
 rotate_left 1
 ·clear hA;refine⟨(by rfl),?_⟩;go_simp<;>(try with_reducible rfl)
 refine Rely.Chain.done (fun xs wx3 hL=>?_);obtain⟨⟨hbe,hbl,hkp0⟩,hf,hp,hn⟩:=hL;have f0:xs 0=_:=hf 0 (by decide)
 (try simp (disch:=rfl) only [Rely.mask_in] at f0)
 have f1:xs 1=_:=hf 1 (by decide)
 (try simp (disch:=rfl) only [Rely.mask_in] at f1)
 have f2:xs 2=_:=hf 2 (by decide)
 (try simp (disch:=rfl) only [Rely.mask_in] at f2)
 have f3:xs 3=_:=hf 3 (by decide)
 (try simp (disch:=rfl) only [Rely.mask_in] at f3)
 have f4:xs 4=_:=hf 4 (by decide)
 (try simp (disch:=rfl) only [Rely.mask_in] at f4)
 have f5:xs 5=_:=hf 5 (by decide)
 (try simp (disch:=rfl) only [Rely.mask_in] at f5)
 have c_q2:CI wx3 (xs 6) (sg false (m / n)) (k1+3):=hf 6 (by decide);have f7:xs 7=_:=hf 7 (by decide)
 (try simp (disch:=rfl) only [Rely.mask_in] at f7)
 have f8:xs 8=_:=hf 8 (by decide)
 (try simp (disch:=rfl) only [Rely.mask_in] at f8)
 have f9:xs 9=_:=hf 9 (by decide)
 (try simp (disch:=rfl) only [Rely.mask_in] at f9)
 have c_r2:CI wx3 (xs 10) (sg true (m % n)) k2:=hf 10 (by decide);obtain⟨cc,hv,hB_q⟩:=hf 11 (by decide);change xs 6=_ at hv;obtain⟨b_q2,o_q2,l_q2,k_q2,hs_q2⟩:=c_q2.shape;rw[hs_q2] at hv;injection hv with hv;subst hv;obtain⟨cc,hv,hB_r⟩:=hf 12 (by decide);change xs 10=_ at hv;obtain⟨b_r2,o_r2,l_r2,k_r2,hs_r2⟩:=c_r2.shape;rw[hs_r2] at hv;injection hv with hv;subst hv;have f13:xs 13=_:=hf 13 (by decide)
 (try simp (disch:=rfl) only [Rely.mask_in] at f13)
 clear hf hp hn;refine Rely.rest_done ?_;rw[hs_q2] at c_q2;rw[hs_r2] at c_r2;simp only[Rely.fill,List.setIfInBounds_toArray,List.set_cons_zero,List.set_cons_succ,f0,f1,f2,f3,f4,f5,f7,f8,f9,f13,hs_q2,hs_r2];clear f0 f1 f2 f3 f4 f5 f7 f8 f9 f13 hs_q2 hs_r2;clear xs;replace hkp0:=undrewK hkp0;replace hg:=hg.keeps hkp0;replace hg2:=hg2.keeps hkp0;replace sq:=sq.keeps hkp0;replace sr:=sr.keeps hkp0;replace hbt:=hbt.trans (undrew (hbe w.heap.size hszb (fun q hq=>by match q,hq with | 0,_=>exact (by show w.heap.size<=w.heap.size+2;omega) | 1,_=>exact (by show w.heap.size<=w.heap.size+3;omega))));replace HB_xa:=Lib.hid ((hbl _ hlt_xa (fun q hq=>by match q,hq with | 0,_=>exact (by show w.heap.size+2≠w.heap.size;omega) | 1,_=>exact (by show w.heap.size+3≠w.heap.size;omega))).trans HB_xa.out)
 replace HB_xb:=Lib.hid ((hbl _ hlt_xb (fun q hq=>by match q,hq with | 0,_=>exact (by show w.heap.size+2≠w.heap.size+1;omega) | 1,_=>exact (by show w.heap.size+3≠w.heap.size+1;omega))).trans HB_xb.out);replace HB_q:=Lib.hid (show wx3.heap[w.heap.size+2]?=some (.cells #[.bool b_q2,.slice o_q2 l_q2 k_q2] 26 (0,0)) from hB_q);clear hB_q;replace HB_r:=Lib.hid (show wx3.heap[w.heap.size+3]?=some (.cells #[.bool b_r2,.slice o_r2 l_r2 k_r2] 26 (0,0)) from hB_r);clear hB_r;clear hkp0 hbe hbl hszb;replace xa0:=cell_at (v:=.bool true) HB_xa.out 0 rfl;replace xa1:=cell_at (v:=.slice ao l c) HB_xa.out 1 rfl;replace xb0:=cell_at (v:=.bool true) HB_xb.out 0 rfl;replace xb1:=cell_at (v:=.slice po pl pc) HB_xb.out 1 rfl;replace q0:=cell_at (v:=.bool b_q2) HB_q.out 0 rfl;replace q1:=cell_at (v:=.slice o_q2 l_q2 k_q2) HB_q.out 1 rfl
 replace r0:=cell_at (v:=.bool b_r2) HB_r.out 0 rfl;replace r1:=cell_at (v:=.slice o_r2 l_r2 k_r2) HB_r.out 1 rfl;clear hlt_xa hlt_xb hlt_q hlt_r;go_wp2_with fail
 exact bodyPost_ret (v:=.tuple #[.agg #[.bool b_q2,.slice o_q2 l_q2 k_q2],.agg #[.bool b_r2,.slice o_r2 l_r2 k_r2],.bool true]) (by simp[results,Tryz.results41,go_sem,q0,q1,r0,r1]) rfl ⟨_,_,rfl,c_q2,c_r2,hbt⟩
theorem wdiv_adj (b d:Bool) (ao po:Option Addr) (l c pl pc m n k1 k2:Nat) (w:World) (hg:GN w (.slice ao l c) m k1) (hg2:GN w (.slice po pl pc) n k2) (h1:k1<=900000) (h2:k2<=900000) (h0:0<n) (h:b≠d) (hr:0<m % n) :
  Calls Tryz.prog 41 #[.agg #[.bool b,.slice ao l c],.agg #[.bool d,.slice po pl pc]] w fun e w'=>∃ q r,e=.returned (.tuple #[q,r,.bool true])/\CI w' q (sg true (m / n+1)) (k1+3)/\CI w' r (sg d (n - m % n)) k2/\Below w.heap.size w w':=by
 have hqn0:m / n<L32 ^ k1:=Nat.lt_of_le_of_lt (Nat.div_le_self _ _) hg.lt
 have hqn:m / n+1<L32 ^ (k1+3):=by
  have h3:1<L32 ^ 2:=by decide
  have:=pow_add_lt hqn0 h3;exact lt_pow_more this (by omega)
 have hrn0:m % n<L32 ^ k2:=Nat.lt_trans (Nat.mod_lt _ h0) hg2.lt;have hle:m % n<=n:=Nat.le_of_lt (Nat.mod_lt _ h0);have hrn:n - m % n<L32 ^ k2:=Nat.lt_of_le_of_lt (Nat.sub_le _ _) hg2.lt;have hl1:=dig_len_pos hr;have h2':k2<=1000000:=by omega
 cases b<;>cases d
 ·exact absurd rfl h
 rotate_left 2
 ·exact absurd rfl h
 all_goals clear h
 ·have hbt:=Below.refl w.heap.size w;go_enter Tryz.func41,Tryz.ntmps41
  go_wp2_with fail
  have hbx:Below w.heap.size w ((((w.alloc (.cells #[.bool false,.slice ao l c] 26)).alloc (.cells #[.bool true,.slice po pl pc] 26)).alloc (.cells #[.bool false,.slice none 0 0] 26)).alloc (.cells #[.bool false,.slice none 0 0] 26)):=(((((Below.refl _ _).alloc (by simp) _).alloc (by simp) _).alloc (by simp;omega) _).alloc (by simp;omega) _)
  replace hg:=hg.below hbx;replace hg2:=hg2.below hbx;replace hbt:=hbt.trans (hbx.mono hbt.size);clear hbx;have HB_xa:Hid (((((w.alloc (.cells #[.bool false,.slice ao l c] 26)).alloc (.cells #[.bool true,.slice po pl pc] 26)).alloc (.cells #[.bool false,.slice none 0 0] 26)).alloc (.cells #[.bool false,.slice none 0 0] 26)).heap[w.heap.size]?=some (.cells #[.bool false,.slice ao l c] 26 (0,0))):=Lib.hid (made_more (made_more (made_more (made_at w (.cells #[.bool false,.slice ao l c] 26) _ (by first | rfl | simp)) _) _) _)
  have HB_xb:Hid (((((w.alloc (.cells #[.bool false,.slice ao l c] 26)).alloc (.cells #[.bool true,.slice po pl pc] 26)).alloc (.cells #[.bool false,.slice none 0 0] 26)).alloc (.cells #[.bool false,.slice none 0 0] 26)).heap[w.heap.size+1]?=some (.cells #[.bool true,.slice po pl pc] 26 (0,0))):=Lib.hid (made_more (made_more (made_at (w.alloc (.cells #[.bool false,.slice ao l c] 26)) (.cells #[.bool true,.slice po pl pc] 26) _ (by first | rfl | simp)) _) _)
  have HB_q:Hid (((((w.alloc (.cells #[.bool false,.slice ao l c] 26)).alloc (.cells #[.bool true,.slice po pl pc] 26)).alloc (.cells #[.bool false,.slice none 0 0] 26)).alloc (.cells #[.bool false,.slice none 0 0] 26)).heap[w.heap.size+2]?=some (.cells #[.bool false,.slice none 0 0] 26 (0,0))):=Lib.hid (made_more (made_at ((w.alloc (.cells #[.bool false,.slice ao l c] 26)).alloc (.cells #[.bool true,.slice po pl pc] 26)) (.cells #[.bool false,.slice none 0 0] 26) _ (by first | rfl | simp)) _)
  have HB_r:Hid (((((w.alloc (.cells #[.bool false,.slice ao l c] 26)).alloc (.cells #[.bool true,.slice po pl pc] 26)).alloc (.cells #[.bool false,.slice none 0 0] 26)).alloc (.cells #[.bool false,.slice none 0 0] 26)).heap[w.heap.size+3]?=some (.cells #[.bool false,.slice none 0 0] 26 (0,0))):=Lib.hid (made_at (((w.alloc (.cells #[.bool false,.slice ao l c] 26)).alloc (.cells #[.bool true,.slice po pl pc] 26)).alloc (.cells #[.bool false,.slice none 0 0] 26)) (.cells #[.bool false,.slice none 0 0] 26) _ (by first | rfl | simp));generalize ((((w.alloc (.cells #[.bool false,.slice ao l c] 26)).alloc (.cells #[.bool true,.slice po pl pc] 26)).alloc (.cells #[.bool false,.slice none 0 0] 26)).alloc (.cells #[.bool false,.slice none 0 0] 26))=wx1 at *;have xa0:=cell_at (v:=.bool false) HB_xa.out 0 rfl;have xa1:=cell_at (v:=.slice ao l c) HB_xa.out 1 rfl
  have xb0:=cell_at (v:=.bool true) HB_xb.out 0 rfl;have xb1:=cell_at (v:=.slice po pl pc) HB_xb.out 1 rfl;have q0:=cell_at (v:=.bool false) HB_q.out 0 rfl;have q1:=cell_at (v:=.slice none 0 0) HB_q.out 1 rfl;have r0:=cell_at (v:=.bool false) HB_r.out 0 rfl;have r1:=cell_at (v:=.slice none 0 0) HB_r.out 1 rfl;refine (div_d hg hg2 h1 h0).mono ?_;rintro e wx2 ⟨vq,vr,rfl,sq,sr,hbx⟩;replace hg:=hg.below hbx;replace hg2:=hg2.below hbx;replace hbt:=hbt.trans (hbx.mono hbt.size);replace HB_xa:=Lib.hid ((hbx.block _ (lt_of_block HB_xa.out)).trans HB_xa.out);replace HB_xb:=Lib.hid ((hbx.block _ (lt_of_block HB_xb.out)).trans HB_xb.out);replace HB_q:=Lib.hid ((hbx.block _ (lt_of_block HB_q.out)).trans HB_q.out);replace HB_r:=Lib.hid ((hbx.block _ (lt_of_block HB_r.out)).trans HB_r.out);clear hbx;replace xa0:=cell_at (v:=.bool false) HB_xa.out 0 rfl
  replace xa1:=cell_at (v:=.slice ao l c) HB_xa.out 1 rfl;replace xb0:=cell_at (v:=.bool true) HB_xb.out 0 rfl;replace xb1:=cell_at (v:=.slice po pl pc) HB_xb.out 1 rfl;replace q0:=cell_at (v:=.bool false) HB_q.out 0 rfl;replace q1:=cell_at (v:=.slice none 0 0) HB_q.out 1 rfl;replace r0:=cell_at (v:=.bool false) HB_r.out 0 rfl;replace r1:=cell_at (v:=.slice none 0 0) HB_r.out 1 rfl;obtain⟨qo0,qc0,rfl⟩:=sl_shape sq;obtain⟨ro0,rc0,rfl⟩:=sl_shape sr;have gq:=gn_dig sq hqn0;have gr:=gn_dig sr hrn0;clear sq sr;go_wp2_with fail
  refine (of_n 1 _ _ rfl (by decide)).mono ?_;rintro e wx3 ⟨v7,rfl,g7,hbx⟩;replace hg:=hg.below hbx;replace hg2:=hg2.below hbx;replace gq:=gq.below hbx;replace gr:=gr.below hbx;replace hbt:=hbt.trans (hbx.mono hbt.size);replace HB_xa:=Lib.hid ((hbx.block _ (lt_of_block HB_xa.out)).trans HB_xa.out);replace HB_xb:=Lib.hid ((hbx.block _ (lt_of_block HB_xb.out)).trans HB_xb.out);replace HB_q:=Lib.hid ((hbx.block _ (lt_of_block HB_q.out)).trans HB_q.out);replace HB_r:=Lib.hid ((hbx.block _ (lt_of_block HB_r.out)).trans HB_r.out);clear hbx;replace xa0:=cell_at (v:=.bool false) HB_xa.out 0 rfl;replace xa1:=cell_at (v:=.slice ao l c) HB_xa.out 1 rfl;replace xb0:=cell_at (v:=.bool true) HB_xb.out 0 rfl;replace xb1:=cell_at (v:=.slice po pl pc) HB_xb.out 1 rfl;replace q0:=cell_at (v:=.bool false) HB_q.out 0 rfl
  replace q1:=cell_at (v:=.slice none 0 0) HB_q.out 1 rfl;replace r0:=cell_at (v:=.bool false) HB_r.out 0 rfl;replace r1:=cell_at (v:=.slice none 0 0) HB_r.out 1 rfl;go_wp2_with fail
  refine (add_d gq g7 (by omega) (by omega)).mono ?_;rintro e wx4 ⟨v8,rfl,sq,hbx⟩;replace hg:=hg.below hbx;replace hg2:=hg2.below hbx;replace gq:=gq.below hbx;replace gr:=gr.below hbx;replace g7:=g7.below hbx;replace hbt:=hbt.trans (hbx.mono hbt.size);replace HB_xa:=Lib.hid ((hbx.block _ (lt_of_block HB_xa.out)).trans HB_xa.out);replace HB_xb:=Lib.hid ((hbx.block _ (lt_of_block HB_xb.out)).trans HB_xb.out);replace HB_q:=Lib.hid ((hbx.block _ (lt_of_block HB_q.out)).trans HB_q.out);replace HB_r:=Lib.hid ((hbx.block _ (lt_of_block HB_r.out)).trans HB_r.out);clear hbx;replace xa0:=cell_at (v:=.bool false) HB_xa.out 0 rfl;replace xa1:=cell_at (v:=.slice ao l c) HB_xa.out 1 rfl;replace xb0:=cell_at (v:=.bool true) HB_xb.out 0 rfl;replace xb1:=cell_at (v:=.slice po pl pc) HB_xb.out 1 rfl;replace q0:=cell_at (v:=.bool false) HB_q.out 0 rfl
  replace q1:=cell_at (v:=.slice none 0 0) HB_q.out 1 rfl;replace r0:=cell_at (v:=.bool false) HB_r.out 0 rfl;replace r1:=cell_at (v:=.slice none 0 0) HB_r.out 1 rfl;obtain⟨qo,qc,rfl⟩:=sl_shape sq;go_wp2_with fail
  refine (sub_d hg2 gr h2' hle).mono ?_;rintro e wx5 ⟨v9,rfl,sr,hbx⟩;replace hg:=hg.below hbx;replace hg2:=hg2.below hbx;replace gq:=gq.below hbx;replace gr:=gr.below hbx;replace g7:=g7.below hbx;replace sq:=sq.below hbx;replace hbt:=hbt.trans (hbx.mono hbt.size);replace HB_xa:=Lib.hid ((hbx.block _ (lt_of_block HB_xa.out)).trans HB_xa.out);replace HB_xb:=Lib.hid ((hbx.block _ (lt_of_block HB_xb.out)).trans HB_xb.out);replace HB_q:=Lib.hid ((hbx.block _ (lt_of_block HB_q.out)).trans HB_q.out);replace HB_r:=Lib.hid ((hbx.block _ (lt_of_block HB_r.out)).trans HB_r.out);clear hbx;replace xa0:=cell_at (v:=.bool false) HB_xa.out 0 rfl;replace xa1:=cell_at (v:=.slice ao l c) HB_xa.out 1 rfl;replace xb0:=cell_at (v:=.bool true) HB_xb.out 0 rfl;replace xb1:=cell_at (v:=.slice po pl pc) HB_xb.out 1 rfl
  replace q0:=cell_at (v:=.bool false) HB_q.out 0 rfl;replace q1:=cell_at (v:=.slice none 0 0) HB_q.out 1 rfl;replace r0:=cell_at (v:=.bool false) HB_r.out 0 rfl;replace r1:=cell_at (v:=.slice none 0 0) HB_r.out 1 rfl;obtain⟨ro,rc,rfl⟩:=sl_shape sr;clear hl1 g7 gq gr;go_wp2_with fail
  have hlt_xa:=lt_of_block HB_xa.out;have hlt_xb:=lt_of_block HB_xb.out;have hlt_q:=lt_of_block HB_q.out;have hlt_r:=lt_of_block HB_r.out;have hszb:=hbt.size
  refine Rely.region (by kernel_rfl) [[],[0],[],[2],[0,1,2,3],[],[0,1,2,3,4,5],[],[7],[],[0,1,2,3,4,5,6,7,8,9],[0,1,2,3,4,5,6,7,8,9,10],[0,1,2,3,4,5,6,7,8,9,10,11],[0,1,2,3,4,5,6,7,8,9,10,11,12]] [] [(11,1000),(12,1001)] (fun q=>[w.heap.size+2,w.heap.size+3].getD q 0) 2 14 (by kernel_rfl) (by kernel_rfl) (fun q hq=>by match q,hq with | 0,_=>exact hlt_q | 1,_=>exact hlt_r) (fun q r hq hr hne=>by match q,r,hq,hr,hne with | 0,0,_,_,h=>exact absurd rfl h | 0,1,_,_,h=>exact (by show w.heap.size+2≠w.heap.size+3;omega) | 1,0,_,_,h=>exact (by show w.heap.size+3≠w.heap.size+2;omega) | 1,1,_,_,h=>exact absurd rfl h) ?_;refine Rely.Chain.det ?_ (by rfl) (fun T xs wr hA=>?_) ?_
  rotate_left 1
  ·have e2:=hA.pre 2 (by kernel_rfl);simp only[gsa,gsc,gsz] at e2;clear hA;refine⟨(by rfl),?_⟩;go_simp<;>(try with_reducible rfl)
  refine Rely.Chain.det ?_ (by rfl) (fun T xs wr hA=>?_) ?_
  rotate_left 1
  ·have e43:=hA.tm 0 43 (by rfl) (by rfl);have f43:xs 0=_:=hA.fa 0 (by rfl)
   (try simp (disch:=rfl) only [Rely.mask_in] at f43)
   rw[f43] at e43;clear f43;have hBq:wr.heap[w.heap.size]?=_:=(hA.bl _ hlt_xa (fun q hq=>by match q,hq with | 0,_=>exact (by show w.heap.size+2≠w.heap.size;omega) | 1,_=>exact (by show w.heap.size+3≠w.heap.size;omega))).trans HB_xa.out;have q0:=cell_at (v:=.bool false) hBq 0 rfl;have q1:=cell_at (v:=.slice ao l c) hBq 1 rfl;clear hBq;clear hA;refine⟨(by rfl),?_⟩;go_simp<;>(try with_reducible rfl)
  refine Rely.Chain.det ?_ (by rfl) (fun T xs wr hA=>?_) ?_
  rotate_left 1
  ·have e3:=hA.pre 3 (by kernel_rfl);simp only[gsa,gsc,gsz] at e3;clear hA;refine⟨(by rfl),?_⟩;go_simp<;>(try with_reducible rfl)
  refine Rely.Chain.det ?_ (by rfl) (fun T xs wr hA=>?_) ?_
  rotate_left 1
  ·have e45:=hA.tm 2 45 (by rfl) (by rfl);have f45:xs 2=_:=hA.fa 2 (by rfl)
   (try simp (disch:=rfl) only [Rely.mask_in] at f45)
   rw[f45] at e45;clear f45;have hBq:wr.heap[w.heap.size+1]?=_:=(hA.bl _ hlt_xb (fun q hq=>by match q,hq with | 0,_=>exact (by show w.heap.size+2≠w.heap.size+1;omega) | 1,_=>exact (by show w.heap.size+3≠w.heap.size+1;omega))).trans HB_xb.out;have q0:=cell_at (v:=.bool true) hBq 0 rfl;have q1:=cell_at (v:=.slice po pl pc) hBq 1 rfl;clear hBq;clear hA;refine⟨(by rfl),?_⟩;go_simp<;>(try with_reducible rfl)
  refine Rely.Chain.det ?_ (by rfl) (fun T xs wr hA=>?_) ?_
  rotate_left 1
  ·have e44:=hA.tm 1 44 (by rfl) (by rfl);have f44:xs 1=_:=hA.fa 1 (by rfl)
   (try simp (disch:=rfl) only [Rely.mask_in] at f44)
   rw[f44] at e44;clear f44;have e46:=hA.tm 3 46 (by rfl) (by rfl);have f46:xs 3=_:=hA.fa 3 (by rfl)
   (try simp (disch:=rfl) only [Rely.mask_in] at f46)
   rw[f46] at e46;clear f46;clear hA;refine⟨(by rfl),?_⟩;go_simp<;>(try with_reducible rfl)
  refine Rely.Chain.det ?_ (by rfl) (fun T xs wr hA=>?_) ?_
  rotate_left 1
  ·have e7:=hA.pre 7 (by kernel_rfl);simp only[gsa,gsc,gsz] at e7;clear hA;refine⟨(by rfl),?_⟩;go_simp<;>(try with_reducible rfl)
  refine Rely.Chain.call (fun _ v w=>CI w v (sg true (m / n+1)) (k1+3)) (fun _ _ _ _ h hb=>h.below hb) (fun _ _ _ _ _ h hp=>h.keeps hp.keeps) (by rfl) (fun T xs wr hA=>?_) ?_
  ·have e47:=hA.tm 4 47 (by rfl) (by rfl);have f47:xs 4=_:=hA.fa 4 (by rfl)
   (try simp (disch:=rfl) only [Rely.mask_in] at f47)
   rw[f47] at e47;clear f47;have e48:=hA.tm 5 48 (by rfl) (by rfl);have f48:xs 5=_:=hA.fa 5 (by rfl)
   (try simp (disch:=rfl) only [Rely.mask_in] at f48)
   rw[f48] at e48;clear f48;have hkp:=undrewK hA.kp;have hbt':=hbt.trans (undrew (hA.be w.heap.size hszb (fun q hq=>by match q,hq with | 0,_=>exact (by show w.heap.size<=w.heap.size+2;omega) | 1,_=>exact (by show w.heap.size<=w.heap.size+3;omega))));have sq:=sq.keeps hkp;clear hA;refine⟨(by rfl),fun K hK=>?_⟩;go_simp
   refine (signed_any true (.slice qo _ qc) (m / n+1) (k1+3) _ sq hqn).mono ?_;rintro e wq ⟨v,rfl,c,hb⟩;exact hK.out _ _ c hb
  refine Rely.Chain.det ?_ (by rfl) (fun T xs wr hA=>?_) ?_
  rotate_left 1
  ·have e3:=hA.pre 3 (by kernel_rfl);simp only[gsa,gsc,gsz] at e3;clear hA;refine⟨(by rfl),?_⟩;go_simp<;>(try with_reducible rfl)
  refine Rely.Chain.det ?_ (by rfl) (fun T xs wr hA=>?_) ?_
  rotate_left 1
  ·have e50:=hA.tm 7 50 (by rfl) (by rfl);have f50:xs 7=_:=hA.fa 7 (by rfl)
   (try simp (disch:=rfl) only [Rely.mask_in] at f50)
   rw[f50] at e50;clear f50;have hBq:wr.heap[w.heap.size+1]?=_:=(hA.bl _ hlt_xb (fun q hq=>by match q,hq with | 0,_=>exact (by show w.heap.size+2≠w.heap.size+1;omega) | 1,_=>exact (by show w.heap.size+3≠w.heap.size+1;omega))).trans HB_xb.out;have q0:=cell_at (v:=.bool true) hBq 0 rfl;have q1:=cell_at (v:=.slice po pl pc) hBq 1 rfl;clear hBq;clear hA;refine⟨(by rfl),?_⟩;go_simp<;>(try with_reducible rfl)
  refine Rely.Chain.det ?_ (by rfl) (fun T xs wr hA=>?_) ?_
  rotate_left 1
  ·have e8:=hA.pre 8 (by kernel_rfl);simp only[gsa,gsc,gsz] at e8;clear hA;refine⟨(by rfl),?_⟩;go_simp<;>(try with_reducible rfl)
  refine Rely.Chain.call (fun _ v w=>CI w v (sg true (n - m % n)) k2) (fun _ _ _ _ h hb=>h.below hb) (fun _ _ _ _ _ h hp=>h.keeps hp.keeps) (by rfl) (fun T xs wr hA=>?_) ?_
  ·have e51:=hA.tm 8 51 (by rfl) (by rfl);have f51:xs 8=_:=hA.fa 8 (by rfl)
   (try simp (disch:=rfl) only [Rely.mask_in] at f51)
   rw[f51] at e51;clear f51;have e52:=hA.tm 9 52 (by rfl) (by rfl);have f52:xs 9=_:=hA.fa 9 (by rfl)
   (try simp (disch:=rfl) only [Rely.mask_in] at f52)
   rw[f52] at e52;clear f52;have hkp:=undrewK hA.kp;have hbt':=hbt.trans (undrew (hA.be w.heap.size hszb (fun q hq=>by match q,hq with | 0,_=>exact (by show w.heap.size<=w.heap.size+2;omega) | 1,_=>exact (by show w.heap.size<=w.heap.size+3;omega))));have sr:=sr.keeps hkp;clear hA;refine⟨(by rfl),fun K hK=>?_⟩;go_simp
   refine (signed_any true (.slice ro _ rc) (n - m % n) k2 _ sr hrn).mono ?_;rintro e wq ⟨v,rfl,c,hb⟩;exact hK.out _ _ c hb
  refine Rely.Chain.storeOld 0 6 26 (by rfl) (by rfl) (by decide) (Rely.own_one (by rfl)) (fun T xs wr hA hB0=>?_) ?_
  ·have e4:=hA.pre 4 (by kernel_rfl);simp only[gsa,gsc,gsz] at e4;have hB:wr.heap[w.heap.size+2]?=_:=hB0.trans HB_q.out;clear hB0;have e49:=hA.tm 6 49 (by rfl) (by rfl);have hc:CI wr (xs 6) (sg true (m / n+1)) (k1+3):=hA.fa 6 (by rfl);obtain⟨b_h,o_h,l_h,k_h,hv⟩:=hc.shape;clear hc;rw[hv] at e49;have z0:=cell_at hB 0 rfl;have z1:=cell_at hB 1 rfl;have fz0:=froz_at hB 0;have fz1:=froz_at hB 1;clear hA;refine⟨(by rfl),fun K hK=>?_⟩;go_simp
   exact hK.out _ _ hv (hset2 hB _ _) (priv2 hB (by rfl) (by rfl))
  refine Rely.Chain.storeOld 1 10 26 (by rfl) (by rfl) (by decide) (Rely.own_one (by rfl)) (fun T xs wr hA hB0=>?_) ?_
  ·have e5:=hA.pre 5 (by kernel_rfl);simp only[gsa,gsc,gsz] at e5;have hB:wr.heap[w.heap.size+3]?=_:=hB0.trans HB_r.out;clear hB0;have e53:=hA.tm 10 53 (by rfl) (by rfl);have hc:CI wr (xs 10) (sg true (n - m % n)) k2:=hA.fa 10 (by rfl);obtain⟨b_h,o_h,l_h,k_h,hv⟩:=hc.shape;clear hc;rw[hv] at e53;have z0:=cell_at hB 0 rfl;have z1:=cell_at hB 1 rfl;have fz0:=froz_at hB 0;have fz1:=froz_at hB 1;clear hA;refine⟨(by rfl),fun K hK=>?_⟩;go_simp
   exact hK.out _ _ hv (hset2 hB _ _) (priv2 hB (by rfl) (by rfl))
  refine Rely.Chain.det ?_ (by rfl) (fun T xs wr hA=>?_) ?_
  rotate_left 1
  ·clear hA;refine⟨(by rfl),?_⟩;go_simp<;>(try with_reducible rfl)
  refine Rely.Chain.done (fun xs wx6 hL=>?_);obtain⟨⟨hbe,hbl,hkp0⟩,hf,hp,hn⟩:=hL;have f0:xs 0=_:=hf 0 (by decide)
  (try simp (disch:=rfl) only [Rely.mask_in] at f0)
  have f1:xs 1=_:=hf 1 (by decide)
  (try simp (disch:=rfl) only [Rely.mask_in] at f1)
  have f2:xs 2=_:=hf 2 (by decide)
  (try simp (disch:=rfl) only [Rely.mask_in] at f2)
  have f3:xs 3=_:=hf 3 (by decide)
  (try simp (disch:=rfl) only [Rely.mask_in] at f3)
  have f4:xs 4=_:=hf 4 (by decide)
  (try simp (disch:=rfl) only [Rely.mask_in] at f4)
  have f5:xs 5=_:=hf 5 (by decide)
  (try simp (disch:=rfl) only [Rely.mask_in] at f5)
  have c_q2:CI wx6 (xs 6) (sg true (m / n+1)) (k1+3):=hf 6 (by decide);have f7:xs 7=_:=hf 7 (by decide)
  (try simp (disch:=rfl) only [Rely.mask_in] at f7)
  have f8:xs 8=_:=hf 8 (by decide)
  (try simp (disch:=rfl) only [Rely.mask_in] at f8)
  have f9:xs 9=_:=hf 9 (by decide)
  (try simp (disch:=rfl) only [Rely.mask_in] at f9)
  have c_r2:CI wx6 (xs 10) (sg true (n - m % n)) k2:=hf 10 (by decide);obtain⟨cc,hv,hB_q⟩:=hf 11 (by decide);change xs 6=_ at hv;obtain⟨b_q2,o_q2,l_q2,k_q2,hs_q2⟩:=c_q2.shape;rw[hs_q2] at hv;injection hv with hv;subst hv;obtain⟨cc,hv,hB_r⟩:=hf 12 (by decide);change xs 10=_ at hv;obtain⟨b_r2,o_r2,l_r2,k_r2,hs_r2⟩:=c_r2.shape;rw[hs_r2] at hv;injection hv with hv;subst hv;have f13:xs 13=_:=hf 13 (by decide)
  (try simp (disch:=rfl) only [Rely.mask_in] at f13)
  clear hf hp hn;refine Rely.rest_done ?_;rw[hs_q2] at c_q2;rw[hs_r2] at c_r2;simp only[Rely.fill,List.setIfInBounds_toArray,List.set_cons_zero,List.set_cons_succ,f0,f1,f2,f3,f4,f5,f7,f8,f9,f13,hs_q2,hs_r2];clear f0 f1 f2 f3 f4 f5 f7 f8 f9 f13 hs_q2 hs_r2;clear xs;replace hkp0:=undrewK hkp0;replace hg:=hg.keeps hkp0;replace hg2:=hg2.keeps hkp0;replace sq:=sq.keeps hkp0;replace sr:=sr.keeps hkp0;replace hbt:=hbt.trans (undrew (hbe w.heap.size hszb (fun q hq=>by match q,hq with | 0,_=>exact (by show w.heap.size<=w.heap.size+2;omega) | 1,_=>exact (by show w.heap.size<=w.heap.size+3;omega))));replace HB_xa:=Lib.hid ((hbl _ hlt_xa (fun q hq=>by match q,hq with | 0,_=>exact (by show w.heap.size+2≠w.heap.size;omega) | 1,_=>exact (by show w.heap.size+3≠w.heap.size;omega))).trans HB_xa.out)
  replace HB_xb:=Lib.hid ((hbl _ hlt_xb (fun q hq=>by match q,hq with | 0,_=>exact (by show w.heap.size+2≠w.heap.size+1;omega) | 1,_=>exact (by show w.heap.size+3≠w.heap.size+1;omega))).trans HB_xb.out);replace HB_q:=Lib.hid (show wx6.heap[w.heap.size+2]?=some (.cells #[.bool b_q2,.slice o_q2 l_q2 k_q2] 26 (0,0)) from hB_q);clear hB_q;replace HB_r:=Lib.hid (show wx6.heap[w.heap.size+3]?=some (.cells #[.bool b_r2,.slice o_r2 l_r2 k_r2] 26 (0,0)) from hB_r);clear hB_r;clear hkp0 hbe hbl hszb;replace xa0:=cell_at (v:=.bool false) HB_xa.out 0 rfl;replace xa1:=cell_at (v:=.slice ao l c) HB_xa.out 1 rfl;replace xb0:=cell_at (v:=.bool true) HB_xb.out 0 rfl;replace xb1:=cell_at (v:=.slice po pl pc) HB_xb.out 1 rfl;replace q0:=cell_at (v:=.bool b_q2) HB_q.out 0 rfl;replace q1:=cell_at (v:=.slice o_q2 l_q2 k_q2) HB_q.out 1 rfl
  replace r0:=cell_at (v:=.bool b_r2) HB_r.out 0 rfl;replace r1:=cell_at (v:=.slice o_r2 l_r2 k_r2) HB_r.out 1 rfl;clear hlt_xa hlt_xb hlt_q hlt_r;go_wp2_with fail
  exact bodyPost_ret (v:=.tuple #[.agg #[.bool b_q2,.slice o_q2 l_q2 k_q2],.agg #[.bool b_r2,.slice o_r2 l_r2 k_r2],.bool true]) (by simp[results,Tryz.results41,go_sem,q0,q1,r0,r1]) rfl ⟨_,_,rfl,c_q2,c_r2,hbt⟩
 have hbt:=Below.refl w.heap.size w;go_enter Tryz.func41,Tryz.ntmps41
 go_wp2_with fail
 have hbx:Below w.heap.size w ((((w.alloc (.cells #[.bool true,.slice ao l c] 26)).alloc (.cells #[.bool false,.slice po pl pc] 26)).alloc (.cells #[.bool false,.slice none 0 0] 26)).alloc (.cells #[.bool false,.slice none 0 0] 26)):=(((((Below.refl _ _).alloc (by simp) _).alloc (by simp) _).alloc (by simp;omega) _).alloc (by simp;omega) _)
 replace hg:=hg.below hbx;replace hg2:=hg2.below hbx;replace hbt:=hbt.trans (hbx.mono hbt.size);clear hbx;have HB_xa:Hid (((((w.alloc (.cells #[.bool true,.slice ao l c] 26)).alloc (.cells #[.bool false,.slice po pl pc] 26)).alloc (.cells #[.bool false,.slice none 0 0] 26)).alloc (.cells #[.bool false,.slice none 0 0] 26)).heap[w.heap.size]?=some (.cells #[.bool true,.slice ao l c] 26 (0,0))):=Lib.hid (made_more (made_more (made_more (made_at w (.cells #[.bool true,.slice ao l c] 26) _ (by first | rfl | simp)) _) _) _)
 have HB_xb:Hid (((((w.alloc (.cells #[.bool true,.slice ao l c] 26)).alloc (.cells #[.bool false,.slice po pl pc] 26)).alloc (.cells #[.bool false,.slice none 0 0] 26)).alloc (.cells #[.bool false,.slice none 0 0] 26)).heap[w.heap.size+1]?=some (.cells #[.bool false,.slice po pl pc] 26 (0,0))):=Lib.hid (made_more (made_more (made_at (w.alloc (.cells #[.bool true,.slice ao l c] 26)) (.cells #[.bool false,.slice po pl pc] 26) _ (by first | rfl | simp)) _) _)
 have HB_q:Hid (((((w.alloc (.cells #[.bool true,.slice ao l c] 26)).alloc (.cells #[.bool false,.slice po pl pc] 26)).alloc (.cells #[.bool false,.slice none 0 0] 26)).alloc (.cells #[.bool false,.slice none 0 0] 26)).heap[w.heap.size+2]?=some (.cells #[.bool false,.slice none 0 0] 26 (0,0))):=Lib.hid (made_more (made_at ((w.alloc (.cells #[.bool true,.slice ao l c] 26)).alloc (.cells #[.bool false,.slice po pl pc] 26)) (.cells #[.bool false,.slice none 0 0] 26) _ (by first | rfl | simp)) _)
 have HB_r:Hid (((((w.alloc (.cells #[.bool true,.slice ao l c] 26)).alloc (.cells #[.bool false,.slice po pl pc] 26)).alloc (.cells #[.bool false,.slice none 0 0] 26)).alloc (.cells #[.bool false,.slice none 0 0] 26)).heap[w.heap.size+3]?=some (.cells #[.bool false,.slice none 0 0] 26 (0,0))):=Lib.hid (made_at (((w.alloc (.cells #[.bool true,.slice ao l c] 26)).alloc (.cells #[.bool false,.slice po pl pc] 26)).alloc (.cells #[.bool false,.slice none 0 0] 26)) (.cells #[.bool false,.slice none 0 0] 26) _ (by first | rfl | simp));generalize ((((w.alloc (.cells #[.bool true,.slice ao l c] 26)).alloc (.cells #[.bool false,.slice po pl pc] 26)).alloc (.cells #[.bool false,.slice none 0 0] 26)).alloc (.cells #[.bool false,.slice none 0 0] 26))=wx1 at *;have xa0:=cell_at (v:=.bool true) HB_xa.out 0 rfl;have xa1:=cell_at (v:=.slice ao l c) HB_xa.out 1 rfl
 have xb0:=cell_at (v:=.bool false) HB_xb.out 0 rfl;have xb1:=cell_at (v:=.slice po pl pc) HB_xb.out 1 rfl;have q0:=cell_at (v:=.bool false) HB_q.out 0 rfl;have q1:=cell_at (v:=.slice none 0 0) HB_q.out 1 rfl;have r0:=cell_at (v:=.bool false) HB_r.out 0 rfl;have r1:=cell_at (v:=.slice none 0 0) HB_r.out 1 rfl;refine (div_d hg hg2 h1 h0).mono ?_;rintro e wx2 ⟨vq,vr,rfl,sq,sr,hbx⟩;replace hg:=hg.below hbx;replace hg2:=hg2.below hbx;replace hbt:=hbt.trans (hbx.mono hbt.size);replace HB_xa:=Lib.hid ((hbx.block _ (lt_of_block HB_xa.out)).trans HB_xa.out);replace HB_xb:=Lib.hid ((hbx.block _ (lt_of_block HB_xb.out)).trans HB_xb.out);replace HB_q:=Lib.hid ((hbx.block _ (lt_of_block HB_q.out)).trans HB_q.out);replace HB_r:=Lib.hid ((hbx.block _ (lt_of_block HB_r.out)).trans HB_r.out);clear hbx;replace xa0:=cell_at (v:=.bool true) HB_xa.out 0 rfl
 replace xa1:=cell_at (v:=.slice ao l c) HB_xa.out 1 rfl;replace xb0:=cell_at (v:=.bool false) HB_xb.out 0 rfl;replace xb1:=cell_at (v:=.slice po pl pc) HB_xb.out 1 rfl;replace q0:=cell_at (v:=.bool false) HB_q.out 0 rfl;replace q1:=cell_at (v:=.slice none 0 0) HB_q.out 1 rfl;replace r0:=cell_at (v:=.bool false) HB_r.out 0 rfl;replace r1:=cell_at (v:=.slice none 0 0) HB_r.out 1 rfl;obtain⟨qo0,qc0,rfl⟩:=sl_shape sq;obtain⟨ro0,rc0,rfl⟩:=sl_shape sr;have gq:=gn_dig sq hqn0;have gr:=gn_dig sr hrn0;clear sq sr;go_wp2_with fail
 refine (of_n 1 _ _ rfl (by decide)).mono ?_;rintro e wx3 ⟨v7,rfl,g7,hbx⟩;replace hg:=hg.below hbx;replace hg2:=hg2.below hbx;replace gq:=gq.below hbx;replace gr:=gr.below hbx;replace hbt:=hbt.trans (hbx.mono hbt.size);replace HB_xa:=Lib.hid ((hbx.block _ (lt_of_block HB_xa.out)).trans HB_xa.out);replace HB_xb:=Lib.hid ((hbx.block _ (lt_of_block HB_xb.out)).trans HB_xb.out);replace HB_q:=Lib.hid ((hbx.block _ (lt_of_block HB_q.out)).trans HB_q.out);replace HB_r:=Lib.hid ((hbx.block _ (lt_of_block HB_r.out)).trans HB_r.out);clear hbx;replace xa0:=cell_at (v:=.bool true) HB_xa.out 0 rfl;replace xa1:=cell_at (v:=.slice ao l c) HB_xa.out 1 rfl;replace xb0:=cell_at (v:=.bool false) HB_xb.out 0 rfl;replace xb1:=cell_at (v:=.slice po pl pc) HB_xb.out 1 rfl;replace q0:=cell_at (v:=.bool false) HB_q.out 0 rfl
 replace q1:=cell_at (v:=.slice none 0 0) HB_q.out 1 rfl;replace r0:=cell_at (v:=.bool false) HB_r.out 0 rfl;replace r1:=cell_at (v:=.slice none 0 0) HB_r.out 1 rfl;go_wp2_with fail
 refine (add_d gq g7 (by omega) (by omega)).mono ?_;rintro e wx4 ⟨v8,rfl,sq,hbx⟩;replace hg:=hg.below hbx;replace hg2:=hg2.below hbx;replace gq:=gq.below hbx;replace gr:=gr.below hbx;replace g7:=g7.below hbx;replace hbt:=hbt.trans (hbx.mono hbt.size);replace HB_xa:=Lib.hid ((hbx.block _ (lt_of_block HB_xa.out)).trans HB_xa.out);replace HB_xb:=Lib.hid ((hbx.block _ (lt_of_block HB_xb.out)).trans HB_xb.out);replace HB_q:=Lib.hid ((hbx.block _ (lt_of_block HB_q.out)).trans HB_q.out);replace HB_r:=Lib.hid ((hbx.block _ (lt_of_block HB_r.out)).trans HB_r.out);clear hbx;replace xa0:=cell_at (v:=.bool true) HB_xa.out 0 rfl;replace xa1:=cell_at (v:=.slice ao l c) HB_xa.out 1 rfl;replace xb0:=cell_at (v:=.bool false) HB_xb.out 0 rfl;replace xb1:=cell_at (v:=.slice po pl pc) HB_xb.out 1 rfl;replace q0:=cell_at (v:=.bool false) HB_q.out 0 rfl
 replace q1:=cell_at (v:=.slice none 0 0) HB_q.out 1 rfl;replace r0:=cell_at (v:=.bool false) HB_r.out 0 rfl;replace r1:=cell_at (v:=.slice none 0 0) HB_r.out 1 rfl;obtain⟨qo,qc,rfl⟩:=sl_shape sq;go_wp2_with fail
 refine (sub_d hg2 gr h2' hle).mono ?_;rintro e wx5 ⟨v9,rfl,sr,hbx⟩;replace hg:=hg.below hbx;replace hg2:=hg2.below hbx;replace gq:=gq.below hbx;replace gr:=gr.below hbx;replace g7:=g7.below hbx;replace sq:=sq.below hbx;replace hbt:=hbt.trans (hbx.mono hbt.size);replace HB_xa:=Lib.hid ((hbx.block _ (lt_of_block HB_xa.out)).trans HB_xa.out);replace HB_xb:=Lib.hid ((hbx.block _ (lt_of_block HB_xb.out)).trans HB_xb.out);replace HB_q:=Lib.hid ((hbx.block _ (lt_of_block HB_q.out)).trans HB_q.out);replace HB_r:=Lib.hid ((hbx.block _ (lt_of_block HB_r.out)).trans HB_r.out);clear hbx;replace xa0:=cell_at (v:=.bool true) HB_xa.out 0 rfl;replace xa1:=cell_at (v:=.slice ao l c) HB_xa.out 1 rfl;replace xb0:=cell_at (v:=.bool false) HB_xb.out 0 rfl;replace xb1:=cell_at (v:=.slice po pl pc) HB_xb.out 1 rfl
 replace q0:=cell_at (v:=.bool false) HB_q.out 0 rfl;replace q1:=cell_at (v:=.slice none 0 0) HB_q.out 1 rfl;replace r0:=cell_at (v:=.bool false) HB_r.out 0 rfl;replace r1:=cell_at (v:=.slice none 0 0) HB_r.out 1 rfl;obtain⟨ro,rc,rfl⟩:=sl_shape sr;clear hl1 g7 gq gr;go_wp2_with fail
 have hlt_xa:=lt_of_block HB_xa.out;have hlt_xb:=lt_of_block HB_xb.out;have hlt_q:=lt_of_block HB_q.out;have hlt_r:=lt_of_block HB_r.out;have hszb:=hbt.size
 refine Rely.region (by kernel_rfl) [[],[0],[],[2],[0,1,2,3],[],[0,1,2,3,4,5],[],[7],[],[0,1,2,3,4,5,6,7,8,9],[0,1,2,3,4,5,6,7,8,9,10],[0,1,2,3,4,5,6,7,8,9,10,11],[0,1,2,3,4,5,6,7,8,9,10,11,12]] [] [(11,1000),(12,1001)] (fun q=>[w.heap.size+2,w.heap.size+3].getD q 0) 2 14 (by kernel_rfl) (by kernel_rfl) (fun q hq=>by match q,hq with | 0,_=>exact hlt_q | 1,_=>exact hlt_r) (fun q r hq hr hne=>by match q,r,hq,hr,hne with | 0,0,_,_,h=>exact absurd rfl h | 0,1,_,_,h=>exact (by show w.heap.size+2≠w.heap.size+3;omega) | 1,0,_,_,h=>exact (by show w.heap.size+3≠w.heap.size+2;omega) | 1,1,_,_,h=>exact absurd rfl h) ?_;refine Rely.Chain.det ?_ (by rfl) (fun T xs wr hA=>?_) ?_
 rotate_left 1
 ·have e2:=hA.pre 2 (by kernel_rfl);simp only[gsa,gsc,gsz] at e2;clear hA;refine⟨(by rfl),?_⟩;go_simp<;>(try with_reducible rfl)
 refine Rely.Chain.det ?_ (by rfl) (fun T xs wr hA=>?_) ?_
 rotate_left 1
 ·have e43:=hA.tm 0 43 (by rfl) (by rfl);have f43:xs 0=_:=hA.fa 0 (by rfl)
  (try simp (disch:=rfl) only [Rely.mask_in] at f43)
  rw[f43] at e43;clear f43;have hBq:wr.heap[w.heap.size]?=_:=(hA.bl _ hlt_xa (fun q hq=>by match q,hq with | 0,_=>exact (by show w.heap.size+2≠w.heap.size;omega) | 1,_=>exact (by show w.heap.size+3≠w.heap.size;omega))).trans HB_xa.out;have q0:=cell_at (v:=.bool true) hBq 0 rfl;have q1:=cell_at (v:=.slice ao l c) hBq 1 rfl;clear hBq;clear hA;refine⟨(by rfl),?_⟩;go_simp<;>(try with_reducible rfl)
 refine Rely.Chain.det ?_ (by rfl) (fun T xs wr hA=>?_) ?_
 rotate_left 1
 ·have e3:=hA.pre 3 (by kernel_rfl);simp only[gsa,gsc,gsz] at e3;clear hA;refine⟨(by rfl),?_⟩;go_simp<;>(try with_reducible rfl)
 refine Rely.Chain.det ?_ (by rfl) (fun T xs wr hA=>?_) ?_
 rotate_left 1
 ·have e45:=hA.tm 2 45 (by rfl) (by rfl);have f45:xs 2=_:=hA.fa 2 (by rfl)
  (try simp (disch:=rfl) only [Rely.mask_in] at f45)
  rw[f45] at e45;clear f45;have hBq:wr.heap[w.heap.size+1]?=_:=(hA.bl _ hlt_xb (fun q hq=>by match q,hq with | 0,_=>exact (by show w.heap.size+2≠w.heap.size+1;omega) | 1,_=>exact (by show w.heap.size+3≠w.heap.size+1;omega))).trans HB_xb.out;have q0:=cell_at (v:=.bool false) hBq 0 rfl;have q1:=cell_at (v:=.slice po pl pc) hBq 1 rfl;clear hBq;clear hA;refine⟨(by rfl),?_⟩;go_simp<;>(try with_reducible rfl)
 refine Rely.Chain.det ?_ (by rfl) (fun T xs wr hA=>?_) ?_
 rotate_left 1
 ·have e44:=hA.tm 1 44 (by rfl) (by rfl);have f44:xs 1=_:=hA.fa 1 (by rfl)
  (try simp (disch:=rfl) only [Rely.mask_in] at f44)
  rw[f44] at e44;clear f44;have e46:=hA.tm 3 46 (by rfl) (by rfl);have f46:xs 3=_:=hA.fa 3 (by rfl)
  (try simp (disch:=rfl) only [Rely.mask_in] at f46)
  rw[f46] at e46;clear f46;clear hA;refine⟨(by rfl),?_⟩;go_simp<;>(try with_reducible rfl)
 refine Rely.Chain.det ?_ (by rfl) (fun T xs wr hA=>?_) ?_
 rotate_left 1
 ·have e7:=hA.pre 7 (by kernel_rfl);simp only[gsa,gsc,gsz] at e7;clear hA;refine⟨(by rfl),?_⟩;go_simp<;>(try with_reducible rfl)
 refine Rely.Chain.call (fun _ v w=>CI w v (sg true (m / n+1)) (k1+3)) (fun _ _ _ _ h hb=>h.below hb) (fun _ _ _ _ _ h hp=>h.keeps hp.keeps) (by rfl) (fun T xs wr hA=>?_) ?_
 ·have e47:=hA.tm 4 47 (by rfl) (by rfl);have f47:xs 4=_:=hA.fa 4 (by rfl)
  (try simp (disch:=rfl) only [Rely.mask_in] at f47)
  rw[f47] at e47;clear f47;have e48:=hA.tm 5 48 (by rfl) (by rfl);have f48:xs 5=_:=hA.fa 5 (by rfl)
  (try simp (disch:=rfl) only [Rely.mask_in] at f48)
  rw[f48] at e48;clear f48;have hkp:=undrewK hA.kp;have hbt':=hbt.trans (undrew (hA.be w.heap.size hszb (fun q hq=>by match q,hq with | 0,_=>exact (by show w.heap.size<=w.heap.size+2;omega) | 1,_=>exact (by show w.heap.size<=w.heap.size+3;omega))));have sq:=sq.keeps hkp;clear hA;refine⟨(by rfl),fun K hK=>?_⟩;go_simp
  refine (signed_any true (.slice qo _ qc) (m / n+1) (k1+3) _ sq hqn).mono ?_;rintro e wq ⟨v,rfl,c,hb⟩;exact hK.out _ _ c hb
 refine Rely.Chain.det ?_ (by rfl) (fun T xs wr hA=>?_) ?_
 rotate_left 1
 ·have e3:=hA.pre 3 (by kernel_rfl);simp only[gsa,gsc,gsz] at e3;clear hA;refine⟨(by rfl),?_⟩;go_simp<;>(try with_reducible rfl)
 refine Rely.Chain.det ?_ (by rfl) (fun T xs wr hA=>?_) ?_
 rotate_left 1
 ·have e50:=hA.tm 7 50 (by rfl) (by rfl);have f50:xs 7=_:=hA.fa 7 (by rfl)
  (try simp (disch:=rfl) only [Rely.mask_in] at f50)
  rw[f50] at e50;clear f50;have hBq:wr.heap[w.heap.size+1]?=_:=(hA.bl _ hlt_xb (fun q hq=>by match q,hq with | 0,_=>exact (by show w.heap.size+2≠w.heap.size+1;omega) | 1,_=>exact (by show w.heap.size+3≠w.heap.size+1;omega))).trans HB_xb.out;have q0:=cell_at (v:=.bool false) hBq 0 rfl;have q1:=cell_at (v:=.slice po pl pc) hBq 1 rfl;clear hBq;clear hA;refine⟨(by rfl),?_⟩;go_simp<;>(try with_reducible rfl)
 refine Rely.Chain.det ?_ (by rfl) (fun T xs wr hA=>?_) ?_
 rotate_left 1
 ·have e8:=hA.pre 8 (by kernel_rfl);simp only[gsa,gsc,gsz] at e8;clear hA;refine⟨(by rfl),?_⟩;go_simp<;>(try with_reducible rfl)
 refine Rely.Chain.call (fun _ v w=>CI w v (sg false (n - m % n)) k2) (fun _ _ _ _ h hb=>h.below hb) (fun _ _ _ _ _ h hp=>h.keeps hp.keeps) (by rfl) (fun T xs wr hA=>?_) ?_
 ·have e51:=hA.tm 8 51 (by rfl) (by rfl);have f51:xs 8=_:=hA.fa 8 (by rfl)
  (try simp (disch:=rfl) only [Rely.mask_in] at f51)
  rw[f51] at e51;clear f51;have e52:=hA.tm 9 52 (by rfl) (by rfl);have f52:xs 9=_:=hA.fa 9 (by rfl)
  (try simp (disch:=rfl) only [Rely.mask_in] at f52)
  rw[f52] at e52;clear f52;have hkp:=undrewK hA.kp;have hbt':=hbt.trans (undrew (hA.be w.heap.size hszb (fun q hq=>by match q,hq with | 0,_=>exact (by show w.heap.size<=w.heap.size+2;omega) | 1,_=>exact (by show w.heap.size<=w.heap.size+3;omega))));have sr:=sr.keeps hkp;clear hA;refine⟨(by rfl),fun K hK=>?_⟩;go_simp
  refine (signed_any false (.slice ro _ rc) (n - m % n) k2 _ sr hrn).mono ?_;rintro e wq ⟨v,rfl,c,hb⟩;exact hK.out _ _ c hb
 refine Rely.Chain.storeOld 0 6 26 (by rfl) (by rfl) (by decide) (Rely.own_one (by rfl)) (fun T xs wr hA hB0=>?_) ?_
 ·have e4:=hA.pre 4 (by kernel_rfl);simp only[gsa,gsc,gsz] at e4;have hB:wr.heap[w.heap.size+2]?=_:=hB0.trans HB_q.out;clear hB0;have e49:=hA.tm 6 49 (by rfl) (by rfl);have hc:CI wr (xs 6) (sg true (m / n+1)) (k1+3):=hA.fa 6 (by rfl);obtain⟨b_h,o_h,l_h,k_h,hv⟩:=hc.shape;clear hc;rw[hv] at e49;have z0:=cell_at hB 0 rfl;have z1:=cell_at hB 1 rfl;have fz0:=froz_at hB 0;have fz1:=froz_at hB 1;clear hA;refine⟨(by rfl),fun K hK=>?_⟩;go_simp
  exact hK.out _ _ hv (hset2 hB _ _) (priv2 hB (by rfl) (by rfl))
 refine Rely.Chain.storeOld 1 10 26 (by rfl) (by rfl) (by decide) (Rely.own_one (by rfl)) (fun T xs wr hA hB0=>?_) ?_
 ·have e5:=hA.pre 5 (by kernel_rfl);simp only[gsa,gsc,gsz] at e5;have hB:wr.heap[w.heap.size+3]?=_:=hB0.trans HB_r.out;clear hB0;have e53:=hA.tm 10 53 (by rfl) (by rfl);have hc:CI wr (xs 10) (sg false (n - m % n)) k2:=hA.fa 10 (by rfl);obtain⟨b_h,o_h,l_h,k_h,hv⟩:=hc.shape;clear hc;rw[hv] at e53;have z0:=cell_at hB 0 rfl;have z1:=cell_at hB 1 rfl;have fz0:=froz_at hB 0;have fz1:=froz_at hB 1;clear hA;refine⟨(by rfl),fun K hK=>?_⟩;go_simp
  exact hK.out _ _ hv (hset2 hB _ _) (priv2 hB (by rfl) (by rfl))
 refine Rely.Chain.det ?_ (by rfl) (fun T xs wr hA=>?_) ?_
 rotate_left 1
 ·clear hA;refine⟨(by rfl),?_⟩;go_simp<;>(try with_reducible rfl)
 refine Rely.Chain.done (fun xs wx6 hL=>?_);obtain⟨⟨hbe,hbl,hkp0⟩,hf,hp,hn⟩:=hL;have f0:xs 0=_:=hf 0 (by decide)
 (try simp (disch:=rfl) only [Rely.mask_in] at f0)
 have f1:xs 1=_:=hf 1 (by decide)
 (try simp (disch:=rfl) only [Rely.mask_in] at f1)
 have f2:xs 2=_:=hf 2 (by decide)
 (try simp (disch:=rfl) only [Rely.mask_in] at f2)
 have f3:xs 3=_:=hf 3 (by decide)
 (try simp (disch:=rfl) only [Rely.mask_in] at f3)
 have f4:xs 4=_:=hf 4 (by decide)
 (try simp (disch:=rfl) only [Rely.mask_in] at f4)
 have f5:xs 5=_:=hf 5 (by decide)
 (try simp (disch:=rfl) only [Rely.mask_in] at f5)
 have c_q2:CI wx6 (xs 6) (sg true (m / n+1)) (k1+3):=hf 6 (by decide);have f7:xs 7=_:=hf 7 (by decide)
 (try simp (disch:=rfl) only [Rely.mask_in] at f7)
 have f8:xs 8=_:=hf 8 (by decide)
 (try simp (disch:=rfl) only [Rely.mask_in] at f8)
 have f9:xs 9=_:=hf 9 (by decide)
 (try simp (disch:=rfl) only [Rely.mask_in] at f9)
 have c_r2:CI wx6 (xs 10) (sg false (n - m % n)) k2:=hf 10 (by decide);obtain⟨cc,hv,hB_q⟩:=hf 11 (by decide);change xs 6=_ at hv;obtain⟨b_q2,o_q2,l_q2,k_q2,hs_q2⟩:=c_q2.shape;rw[hs_q2] at hv;injection hv with hv;subst hv;obtain⟨cc,hv,hB_r⟩:=hf 12 (by decide);change xs 10=_ at hv;obtain⟨b_r2,o_r2,l_r2,k_r2,hs_r2⟩:=c_r2.shape;rw[hs_r2] at hv;injection hv with hv;subst hv;have f13:xs 13=_:=hf 13 (by decide)
 (try simp (disch:=rfl) only [Rely.mask_in] at f13)
 clear hf hp hn;refine Rely.rest_done ?_;rw[hs_q2] at c_q2;rw[hs_r2] at c_r2;simp only[Rely.fill,List.setIfInBounds_toArray,List.set_cons_zero,List.set_cons_succ,f0,f1,f2,f3,f4,f5,f7,f8,f9,f13,hs_q2,hs_r2];clear f0 f1 f2 f3 f4 f5 f7 f8 f9 f13 hs_q2 hs_r2;clear xs;replace hkp0:=undrewK hkp0;replace hg:=hg.keeps hkp0;replace hg2:=hg2.keeps hkp0;replace sq:=sq.keeps hkp0;replace sr:=sr.keeps hkp0;replace hbt:=hbt.trans (undrew (hbe w.heap.size hszb (fun q hq=>by match q,hq with | 0,_=>exact (by show w.heap.size<=w.heap.size+2;omega) | 1,_=>exact (by show w.heap.size<=w.heap.size+3;omega))));replace HB_xa:=Lib.hid ((hbl _ hlt_xa (fun q hq=>by match q,hq with | 0,_=>exact (by show w.heap.size+2≠w.heap.size;omega) | 1,_=>exact (by show w.heap.size+3≠w.heap.size;omega))).trans HB_xa.out)
 replace HB_xb:=Lib.hid ((hbl _ hlt_xb (fun q hq=>by match q,hq with | 0,_=>exact (by show w.heap.size+2≠w.heap.size+1;omega) | 1,_=>exact (by show w.heap.size+3≠w.heap.size+1;omega))).trans HB_xb.out);replace HB_q:=Lib.hid (show wx6.heap[w.heap.size+2]?=some (.cells #[.bool b_q2,.slice o_q2 l_q2 k_q2] 26 (0,0)) from hB_q);clear hB_q;replace HB_r:=Lib.hid (show wx6.heap[w.heap.size+3]?=some (.cells #[.bool b_r2,.slice o_r2 l_r2 k_r2] 26 (0,0)) from hB_r);clear hB_r;clear hkp0 hbe hbl hszb;replace xa0:=cell_at (v:=.bool true) HB_xa.out 0 rfl;replace xa1:=cell_at (v:=.slice ao l c) HB_xa.out 1 rfl;replace xb0:=cell_at (v:=.bool false) HB_xb.out 0 rfl;replace xb1:=cell_at (v:=.slice po pl pc) HB_xb.out 1 rfl;replace q0:=cell_at (v:=.bool b_q2) HB_q.out 0 rfl;replace q1:=cell_at (v:=.slice o_q2 l_q2 k_q2) HB_q.out 1 rfl
 replace r0:=cell_at (v:=.bool b_r2) HB_r.out 0 rfl;replace r1:=cell_at (v:=.slice o_r2 l_r2 k_r2) HB_r.out 1 rfl;clear hlt_xa hlt_xb hlt_q hlt_r;go_wp2_with fail
 exact bodyPost_ret (v:=.tuple #[.agg #[.bool b_q2,.slice o_q2 l_q2 k_q2],.agg #[.bool b_r2,.slice o_r2 l_r2 k_r2],.bool true]) (by simp[results,Tryz.results41,go_sem,q0,q1,r0,r1]) rfl ⟨_,_,rfl,c_q2,c_r2,hbt⟩
theorem wdiv_any (va vb:Value) (y z:Int) (k1 k2:Nat) (w:World) (hx:GI w va y k1) (hy:GI w vb z k2) (h1:k1<=900000) (h2:k2<=900000) (h0:z≠0) :
  Calls Tryz.prog 41 #[va,vb] w fun e w'=>∃ q r,e=.returned (.tuple #[q,r,.bool true])/\CI w' q (Int.fdiv y z) (k1+3)/\CI w' r (Int.fmod y z) k2/\Below w.heap.size w w':=by
 obtain⟨b,ao,l,c,m,rfl,hg,rfl⟩:=hx.shape;obtain⟨d,po,pl,pc,n,rfl,hg2,rfl⟩:=hy.shape
 have hn:0<n:=by
  rcases Nat.eq_zero_or_pos n with h | h
  ·subst h;exact absurd (by cases d<;>rfl) h0
  exact h
 by_cases h:b=d\/m % n=0
 ·obtain⟨e1,e2⟩:=sg_div (b:=b) (d:=d) hn h;rw[e1,e2];exact wdiv_plain b d _ ao po l c pl pc m n k1 k2 w hg hg2 h1 hn rfl h
 have hbd:b≠d:=fun e=>h (Or.inl e)
 have hr:0<m % n:=by
  rcases Nat.eq_zero_or_pos (m % n) with e | e
  ·exact absurd (Or.inr e) h
  exact e
 obtain⟨e1,e2⟩:=sg_div2 (b:=b) (d:=d) hn hbd hr;rw[e1,e2,show (b != d)=true by simpa using hbd];exact wdiv_adj b d ao po l c pl pc m n k1 k2 w hg hg2 h1 h2 hn hbd hr
end Go.Proofs.YtdkfnbbebpbhaaaGreatDoor
