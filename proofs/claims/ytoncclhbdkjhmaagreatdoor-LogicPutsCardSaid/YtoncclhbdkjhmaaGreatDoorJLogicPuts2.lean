/-
 Joined texts: KDiv,KPar,KWhoA,KWhoF.
-/
import Derived.Lib.ItoaMem
import Derived.Deep.RegionHeld3
import Derived.Deep.DeepCutAuto
import Derived.Test.YtoncclhbdkjhmaaGreatDoorJLogicPuts1
set_option maxHeartbeats 32000000
open Array renaming size_replicate→mF,replicate→mK
open Go renaming lt_of_block→ag,World→an,Value→ay,bodyPost_ret→aB,Calls→bf,TypeId→bu,heap_alloc_new→dc
open Go.IntWalk renaming u64_in→nY
open Go.Lib renaming hid→aa,decDigits→bh,nDigits→nw,TabIs→oP,pow10Tab→rR
open Go.Proofs.Tryz renaming prog→ax,results63→lQ
open Go.RowKit renaming Below→aC
open Go.RowKit.Below renaming refl→av
open Go.Value renaming int→gG
open Go.World renaming cell?_setCell_other→kC
open Go.World.grownBy renaming refl→aJ
open List renaming length_take→aW,take_length→bD,length_set→cm,take_of_length_le→cr,setIfInBounds_toArray→eC,set_cons_succ→gI,set_cons_zero→iy,length_drop→jv,take_append_drop→nQ
open Nat renaming le_refl→ak,le_trans→aq,lt_of_lt_of_le→aK,mul_le_mul_right→aU,eq_zero_or_pos→bO,pow_le_pow_right→bU,pow_succ→bY,min_eq_left→cE,pow_pos→cT,mod_lt→di,div_lt_of_lt_mul→dB,mul_le_mul_left→eX,mul_comm→fk,lt_or_ge→ik,mod_eq_of_lt→iw,pow_add→jT,mul_lt_mul_of_pos_right→jU,div_add_mod→nW,lt_of_le_of_lt→o7,lt_trans→uG,le_of_lt→DE
namespace Go.Proofs.YtoncclhbdkjhmaaGreatDoor
open Go.RowKit
set_option maxRecDepth 100000
structure Gs (B P D H p t x E:Nat):Prop where
 hp:∃ lp,P=(H*B+p)*E+lp/\lp<E
 hd:∃ ld,D=(t*B+x)*E+ld/\ld<E
 B0:0<B
 pb:p<B
 xb:x<B
 tb:t<B
 t0:0<t
 E0:0<E
 lt:P<D*B

theorem Gs.D0 {B P D H p t x E:Nat} (h:Gs B P D H p t x E):B*E<=D:=by
 obtain⟨ld,h1,h2⟩:=h.hd;rw[h1];have h3:B*E<=(t*B+x)*E:=aU _ (aq (by have:=aU B h.t0;omega) (Nat.le_add_right (t*B) x))
 omega
theorem Gs.pos {B P D H p t x E:Nat} (h:Gs B P D H p t x E):0<D:=aK (Nat.mul_pos h.B0 h.E0) h.D0
theorem Gs.quo {B P D H p t x E:Nat} (h:Gs B P D H p t x E):P / D<B:=dB h.lt
theorem Gs.high {B P D H p t x E:Nat} (h:Gs B P D H p t x E):H<t*B+B:=by
 obtain⟨lp,h1,h2⟩:=h.hp;obtain⟨ld,h3,h4⟩:=h.hd;have h5:=h.lt;have hx:=h.xb;rcases ik H (t*B+B) with hh | hh
 ·exact hh
 exfalso
 have e1:(t*B+B)*(B*E)<=H*(B*E):=aU _ hh;have e2:(x+1)*(E*B)<=B*(E*B):=aU _ hx;have e3:ld*B<E*B:=jU h4 h.B0;rw[h1,h3] at h5
 grind
theorem Gs.start {B P D H p t x E:Nat} (h:Gs B P D H p t x E):P / D<=H / t:=by
 obtain⟨lp,h1,h2⟩:=h.hp;obtain⟨ld,h3,h4⟩:=h.hd;have hp:=h.pb;rw[Nat.le_div_iff_mul_le h.t0];have hq:=Nat.div_mul_le_self P D;generalize P / D=Q at *
 have e0:Q*t*(B*E)<=Q*D:=by
  rw[Nat.mul_assoc];refine eX _ ?_;rw[h3]
  grind
 have e1:P<(H+1)*(B*E):=by
  have e2:(p+1)*E<=B*E:=aU _ hp;rw[h1];grind
 have e3:Q*t*(B*E)<(H+1)*(B*E):=by omega
 exact Nat.lt_succ_iff.1 (Nat.lt_of_mul_lt_mul_right e3)
theorem Gs.down {B P D H p t x E q r:Nat} (h:Gs B P D H p t x E) (hq:q*t+r=H) (hc:r*B+p<q*x):P / D<q:=by
 obtain⟨lp,h1,h2⟩:=h.hp;obtain⟨ld,h3,h4⟩:=h.hd;refine dB ?_;have e1:(H*B+p+1)*E<=q*(t*B+x)*E:=aU _ (by rw[<-hq];grind);have e2:q*(t*B+x)*E<=q*D:=by rw[Nat.mul_assoc,h3];exact eX _ (by omega)
 rw[fk D q]
 grind
theorem Gs.stop {B P D H p t x E q r:Nat} (h:Gs B P D H p t x E) (hq:q*t+r=H) (hb:q<B) (hc:q*x<=r*B+p\/B<=r):q<=P / D+1:=by
 obtain⟨lp,h1,h2⟩:=h.hp;obtain⟨ld,h3,h4⟩:=h.hd;have hD:=h.D0;have hpos:=h.pos;have hx:=h.xb
 have key:q*D<P+D:=by
  rw[h3] at hD ⊢;rw[h1];have e3:q*ld<=q*E:=eX _ (by omega);have e4:q*E<B*E:=jU hb h.E0;rcases hc with hc | hc
  ·have e1:q*(t*B+x)*E<=(H*B+p)*E:=aU _ (by rw[<-hq];grind)
   grind
  have e5:q*x<=q*B:=eX _ (by omega);have e6:q*B<=B*B:=aU _ (by omega);have e7:B*B<=r*B:=aU _ hc;have e1:q*(t*B+x)*E<=(H*B+p)*E:=aU _ (by rw[<-hq];grind)
  grind
 rcases bO q with h0 | h0
 ·rw[h0];exact Nat.zero_le _
 have e:(q - 1)*D<=P:=by
  have:q*D=(q - 1)*D+D:=by rw[<-Nat.succ_mul];congr 1;omega
  omega
 have:=(Nat.le_div_iff_mul_le hpos).2 e
 omega
theorem xQ {xs:List Nat} {m:Nat} (dx:eI aH xs) (h:xs.length=m+2):∃ l,val aH xs=(xs.getD (m+1) 0*aH+xs.getD m 0)*aH ^ m+l/\l<aH ^ m:=by
 have h1:=cW aH xs (m+1);have h2:=cW aH xs m;have h3:=eJ (dx.take m);rw[aW,cE (by omega)] at h3;refine⟨val aH (xs.take m),?_,h3⟩;rw[show m+1+1=xs.length by omega,bD] at h1;rw[h1,h2,bY]
 grind
theorem ML {ps ds:List Nat} {m:Nat} (dp:eI aH ps) (dd:eI aH ds) (hd:ds.length=m+2) (hp:ps.length=m+3) (ht:0<ds.getD (m+1) 0) (hlt:val aH ps<val aH ds*aH) :
  Gs aH (val aH ps) (val aH ds) (fQ (ps.getD (m+2) 0) (ps.getD (m+1) 0)) (ps.getD m 0) (ds.getD (m+1) 0) (ds.getD m 0) (aH ^ m) where
 hp:=by
  obtain⟨l,h1,h2⟩:=xQ (m:=m+1) dp hp;have h3:=cW aH ps (m+2);have h4:=cW aH ps (m+1);have h5:=cW aH ps m;have h6:=eJ (dp.take m);rw[aW,cE (by omega)] at h6;refine⟨val aH (ps.take m),?_,h6⟩;rw[show m+2+1=ps.length by omega,bD] at h3;rw[h3,h4,h5,bY,bY];unfold fQ
  grind
 hd:=xQ dd hd
 B0:=by decide
 pb:=dp.getD (by decide) m
 xb:=dd.getD (by decide) m
 tb:=dd.getD (by decide) _
 t0:=ht
 E0:=cT (by decide)
 lt:=hlt
set_option maxRecDepth 100000 in
theorem xG (va vb:ay) (ps ds:List Nat) (w:an) (hx:Sl w .u32 va ps) (hy:Sl w .u32 vb ds) (dp:eI aH ps) (dd:eI aH ds) (hd:2<=ds.length) (hp:ps.length=ds.length+1)
  (ht:0<ds.getD (ds.length - 1) 0) (hlt:val aH ps<val aH ds*aH) :
  bf ax 203 #[va,vb] w fun e w'=>∃ q:Nat,e=.returned (.int .u32 (q:Int))/\q<aH/\val aH ps / val aH ds<=q/\q<=val aH ps / val aH ds+1/\aC w.heap.size w w':=by
 have G:=ML (m:=ds.length - 2) dp dd (by omega) (by omega) (by rw[show ds.length - 2+1=ds.length - 1 by omega];exact ht) hlt;rw[show ds.length - 2+2=ds.length by omega,show ds.length - 2+1=ds.length - 1 by omega] at G;have HX:=aa hx;have HY:=aa hy;obtain⟨ao,ac,rfl,a1,a2,a3,a4⟩:=hx;obtain⟨bo,bc,rfl,b1,b2,b3,b4⟩:=hy;obtain⟨a,rfl,c1⟩:=a4 ds.length (by omega);have c2:=HX.out.at (i:=ds.length - 1) (by omega);have c3:=HX.out.at (i:=ds.length - 2) (by omega);obtain⟨b,rfl,c4⟩:=b4 (ds.length - 1) (by omega);have c5:=HY.out.at (i:=ds.length - 2) (by omega);clear a4 b4 a3 b3 hlt;have hH:=G.high;have L9:=dp.getD (by decide) ds.length;have Rt:=dp.getD (by decide) (ds.length - 1);have K7:=dp.getD (by decide) (ds.length - 2);have K3:=dd.getD (by decide) (ds.length - 1)
 have DF:=dd.getD (by decide) (ds.length - 2);unfold nth at c1 c2 c3 c4 c5;generalize ps.getD ds.length 0=p0 at *;generalize ps.getD (ds.length - 1) 0=p1 at *;generalize ps.getD (ds.length - 2) 0=p2 at *;generalize ds.getD (ds.length - 1) 0=t at *;generalize ds.getD (ds.length - 2) 0=x at *;generalize aH ^ (ds.length - 2)=E at *;generalize val aH ps=P at *;generalize val aH ds=D at *;have xE:=yG (r:=p0) (x:=p1) L9 Rt;have RA:=qN (r:=p0) (x:=p1) L9 Rt;have HJ:Hid (kR p0 p1=((fQ p0 p1:Nat):Int)):=aa rfl;have hJ:fQ p0 p1<18446744073709551616:=by have hL:aH=4294967296:=rfl;unfold fQ;omega
 have q0:((fQ p0 p1:Nat):Int) / (t:Int)=((fQ p0 p1 / t:Nat):Int):=by simp
 have r0:((fQ p0 p1:Nat):Int) % (t:Int)=((fQ p0 p1 % t:Nat):Int):=by simp
 rw[show ((fQ p0 p1:Nat):Int)=kR p0 p1 from rfl] at q0 r0;have Ag:fQ p0 p1 / t<=fQ p0 p1:=Nat.div_le_self _ _;have Rs:fQ p0 p1 / t*t+fQ p0 p1 % t=fQ p0 p1:=by rw[fk];exact nW _ _
 have fy:fQ p0 p1 % t<=fQ p0 p1:=Nat.mod_le _ _;have hst:=G.start;have HG:=aa G;clear G;generalize hHn:fQ p0 p1=H at *;generalize H / t=qs at *;generalize H % t=rs at *;generalize kR p0 p1=HI at *;have hn:ds.length<=ps.length:=by omega
 have mj:=aa hst;have N_:=aa Rs;have HH:=aa hH;have NK:0<=HI / (t:Int)/\HI / (t:Int)<18446744073709551616:=by rw[q0];omega
 have hrb:0<=HI % (t:Int)/\HI % (t:Int)<18446744073709551616:=by rw[r0];omega
 have Q0:=aa q0;have R0:=aa r0;clear hst Rs hH q0 r0;have hL:aH=4294967296:=rfl;have W0:IntKind.u64.wrap (p0:Int)=(p0:Int):=nY _ (by omega);have W1:IntKind.u64.wrap (p1:Int)=(p1:Int):=nY _ (by omega);have W2:IntKind.u64.wrap ((p0:Int)*4294967296)=(p0:Int)*4294967296:=nY _ (by omega);have W3:IntKind.u64.wrap (t:Int)=(t:Int):=nY _ (by omega);have W4:IntKind.u64.wrap (x:Int)=(x:Int):=nY _ (by omega);go_enter Tryz.func203,Tryz.ntmps203
 go_wp2_with fail
 go_quiet (fail)
 try simp only[W0,W1,W2,xE]
 go_wp2_with fail
 go_quiet (fail)
 try simp only[W3,W4]
 clear W0 W1 W2 W3 W4 xE;go_wp2_with fail
 go_quiet (fail)
 simp only[Q0.out,R0.out];clear NK hrb;go_wp2_with fail
 go_loopw [9,10] (fun c i wr=>∃ q r:Nat,c=.int .u64 (q:Int)/\i=.int .u64 (r:Int)/\q<18446744073709551616/\r<18446744073709551616/\Hid (q*t+r=H)/\Hid (P / D<=q)/\aC w.heap.size w wr) (fun c _ _=>(intOf c).toNat)
 case atStart=>exact⟨qs,rs,rfl,rfl,by omega,by omega,N_,mj,((ij _ _ _).trans (ij _ _ _)).trans (ij _ _ _)⟩
 case round =>
  clear N_ mj fy Ag Q0 R0;obtain⟨q,r,rfl,rfl,hq,hr,HQ,HP,hb⟩:=hrel;have WO:wr.cell? (a.add (ds.length - 2))=some (.int .u32 (p2:Int)):=by rw[hb.cell (bS c3)];exact c3
  clear c1 c2 c3 c4 c5;have TA:p2<4294967296:=K7
  by_cases hr1:4294967296<=r
  ·have L8:q<aH:=by
    rcases ik q aH with h | h
    ·exact h
    exfalso
    have e:=aU t h;have e2:=HQ.out;have e3:=HH.out;rw[fk t aH] at e3;have hL:aH=4294967296:=rfl
    omega
   have HF:=aa (HG.out.stop HQ.out L8 (Or.inr hr1));have Tx:q<4294967296:=L8;go_wp2_with fail
   go_ret
   exact⟨q,rfl,L8,HP.out,HF.out,hb⟩
  by_cases hq1:4294967296<=q
  ·have QA:=aa (show P / D<=q - 1 by have hL:aH=4294967296:=rfl;have:=HG.out.quo;omega)
   have Nh:=aa (show (q - 1)*t+(r+t)=H by
    have e:q*t=(q - 1)*t+t:=by rw[<-Nat.succ_mul];congr 1;omega
    have:=HQ.out;omega)
   have rS:r+t<18446744073709551616:=by have:=Nh.out;omega
   go_wp2_with fail
   go_roundw
   case rel=>exact⟨q - 1,r+t,by go_num,by go_num,by omega,rS,Nh,QA,hb⟩
   case measure=>simp[intOf];omega
  have Wd:0<=(q:Int)*(x:Int)/\(q:Int)*(x:Int)<=18446744065119617025:=by
   have:=oY (x:=q) (y:=x) (by omega) DF;have e:(q:Int)*(x:Int)=((q*x:Nat):Int):=by simp
   rw[e];omega
  have xE:=yG (r:=r) (x:=p2) (by omega) K7;have RA:=qN (r:=r) (x:=p2) (by omega) K7
  by_cases hc:fQ r p2<q*x
  ·have hP:=HG.out.down HQ.out hc;have QA:=aa (show P / D<=q - 1 by omega)
   have Ag:0<q:=by
    rcases bO q with h | h
    ·rw[h] at hc;omega
    exact h
   have Nh:=aa (show (q - 1)*t+(r+t)=H by
    have e:q*t=(q - 1)*t+t:=by rw[<-Nat.succ_mul];congr 1;omega
    have:=HQ.out;omega)
   have rS:r+t<18446744073709551616:=by have:=Nh.out;omega
   have Ge:kR r p2<(q:Int)*(x:Int):=by unfold kR;exact_mod_cast hc
   clear hc hP;go_wp2_with fail
   go_roundw
   case rel=>exact⟨q - 1,r+t,by go_num,by go_num,by omega,rS,Nh,QA,hb⟩
   case measure=>simp[intOf];omega
  have HF:=aa (HG.out.stop HQ.out (Nat.lt_of_not_le hq1) (Or.inl (Nat.le_of_not_lt hc)))
  have Ge:(q:Int)*(x:Int)<=kR r p2:=by
   unfold kR;have:=Nat.le_of_not_lt hc
   exact_mod_cast this
  clear hc;have Tx:q<4294967296:=by omega
  go_wp2_with fail
  go_ret
  exact⟨q,rfl,Nat.lt_of_not_le hq1,HP.out,HF.out,hb⟩
theorem xA {B:Nat} {t ys:List Nat} {S x k c b z v b':Nat} (hy:k<ys.length) (ht:k<t.length) (h:val B t+x*val B (ys.take k)=S+(c+b)*B ^ k) (hz:z=c+x*ys.getD k 0) (hv:v+z % B+b=t.getD k 0+b'*B) :
  val B (t.set k v)+x*val B (ys.take (k+1))=S+(z / B+b')*B ^ (k+1):=by
 have h1:=kQ B t k v ht;rw[gC B ys k hy,bY];have h2:=Nat.mod_add_div z B;generalize z % B=r at *;generalize z / B=q at *;generalize B ^ k=P at *;have h3:(r+B*q)*P=(c+x*ys.getD k 0)*P:=by rw[h2,hz]
 have h4:(v+r+b)*P=(t.getD k 0+b'*B)*P:=by rw[hv]
 grind
theorem xB {B:Nat} {t:List Nat} {S Y k c b v b':Nat} (ht:k<t.length) (h:val B t+Y=S+(c+b)*B ^ k) (hv:v+c+b=t.getD k 0+b'*B) :
  val B (t.set k v)+Y=S+b'*B ^ (k+1):=by
 have h1:=kQ B t k v ht;rw[bY];generalize B ^ k=P at *;have h4:(v+c+b)*P=(t.getD k 0+b'*B)*P:=by rw[hv]
 grind
theorem yE (g:Nat) (pre s post ys:List Nat) (vs vb:ay) (x:Nat) (zx:Int) (w:an) (hw:Ws w .u32 153 vs g pre s post) (hb:Sl w .u32 vb ys) (ha:r6 g vb) (hl:s.length=ys.length+1)
  (hs:eI aH s) (hy:eI aH ys) (OE:zx=(x:Int)) (hx:x<4294967296) :
  bf ax 204 #[vs,vb,.int .u32 zx] w fun e w'=>∃ s' b o,e=.returned (.bool o)/\(b=0/\o=false\/b=1/\o=true)/\Ws w' .u32 153 vs g pre s' post/\w.grownBy w' (some g)/\s'.length=s.length/\eI aH s' /\
   val aH s'+x*val aH ys=val aH s+b*aH ^ (ys.length+1):=by
 subst OE;have Ja:ys.length<s.length:=by omega
 have HL:=aa hl;clear hl;obtain⟨ao,cap,rfl,h1,h2,h3,h4⟩:=hw;have HB:=aa hb;obtain⟨bo,KJ,rfl,k1,k2,k3,k4⟩:=hb;go_enter Tryz.func204,Tryz.ntmps204
 go_wp2
 go_loopw [7,8,13] (fun c b i wr=>∃ (k:Nat) (t:List Nat) (cc bb:Nat),i=.int .i64 k/\c=.int .u64 (cc:Int)/\b=.int .u32 (bb:Int)/\cc<4294967296/\bb<=1/\k<=ys.length/\w.grownBy wr (some g)/\Hid (t.length=s.length)/\eI 4294967296 t /\
   B3 wr .u32 153 ao g pre t post s.length/\Hid (val aH t+x*val aH (ys.take k)=val aH s+(cc+bb)*aH ^ k))
  (fun _ _ i _=>ys.length - (intOf i).toNat)
 case atStart=>exact⟨0,s,0,0,rfl,rfl,rfl,by omega,by omega,by omega,aJ _ _,aa rfl,hs,h4,aa (by simp[val])⟩
 case round =>
  obtain⟨k,t,cc,bb,rfl,rfl,rfl,tQ,Gg,hk,hg,Ht,qw,hB,HV⟩:=hrel
  by_cases hlt:k<ys.length
  ·obtain⟨b,rfl,hcb⟩:=k4 k hlt;obtain⟨rfl,qW⟩:=hB (by omega);have mw:k<t.length:=by have:=Ht.out;omega
   have Ih:=(HB.out.grown hg ha).at hlt
   have hct:wr.cell? ⟨g,pre.length+k,none⟩=some (.int .u32 (nth t k)):=by
    rw[qW.cell (by simp;omega),mq _ _ _ _ mw]
   have hft:=qW.frozen (pre.length+k);have y1:=jA hy k;have t1:=jA qw k;have y0:=hy.getD (by decide) k;have t0:=qw.getD (by decide) k
   have hm:0<=(x:Int)*nth ys k/\(x:Int)*nth ys k<=18446744065119617025:=by
    have:=oY hx y0;have e:(x:Int)*nth ys k=((x*ys.getD k 0:Nat):Int):=by unfold nth;simp
    rw[e];omega
   have HE:=aa (show (cc:Int)+(x:Int)*nth ys k=((cc+x*ys.getD k 0:Nat):Int) by unfold nth;simp);have HZ:=aa (show cc+x*ys.getD k 0<18446744073709551616 by have:=oY hx y0;omega);obtain⟨b',e1,e2,v',e3,e4,e5⟩:=rF (t.getD k 0) ((cc+x*ys.getD k 0) % aH) bb t0 (di _ (by decide)) Gg;have HS:=aa (xA hlt mw HV.out rfl e5);have E1:=aa e1;have E3:=aa e3;have HM:=aa (show ((cc:Int)+(x:Int)*nth ys k) % 4294967296=(((cc+x*ys.getD k 0) % aH:Nat):Int) by rw[HE.out];rfl);clear hcb hB h4 k4 y0 t0 e1 e3 e5;go_wp2_with (go_at_call 181;refine (ri _ _ _ _ (by omega) (by omega) (by omega)).mono ?_;rintro e w' ⟨rfl,rfl⟩)
   go_roundw
   case rel =>
    have hE:=HE.out;have hz:=HZ.out;refine⟨k+1,t.set k v',(cc+x*ys.getD k 0) / aH,b',by go_num,?_,?_,?_,e2,by omega,aI hg _,aa (by rw[cm];exact Ht.out),qw.set e4,fun _=>⟨rfl,?_⟩,HS⟩
    ·rw[hE];congr 1
    ·rw[<-E1.out,HM.out];rfl
    ·exact dB (by omega)
    rw[<-mo _ _ _ _ _ mw];exact qW.set _ _ _ (by rw[HM.out,<-E3.out];rfl)
   case measure=>simp[intOf];omega
  have hkk:k=ys.length:=by omega
  subst hkk;obtain⟨rfl,qW⟩:=hB (by omega);have mw:ys.length<t.length:=by have:=Ht.out;omega
  have hft:=qW.frozen (pre.length+ys.length)
  have hct:wr.cell? ⟨g,pre.length+ys.length,none⟩=some (.int .u32 (nth t ys.length)):=by
   rw[qW.cell (by simp;omega),mq _ _ _ _ mw]
  have t1:=jA qw ys.length;have t0:=qw.getD (by decide) ys.length;obtain⟨b',e1,e2,v',e3,e4,e5⟩:=rF (t.getD ys.length 0) cc bb t0 tQ Gg;have Jq:=aa (show val aH t+x*val aH ys=val aH s+(cc+bb)*aH ^ ys.length by have:=HV.out;rwa [bD] at this);have HS:=aa (xB mw Jq.out e5);have E1:=aa e1;have E3:=aa e3
  have ow:∀ w2,oH w2 g .u32 153 (pre++t.set ys.length v'++post)->Ws w2 .u32 153 (.slice (some ⟨g,pre.length,none⟩) s.length cap) g pre (t.set ys.length v') post:=fun w2 h =>
   ⟨some ⟨g,pre.length,none⟩,cap,by rw[cm,Ht.out],by rw[cm,Ht.out];exact h1,h2,h3,fun _=>⟨rfl,h⟩⟩
  have QI:=aa ow;have RK:wT (nth t ys.length) cc bb=(b':Int):=e1;have cP:=aa RK;clear hB h4 k4 e1 e3 e5 t0 ow HV Jq RK;go_wp2_with (go_at_call 181;refine (ri _ _ _ _ (by omega) (by omega) (by omega)).mono ?_;rintro e w' ⟨rfl,rfl⟩)
  go_ret
  refine⟨t.set ys.length v',b',decide ((0:Int)<wT (nth t ys.length) cc bb),rfl,?_,?_,aI hg _,by rw[cm];exact Ht.out,qw.set e4,HS.out⟩
  ·rcases bO b' with h | h
   ·exact Or.inl ⟨h,by rw[cP.out,h];rfl⟩
   exact Or.inr ⟨by omega,by rw[cP.out];simpa using h⟩
  refine QI.out _ ?_;rw[<-mo _ _ _ _ _ mw];exact qW.set _ _ _ (by rw[<-E3.out];rfl)
theorem CU {P D g t' b n:Nat} (hD:0<D) (h1:P / D<=g) (h2:g<=P / D+1) (h:t'+g*D=P+b*aH ^ n) (ht:t'<aH ^ n) (hb:b=0\/b=1) (hP:D<=aH ^ n) :
  b=0/\g=P / D/\t'=P % D\/b=1/\g=P / D+1/\(t'+D) % aH ^ n=P % D:=by
 have hm:=nW P D;have hr:=di P hD;rw[fk] at hm;generalize P / D=Q at *;generalize P % D=R at *;generalize aH ^ n=T at *;have hg:g=Q\/g=Q+1:=by omega
 rcases hg with rfl | rfl
 ·rcases hb with rfl | rfl
  ·left;exact⟨rfl,rfl,by omega⟩
  exfalso;omega
 rw[Nat.succ_mul] at h;rcases hb with rfl | rfl
 ·exfalso;omega
 right
 refine⟨rfl,rfl,?_⟩;rw[show t'+D=R+1*T by omega,Nat.add_mul_mod_self_right,iw (by omega)]
theorem Ay (g:Nat) (pre s post ys:List Nat) (vs vb:ay) (w:an) (hw:Ws w .u32 153 vs g pre s post) (hb:Sl w .u32 vb ys) (ha:r6 g vb) (hl:s.length=ys.length+1) (yX:2<=ys.length)
  (hs:eI aH s) (hy:eI aH ys) (ht:0<ys.getD (ys.length - 1) 0) (hlt:val aH s<val aH ys*aH) (hg:g<w.heap.size) :
  bf ax 188 #[vs,vb] w fun e w'=>∃ (s':List Nat) (q:Nat),e=.returned (.int .u32 (q:Int))/\q=val aH s / val aH ys/\q<aH/\Ws w' .u32 153 vs g pre s' post/\w.grownBy w' (some g)/\s'.length=s.length/\eI aH s' /\
   val aH s'=val aH s % val aH ys:=by
 have hpos:0<val aH ys:=by
  rcases bO (val aH ys) with h | h
  ·rw[h] at hlt;omega
  exact h
 have Ln:=aa hlt;have HL:=aa hl;have DH:=aa hw.sl;have HT:=aa ht;clear hlt hl ht;obtain⟨ao,cap,rfl⟩:=hw.at;go_enter Tryz.func188,Tryz.ntmps188
 go_wp2_with fail
 refine (xG _ _ s ys w DH.out hb hs hy yX HL.out HT.out Ln.out).mono ?_;rintro e w1 ⟨x,rfl,hx,DF,nR,dm⟩;have Th:=hw.below dm hg;have EV:=hb.below dm;have eB:w.grownBy w1 (some g):=wH dm;go_wp2_with fail
 refine (yE g pre s post ys _ _ x _ w1 Th EV ha HL.out hs hy rfl hx).mono ?_;rintro e w2 ⟨t,b,o,rfl,eL,OI,eV,Fb,zF,yg⟩;have Mn:=uS eB eV;have MF:val aH ys<=aH ^ (ys.length+1):=aq (DE (eJ hy)) (bU (by decide) (by omega));have hm:=CU (n:=ys.length+1) hpos DF nR yg (by have:=eJ zF;rw[Fb,HL.out] at this;exact this) (by omega) MF;have HV:=aa yg;clear yg DF nR;have V':x<4294967296:=hx;rcases eL with ⟨rfl,rfl⟩ | ⟨rfl,rfl⟩
 ·have hm':x=val aH s / val aH ys/\val aH t=val aH s % val aH ys:=by omega
  have HM:=aa hm';clear hm hm';have ID:=aa Fb;clear Fb;go_wp2_with fail
  go_ret
  exact⟨t,x,rfl,HM.out.1,hx,OI,Mn,ID.out,zF,HM.out.2⟩
 have hm':x=val aH s / val aH ys+1/\(val aH t+val aH ys) % aH ^ (ys.length+1)=val aH s % val aH ys:=by omega
 have HM:=aa hm';have hx0:0<x:=by rw[hm'.1];exact Nat.succ_pos _
 have ID:=aa Fb;clear hm hm' Fb;have Bq:=EV.grown eV ha;have hle:ys.length<=t.length:=by have:=ID.out;have:=HL.out;omega
 have Tf:Ws w2 .u32 153 (.slice ao s.length cap) g pre t post:=OI;go_wp2_with fail
 refine (uB g pre t post ys _ _ w2 OI Bq ha hle zF hy).mono ?_;rintro e w3 ⟨r,rfl,Tg,Ct,Fa,Di,Dd⟩;have Pc:=uS Mn Ct;have KU:=aa Dd;have Oe:=aa Fa;clear Dd Fa hle;go_wp2_with fail
 go_ret
 refine⟨r,x - 1,?_,by have:=HM.out.1;omega,o7 (Nat.sub_le _ _) hx,Tg,Pc,by rw[Oe.out,ID.out],Di,?_⟩
 ·rw[show ((x - 1:Nat):Int)=(x:Int) - 1 by omega];rfl
 rw[KU.out,ID.out,HL.out];exact HM.out.2
theorem LN (n:Nat):n<2 ^ bl n:=by
 have h:=eJ (kB (B:=2) (by decide) n)
 rwa [jg (by decide)] at h
theorem CX {Y:List Nat} {n s:Nat} (dy:eI aH Y) (hn:Y.length=n+1) (ht:0<Y.getD n 0) (hs:s+bl (Y.getD n 0)<=32) :
  (fx aH (val aH Y*2 ^ s)).length=n+1/\0<(fx aH (val aH Y*2 ^ s)).getD n 0/\aH ^ n*2 ^ s<=val aH Y*2 ^ s:=by
 have e:=cW aH Y n;rw[show n+1=Y.length by omega,bD] at e;have h1:=eJ (dy.take n);rw[aW,cE (by omega)] at h1;have h2:=LN (Y.getD n 0);generalize Y.getD n 0=t at *
 have hlo:aH ^ n<=val aH Y:=by
  rw[e];have:=aU (aH ^ n) ht
  omega
 have O0:aH ^ n*2 ^ s<=val aH Y*2 ^ s:=aU _ hlo
 have OL:val aH Y*2 ^ s<aH ^ (n+1):=by
  have h3:val aH Y<(t+1)*aH ^ n:=by rw[e,Nat.succ_mul];omega
  have h4:(t+1)*aH ^ n<=2 ^ bl t*aH ^ n:=aU _ h2;have h5:val aH Y*2 ^ s<2 ^ bl t*aH ^ n*2 ^ s:=jU (aK h3 h4) (cT (by decide));have h6:2 ^ bl t*aH ^ n*2 ^ s=2 ^ (s+bl t)*aH ^ n:=by rw[jT];grind
  have h7:2 ^ (s+bl t)<=2 ^ 32:=bU (by decide) hs;have h8:2 ^ (s+bl t)*aH ^ n<=2 ^ 32*aH ^ n:=aU _ h7;have h9:aH ^ (n+1)=2 ^ 32*aH ^ n:=by rw[bY,fk]
  omega
 have hge:aH ^ n<=val aH Y*2 ^ s:=aq hlo (Nat.le_mul_of_pos_right _ (cT (by decide)));generalize val aH Y*2 ^ s=D at *;have hd:=kB (B:=aH) (by decide) D;have hv:=jg (B:=aH) (by decide) D
 have hl:(fx aH D).length=n+1:=by
  have h1:=fL (B:=aH) (by decide) OL;rcases ik (fx aH D).length (n+1) with h | h
  ·exfalso
   have h3:=eJ hd;rw[hv] at h3;have h4:aH ^ (fx aH D).length<=aH ^ n:=bU (by decide) (by omega)
   omega
  omega
 refine⟨hl,?_,O0⟩;rcases bO ((fx aH D).getD n 0) with h | h
 ·exfalso
  have e2:=cW aH (fx aH D) n;rw[show n+1=(fx aH D).length by omega,bD,h,hv,Nat.zero_mul] at e2;have h3:=eJ (hd.take n);rw[aW,cE (by omega)] at h3
  omega
 exact h
theorem v_ {B:Nat} {R:List Nat} {j:Nat} (h:val B R<B ^ j):val B R=val B (R.take j):=by
 rcases ik R.length j with hj | hj
 ·rw[cr (by omega)]
 have h1:=jH B R j hj;rcases bO (val B (R.drop j)) with h0 | h0
 ·rw[h0] at h1;omega
 have:=eX (B ^ j) h0
 omega
theorem C9 {B:Nat} (B0:0<B) {R Q:List Nat} {D A i n:Nat} (dr:eI B R) (hD:D<B ^ n) (hi:i+n+1<=R.length) (hA:val B R+D*val B Q=A) (hR:val B R<D*B ^ (i+1)) :
  val B ((R.drop i).take (n+1))<D*B/\∀ (s':List Nat) (q:Nat),s'.length=n+1->i<Q.length->Q.getD i 0=0->q=val B ((R.drop i).take (n+1)) / D->val B s'=val B ((R.drop i).take (n+1)) % D ->
   val B (R.take i++s'++R.drop (i+(n+1)))+D*val B (Q.set i q)=A/\val B (R.take i++s'++R.drop (i+(n+1)))<D*B ^ i:=by
 have hpos:0<D:=by
  rcases bO D with h | h
  ·rw[h] at hR;omega
  exact h
 have hlt:val B R<B ^ (i+(n+1)):=by
  refine aK hR ?_;rw[show i+(n+1)=n+(i+1) by omega,jT B n];exact aU _ (DE hD)
 have h1:=v_ hlt
 have h0:val B (R.drop (i+(n+1)))=0:=by
  have h2:=jH B R (i+(n+1)) (by omega);rw[<-h1] at h2;have h3:0<B ^ (i+(n+1)):=cT B0;rcases bO (val B (R.drop (i+(n+1)))) with h | h
  ·exact h
  have:=Nat.mul_pos h3 h;omega
 have h4:=jH B R i (by omega)
 have h5:val B (R.drop i)=val B ((R.drop i).take (n+1)):=by
  have h6:=jH B (R.drop i) (n+1) (by rw[jv];omega);rw[List.drop_drop,h0] at h6
  omega
 have h7:=eJ (dr.take i);rw[aW,cE (by omega)] at h7;have hP:0<B ^ i:=cT B0;rw[h5] at h4;generalize hS:val B ((R.drop i).take (n+1))=S at *;rw[bY] at hR;refine⟨?_,?_⟩
 ·refine Nat.lt_of_mul_lt_mul_left (a:=B ^ i) ?_;have e:B ^ i*(D*B)=D*(B ^ i*B):=by grind
  rw[e];omega
 intro s' q hl vB Ag hq hs
 have e1:val B (R.take i++s'++R.drop (i+(n+1)))=val B (R.take i)+B ^ i*val B s':=by
  rw[lE,lE,h0,aW,cE (by omega)]
  omega
 have e2:=kQ B Q i q vB;rw[Ag] at e2;have e3:=nW S D;have e4:=di S hpos;rw[e1,hs];rw[<-hq] at e3;generalize S % D=r at *;generalize val B (R.take i)=T at *;generalize B ^ i=P at *
 constructor
 ·rw[<-hA,h4,<-e3,show val B (Q.set i q)=val B Q+q*P by omega]
  grind
 have e5:P*(r+1)<=P*D:=eX _ e4;rw[fk D P];rw[Nat.mul_succ] at e5
 omega
theorem Jz {w:an} {T:bu} {g i n c:Nat} {P:List Nat} (hB:oH w g .u32 T P) (hi:i+n<=P.length) (hc:n<=c) (hm:c<=9223372036854775807) :
  Ws w .u32 T (.slice (some ⟨g,i,none⟩) n c) g (P.take i) ((P.drop i).take n) (P.drop (i+n)):=by
 have e1:((P.drop i).take n).length=n:=by simp;omega
 have e2:(P.take i).length=i:=by simp;omega
 refine⟨some ⟨g,i,none⟩,c,by rw[e1],by rw[e1];omega,hm,(fun e=>by cases e),fun _=>⟨by rw[e2],?_⟩⟩
 have e3:P.take i++(P.drop i).take n++P.drop (i+n)=P:=by
  rw[List.append_assoc,<-List.drop_drop,nQ,nQ]
 rw[e3];exact hB
set_option maxRecDepth 100000 in
theorem Az (va vb:ay) (X Y:List Nat) (w:an) (hx:Sl w .u32 va X) (hy:Sl w .u32 vb Y) (dx:eI aH X) (dy:eI aH Y) (hn:2<=Y.length) (ht:0<Y.getD (Y.length - 1) 0) (hm:X.length<=900000) (hle:val aH Y<=val aH X) :
  bf ax 157 #[va,vb] w fun e w'=>∃ q r,e=.returned (.tuple #[q,r])/\Sl w' .u32 q (fx aH (val aH X / val aH Y))/\Sl w' .u32 r (fx aH (val aH X % val aH Y))/\aC w.heap.size w w':=by
 obtain⟨i0,hi,hz0,jK,tN⟩:=info_parts ue;have t0:=dy.getD (by decide) (Y.length - 1);have t1:=jA dy (Y.length - 1);have TI:bl (Y.getD (Y.length - 1) 0)<=32:=Jo t0;obtain⟨s,hs⟩:∃ s,s=32 - bl (Y.getD (Y.length - 1) 0):=⟨_,rfl⟩
 have cG:(32:Int) - (Lib.bitLen (nth Y (Y.length - 1)).toNat:Int)=(s:Int):=by
  unfold nth;rw[Int.toNat_natCast,yx _ (uG t0 (by decide))];omega
 have tP:fT (s:Int)=s:=by unfold fT;omega
 obtain⟨h1,h2,h3⟩:=CX (n:=Y.length - 1) (s:=s) dy (by omega) ht (by omega);rw[show Y.length - 1+1=Y.length by omega] at h1
 have hmn:Y.length<=X.length:=by
  rcases ik X.length Y.length with h | h
  ·exfalso
   have e1:=eJ dx;have e2:aH ^ X.length<=aH ^ (Y.length - 1):=bU (by decide) (by omega);have e3:=Nat.le_of_mul_le_mul_right h3 (cT (by decide))
   omega
  exact h
 have RM:val aH X*2 ^ s<aH ^ (X.length+1):=by
  rw[bY];exact Nat.mul_lt_mul_of_lt_of_le (eJ dx) (show 2 ^ s<=2 ^ 32 from bU (by decide) (by omega)) (by decide)
 have hla:=fL (B:=aH) (k:=X.length+1) (by decide) RM
 have Ag:val aH X*2 ^ s<val aH Y*2 ^ s*aH ^ (X.length - Y.length+1):=by
  have e1:aH ^ (Y.length - 1)*2 ^ s*aH ^ (X.length - Y.length+1)<=val aH Y*2 ^ s*aH ^ (X.length - Y.length+1):=aU _ h3
  have e2:aH ^ (Y.length - 1)*2 ^ s*aH ^ (X.length - Y.length+1)=aH ^ X.length*2 ^ s:=by
   rw[Nat.mul_right_comm,<-jT];congr 2;omega
  have e3:val aH X*2 ^ s<aH ^ X.length*2 ^ s:=jU (eJ dx) (cT (by decide))
  omega
 have MF:val aH Y*2 ^ s<aH ^ Y.length:=by
  have:=eJ (kB (B:=aH) (by decide) (val aH Y*2 ^ s))
  rwa [jg (by decide),h1] at this
 have hdiv:val aH X*2 ^ s / (val aH Y*2 ^ s)=val aH X / val aH Y:=Nat.mul_div_mul_right _ _ (cT (by decide))
 have Bx:val aH X*2 ^ s % (val aH Y*2 ^ s) / 2 ^ s=val aH X % val aH Y:=by
  rw[Nat.mul_mod_mul_right,Nat.mul_div_cancel _ (cT (by decide))]
 have Tp:s<=32:=by omega
 obtain⟨Dl,MG⟩:∃ Dl,Dl=fx aH (val aH Y*2 ^ s):=⟨_,rfl⟩
 obtain⟨D,NT⟩:∃ D,D=val aH Y*2 ^ s:=⟨_,rfl⟩
 obtain⟨A,PG⟩:∃ A,A=val aH X*2 ^ s:=⟨_,rfl⟩
 obtain⟨R0,La⟩:∃ R0,R0=fx aH (val aH X*2 ^ s)++List.replicate (X.length+1 - (fx aH (val aH X*2 ^ s)).length) 0:=⟨_,rfl⟩
 have UL:eI aH Dl:=by rw[MG];exact kB (by decide) _
 have QV:val aH Dl=D:=by rw[MG,jg (by decide),NT]
 have UK:eI aH R0:=by rw[La];exact (kB (by decide) _).append (eI.replicate (by decide) _)
 have QU:val aH R0=A:=by rw[La,lJ,jg (by decide),PG]
 have Ra:R0.length=X.length+1:=by rw[La,fI,List.length_replicate];omega
 have ME:0<D:=by
  rcases bO D with h | h
  ·rw[NT] at h;rw[h] at Ag;omega
  exact h
 rw[<-MG] at h1 h2;rw[<-NT] at Ag MF hdiv Bx;rw[<-PG] at Ag hdiv Bx;have Qu:=aa Ra;have KT:=aa QU;have Sc:=aa QV;have VF:=aa MG;have U9:=aa La;have HD:=aa hdiv;have HM:=aa Bx;have HC:=aa tP;have fN:=aa cG;have HT:=aa h2;have Qy:=aa Ag;have VG:=aa MF;have xK:=aa hla;have Od:=aa h1;clear hdiv Bx tP cG h1 h2 h3 Ag MF RM ht hle hla hs MG La QV QU Ra NT PG;obtain⟨ao,ac,rfl⟩:=bR hx;have HY:=aa hy;obtain⟨bo,bc,rfl,b1,b2,b3,b4⟩:=hy;obtain⟨b,rfl,c1⟩:=b4 (Y.length - 1) (by omega);clear b4 b3;go_enter Tryz.func157,Tryz.ntmps157
 go_wp2_with fail
 refine (Tryz.bits_LeadingZeros32 _ _ (by omega) (by omega)).mono ?_;rintro e w' ⟨rfl,hw'⟩;obtain rfl:=hw'.symm;rw[fN.out];go_wp2_with fail
 refine (Cf _ Y _ _ HY.out dy (by omega)).mono ?_;rintro e w1 ⟨vd,rfl,K9,dm⟩;rw[HC.out,<-VF.out] at K9;go_wp2_with fail
 refine (Cf _ X _ w1 (hx.below dm) dx (by omega)).mono ?_;rintro e w2 ⟨v2,rfl,tA,cV⟩;rw[HC.out] at tA;have zF:=K9.below cV;have gu:aC _ _ w2:=dm.trans (cV.mono dm.size);obtain⟨o2,UM,rfl⟩:=bR tA;go_wp2_with fail
 refine (lH o2 _ UM _ (X.length+1) _ w2 tA xK.out (by omega) (by omega)).mono ?_;rintro e w3 ⟨v3,rfl,L7,jf,Cq⟩;rw[<-U9.out] at L7;have qS:aC _ _ w3:=gu.trans (jf.mono gu.size);obtain⟨o3,c3,rfl,r1,r2,r3,r4⟩:=L7;obtain⟨rfl,Lb⟩:=r4 (by rw[Qu.out];omega);rw[List.nil_append,List.append_nil] at Lb;rw[Qu.out] at r1 r4 ⊢;have Tq:w2.heap.size<w3.heap.size:=Cq (by omega);have Di:=zF.below jf;obtain⟨od,cd,rfl⟩:=bR Di;have hap:r6 w2.heap.size (.slice od Dl.length cd):=oS zF (ak _);rw[Od.out] at hap Di ⊢;clear Cq r4 tA zF K9;go_wp2_with (at_make;refine iX _ rfl _ _ 24 rfl 153 i0 .u32 Tryz.underlying24 hi hz0 jK _ _ _ _ (X.length - Y.length+1) rfl rfl (by omega) (by omega) (by omega) (by omega) ?_;intro w4 RY rW Ga)
 have RI:=Di.below rW;have pW:aC w.heap.size w w4:=qS.trans (rW.mono qS.size);have MK:=Lb.below rW (by omega);have Px:r6 w3.heap.size (.slice od Y.length cd):=oS Di (ak _);have eB:=gu.size;have eV:=qS.size;clear Lb Di
 go_loopw [10] (fun i wr=>∃ (k:Nat) (R Q:List Nat),i=.int .i64 ((k:Int) - 1)/\k<=X.length - Y.length+1/\oH wr w2.heap.size .u32 153 R/\oH wr w3.heap.size .u32 153 Q/\aC w.heap.size w wr/\Sl wr .u32 (.slice od Y.length cd) Dl/\eI aH R/\eI aH Q /\
  Hid (R.length=X.length+1)/\Hid (Q.length=X.length - Y.length+1)/\Hid (∀ j,j<k->Q.getD j 0=0)/\Hid (val aH R+D*val aH Q=A)/\Hid (val aH R<D*aH ^ k)) (fun i _=>(intOf i+1).toNat)
 case atStart=>exact⟨X.length - Y.length+1,R0,_,by go_num,ak _,MK,RY,pW,RI,UK,eI.replicate (by decide) _,Qu,aa (by simp),aa (fun j _=>sk _ _),aa (by rw[iP,KT.out];simp),aa (by rw[KT.out];exact Qy.out)⟩
 case round =>
  clear MK RY pW RI rW Ga;obtain⟨k,R,Q,rfl,hk,NV,NW,hb,hd,dR,dQ,vj,Oc,HZ,HA,HR⟩:=hrel
  by_cases h0:0<k
  ·have Hu:=Jz (i:=k - 1) (n:=Y.length+1) (c:=c3 - (k - 1)) NV (by have:=vj.out;omega) (by omega) (by omega);have hft:=NW.frozen (k - 1);have RP:k - 1<Q.length:=by have:=Oc.out;omega
   go_wp2_with fail
   rw[show k - 1+Y.length+1 - (k - 1)=Y.length+1 by omega];have OZ:=C9 (B:=aH) (by decide) (i:=k - 1) (n:=Y.length) dR VG.out (by have:=vj.out;omega) HA.out (by rw[show k - 1+1=k by omega];exact HR.out);refine (Ay w2.heap.size _ _ _ Dl _ _ wr Hu hd hap (by rw[Od.out,aW,jv,vj.out];omega) (by rw[Od.out];omega) ((dR.drop _).take _) UL (by rw[Od.out];exact HT.out) (by rw[Sc.out];exact OZ.1) NV.lt).mono ?_;rintro e w5 ⟨r,q,rfl,hq,NK,Rc,Jd,I_,TY,OK⟩;rw[Sc.out] at hq OK;rw[aW,jv,vj.out,cE (by omega)] at I_;have HN:=aa (OZ.2 r q I_ RP (HZ.out _ (by omega)) hq OK);have PF:=zI Rc (by omega);have Kt:=NW.other Jd (fun e=>by injection e with e;omega);have TT:=Kt.frozen (k - 1);have TZ:=Kt.cell RP
   have uh:=hb.trans (fo Jd eB hb.size);have Pj:=hd.grown Jd hap;have Tw:q<4294967296:=NK;have Vi:=aa I_;clear OZ hq OK I_ Rc Hu hft;go_wp2_with fail
   go_roundw
   case rel =>
    have qO:=Kt.set (k - 1) q _ rfl;refine⟨k - 1,R.take (k - 1)++r++R.drop (k - 1+(Y.length+1)),Q.set (k - 1) q,by go_num,by omega,?_,qO,fo (aI (aJ _ _) _) eV uh.size |> uh.trans,Pj.grown (aI (aJ _ _) _) Px,((dR.take _).append TY).append (dR.drop _),dQ.set NK,aa ?_,aa (by rw[cm];exact Oc.out),aa ?_,aa HN.out.1,aa HN.out.2⟩
    ·exact PF.other (aI (aJ _ (some w3.heap.size)) _) (fun e=>by injection e with e;omega)
    ·rw[fI,fI,Vi.out,aW,jv,vj.out];omega
    intro j hj;rw[dJ,if_neg (by omega)];exact HZ.out j (by omega)
   case measure=>simp[intOf];omega
  have sK:k=0:=by omega
  subst sK;have hA:=HA.out;have hR:=HR.out;rw[Nat.pow_zero,Nat.mul_one] at hR
  have e1:val aH Q=A / D:=by
   rw[<-hA,Nat.add_mul_div_left _ _ ME,Nat.div_eq_of_lt hR,Nat.zero_add]
  have e2:val aH R=A % D:=by
   rw[<-hA,Nat.add_mul_mod_self_left,iw hR]
  rw[HD.out] at e1;have e3:val aH R / 2 ^ s=val aH X % val aH Y:=by rw[e2];exact HM.out
  have E1:=aa e1;have E3:=aa e3;have Rn:=NW.sl 0 (X.length - Y.length+1) (X.length - Y.length+1) (by rw[Oc.out];omega) (ak _) (by omega);rw[List.drop_zero,cr (by rw[Oc.out];omega)] at Rn;have Rm:=NV.sl 0 (X.length+1) c3 (by rw[vj.out];omega) (by omega) (by omega);rw[List.drop_zero,cr (by rw[vj.out];omega)] at Rm;clear e1 e2 e3 hA hR NW NV;go_wp2_with fail
  refine (jI _ Q _ Rn dQ).mono ?_;rintro e w6 ⟨v6,rfl,Rj,rfl⟩;go_wp2_with fail
  refine (GP _ R _ wr Rm dR (by rw[vj.out];omega)).mono ?_;rintro e w7 ⟨v7,rfl,Ri,rA⟩;rw[HC.out,E3.out] at Ri;rw[E1.out] at Rj;go_wp2_with fail
  go_ret2
  exact⟨_,_,rfl,Rj.below rA,Ri,hb.trans (rA.mono hb.size)⟩
theorem JU {xs:List Nat} {B:Nat} (hB:2<=B) (dx:eI B xs) (h:nz xs=xs.length) (hp:0<xs.length):0<xs.getD (xs.length - 1) 0:=by
 rcases bO (xs.getD (xs.length - 1) 0) with h0 | h0
 ·exfalso
  have e:=cW B xs (xs.length - 1);rw[show xs.length - 1+1=xs.length by omega,bD,h0,Nat.zero_mul,Nat.add_zero] at e;have h1:(fx B (val B xs)).length=nz xs:=e_ hB dx;have h2:=eJ (dx.take (xs.length - 1));rw[<-e,aW,cE (by omega)] at h2;have h3:=fL hB h2
  omega
 exact h0
theorem Bj {xs:List Nat} {B:Nat} (hB:2<=B) (dx:eI B xs):nz (xs.take (nz xs))=nz xs:=by
 have h1:(fx B (val B xs)).length=nz xs:=e_ hB dx;have h2:(fx B (val B (xs.take (nz xs)))).length=nz (xs.take (nz xs)):=e_ hB (dx.take _);rw[bZ hB dx] at h2
 omega
theorem Ik (va vb:ay) (xs ys:List Nat) (w:an) (hx:Sl w .u32 va xs) (hy:Sl w .u32 vb ys) (dx:eI aH xs) (dy:eI aH ys) (lx:xs.length<=900000) (h0:val aH ys<=val aH xs) (h1:2<=nz ys) :
  bf ax 111 #[va,vb] w fun e w'=>∃ q r,e=.returned (.tuple #[q,r,.bool true])/\Sl w' .u32 q (fx aH (val aH xs / val aH ys))/\Sl w' .u32 r (fx aH (val aH xs % val aH ys))/\aC w.heap.size w w':=by
 obtain⟨ao,ac,rfl⟩:=bR hx;obtain⟨bo,bc,rfl⟩:=bR hy;have OY:=gR ys;have nx:=gR xs;have hx':=hx.take (nz xs) (gR xs);have hy':=hy.take (nz ys) (gR ys);have VX:=bZ (B:=aH) (by decide) dx;have VY:=bZ (B:=aH) (by decide) dy;have lX:(xs.take (nz xs)).length=nz xs:=by simp;omega
 have lY:(ys.take (nz ys)).length=nz ys:=by simp;omega
 have hT:=JU (B:=aH) (by decide) (dy.take (nz ys)) (by rw[Bj (B:=aH) (by decide) dy,lY]) (by omega);have hz:(((nz ys:Nat):Int)==0)=false:=by rw[beq_eq_false_iff_ne];omega
 have jK:(((nz ys:Nat):Int)==1)=false:=by rw[beq_eq_false_iff_ne];omega
 have hc:0<=mz (val aH (xs.take (nz xs))) (val aH (ys.take (nz ys))):=by
  rw[VX,VY];unfold mz;rw[if_neg (by omega)];split<;>omega
 have dX:=dx.take (nz xs);have dY:=dy.take (nz ys);have DP:=aa hx;have Qq:=aa hy;have AJ:=aa (fun w=>dA ao xs.length ac xs w);have KP:=aa (fun w=>dA bo ys.length bc ys w);rw[<-VX,<-VY] at h0 ⊢;clear hx hy VX VY dx dy;generalize xs.take (nz xs)=X at *;generalize ys.take (nz ys)=Y at *;generalize nz xs=m at *;generalize nz ys=n at *;have LX:=aa lX;have LY:=aa lY;have HT:=aa hT;have B4:=aa h0;clear lX lY hT h0;go_enter Tryz.func111,Tryz.ntmps111
 go_wp2_with fail
 refine (AJ.out _ DP.out).mono ?_;rintro e w' ⟨rfl,rfl⟩;go_wp2_with fail
 refine (KP.out _ Qq.out).mono ?_;rintro e w' ⟨rfl,rfl⟩;go_wp2_with fail
 refine (rD _ _ _ _ _ hx' hy' dX dY).mono ?_;rintro e w1 ⟨rfl,dm⟩;go_wp2_with fail
 refine (Az _ _ X Y w1 (hx'.below dm) (hy'.below dm) dX dY (by rw[LY.out];exact h1) HT.out (by rw[LX.out];omega) B4.out).mono ?_;rintro e w2 ⟨q,r,rfl,hq,hr,cV⟩;go_wp2_with fail
 go_ret3
 exact⟨_,_,rfl,hq,hr,dm.trans (cV.mono dm.size)⟩
theorem Il (va vb:ay) (xs ys:List Nat) (w:an) (hx:Sl w .u32 va xs) (hy:Sl w .u32 vb ys) (dx:eI aH xs) (dy:eI aH ys) (lx:xs.length<=900000) (h0:0<val aH ys) :
  bf ax 111 #[va,vb] w fun e w'=>∃ q r,e=.returned (.tuple #[q,r,.bool true])/\Sl w' .u32 q (fx aH (val aH xs / val aH ys))/\Sl w' .u32 r (fx aH (val aH xs % val aH ys))/\aC w.heap.size w w':=by
 by_cases h:val aH xs<val aH ys
 ·refine (div_lt va vb xs ys w hx hy dx dy (by omega) h).mono ?_;rintro e w' ⟨r,rfl,hr,hb⟩;exact⟨_,_,rfl,by rw[Nat.div_eq_of_lt h,fe];exact Sl.nil _ _,by rw[iw h];exact hr,hb⟩
 by_cases h1:nz ys=1
 ·exact div_one va vb xs ys w hx hy dx dy (by omega) (by omega) h1
 exact Ik va vb xs ys w hx hy dx dy lx (by omega) (by have:=xZ dy h0;omega)
theorem MZ {va vb:ay} {m n k1 k2:Nat} {w:an} (hx:GN w va m k1) (hy:GN w vb n k2) (h1:k1<=900000) (h0:0<n) :
  bf ax 111 #[va,vb] w fun e w'=>∃ q r,e=.returned (.tuple #[q,r,.bool true])/\Sl w' .u32 q (fx aH (m / n))/\Sl w' .u32 r (fx aH (m % n))/\aC w.heap.size w w':=by
 obtain⟨xs,hx,dx,rfl,lx⟩:=hx;obtain⟨ys,hy,dy,rfl,ly⟩:=hy;exact Il _ _ _ _ w hx hy dx dy (by omega) h0
open Classical in
theorem KH {n:Nat} (h:0<n):0<bl n:=by rw[zk h];omega
def dn (l:List UInt8):Nat:=l.foldl (fun n c=>10*n+(c.toNat - 48)) 0
end Go.Proofs.YtoncclhbdkjhmaaGreatDoor
namespace Go.Proofs.YtoncclhbdkjhmaaGreatDoor
open Go.RowKit Go.Sort Go.Lib
set_option maxRecDepth 100000
theorem Ah (w:an) (T:bu) (nd:Nat) (hs:nd<=24):Holds (fun (b:UInt8)=>gG .u8 (b.toNat:Int)) (w.alloc (.cells Lib.zeros24 T)) w.heap.size 0 (mK nd (0:UInt8)):=fun j hj=>by
 have hj':j<nd:=by simpa using hj
 refine⟨?_,World.frozen?_alloc_new _ _ _ _⟩;rw[World.cell?_alloc_new,Lib.zeros24_at _ (by omega),getElem!_pos _ j hj]
 simp
theorem zm (w:an) (o:Obj) (dk:Array UInt8) (k:Nat):aC w.heap.size w ((putRow (fun (b:UInt8)=>gG .u8 (b.toNat:Int)) (w.alloc o) w.heap.size 0 dk).drewN k):=by
 rw[alloc_eq_grow];obtain⟨os',_,e⟩:=putRow_grow_new (fun (b:UInt8)=>gG .u8 (b.toNat:Int)) w #[o] w.heap.size 0 dk (ak _);rw[e];exact⟨rfl,rfl,rfl,by show w.heap.size<=(w.heap++os').size;rw[Array.size_append];omega,fun i hi=>heap_grow_old w os' hi⟩
set_option maxRecDepth 100000 in
theorem MO (u : Nat) (h1 : 100 ≤ u) (hu64 : u < 18446744073709551616) (w : an) (htab : oP ax w "internal/strconv.uint64pow10" .u64 rR) :
  bf ax 197 #[.int .u64 u,.int .i64 10] w fun e w'=>e=.returned (.string ⟨(bh u).toArray⟩)/\aC w.heap.size w w':=by
 have Rw:nw u<=20:=by have:=Lib.numDigits_eq u (by omega) hu64;split at this<;>omega
 have hal:Tryz.prog.arrayLen 233=24:=by simp[Program.arrayLen,Tryz.underlying233]
 have Tn:∀ W,(Instr.sliceAt 233 (.pointer (some ⟨w.heap.size,0,none⟩)) none (some (.int .i64 (nw u:Int))) none).run ax W=.ok (.slice (some ⟨w.heap.size,0,none⟩) (nw u) 24) W:=fun W=>by
  rw[run_sliceAt_array_h W 233 ⟨w.heap.size,0,none⟩ (by simp[Program.arrayLen,Program.elem,Tryz.underlying233]) .i64 (nw u:Int) (by omega) (by rw[hal];omega)];go_simp
  try omega
 have PA:=Ah w 233 (nw u) (by omega);have hfmt:=Tryz.internal_strconv_formatBase10 w.heap.size 0 24 u (mK (nw u) 0) (w.alloc (.cells Lib.zeros24 233)) PA (by rw[mF];exact Lib.lt_pow_nDigits u) hu64 (by rw[mF];omega);rw[mF] at hfmt;have Vs:=aa PA;have QH:=aa hfmt;clear PA hal hfmt;go_enter Tryz.func197,Tryz.ntmps197
 go_wp2_with fail
 refine (Tryz.internal_strconv_numDigits u (by omega) hu64 _ (Lib.tabIs_alloc htab _)).mono ?_;rintro e w' ⟨rfl,rfl⟩;go_wp2_with fail
 refine QH.out.mono ?_;rintro e w' ⟨rfl,k,v',dk,rfl,hF⟩
 have oM:(convert 99 9 (.slice (some ⟨w.heap.size,0,none⟩) (nw u) 24)).run ax ((putRow (fun (b:UInt8)=>gG .u8 (b.toNat:Int)) (w.alloc (.cells Lib.zeros24 233)) w.heap.size 0 dk).drewN k)=.ok (.string ⟨(bh u).toArray⟩) ((putRow (fun (b:UInt8)=>gG .u8 (b.toNat:Int)) (w.alloc (.cells Lib.zeros24 233)) w.heap.size 0 dk).drewN k):=by
  have h:=run_convert_bytes_back (P:=ax) ((putRow (fun (b:UInt8)=>gG .u8 (b.toNat:Int)) (w.alloc (.cells Lib.zeros24 233)) w.heap.size 0 dk).drewN k) 99 9 5 ⟨w.heap.size,0,none⟩ 24 (bh u) Tryz.underlying99 Tryz.underlying5 Tryz.underlying9 (fun j hj=>by
   rw[Lib.row_is_numeral hF j hj,Lib.add_plain,World.cell?_drewN]
   exact cell?_putRow (fun (b:UInt8)=>gG .u8 (b.toNat:Int)) _ w.heap.size 0 _ dk Vs.out (by rw[hF.size,mF]) j (by rw[hF.size];rw[Lib.decDigits_length] at hj;exact hj))
  rw[Lib.decDigits_length] at h;exact h
 have HB:=aa (zm w (.cells Lib.zeros24 233) dk k);go_wp2_with fail
 go_ret
 exact⟨rfl,HB.out⟩
theorem rh {w w':an} {name:String} {k:IntKind} {zs:List Int} (h:oP ax w name k zs) (hb:aC w.heap.size w w'):oP ax w' name k zs:=by
 unfold oP World.var? at *
 cases hg:Tryz.prog.globalNamed name with
 | none=>simp[hg] at h
 | some g =>
  simp only[hg,Option.bind_some] at h ⊢
  have hlt:g<w.heap.size:=by
   rcases ik g w.heap.size with h' | h'
   ·exact h'
   rw[Array.getElem?_eq_none h'] at h;simp at h
  rw[hb.block g hlt];exact h
theorem MP (u : Nat) (hu64 : u < 18446744073709551616) (w : an) (htab : oP ax w "internal/strconv.uint64pow10" .u64 rR) :
  bf ax 184 #[.int .u64 u,.int .i64 10] w fun e w'=>e=.returned (.string ⟨(bh u).toArray⟩)/\aC w.heap.size w w':=by
 by_cases h:u<100
 ·refine (Dj u _ rfl h w).mono ?_;rintro e w' ⟨rfl,rfl⟩;exact⟨rfl,av _ _⟩
 have HF:=aa (MO u (by omega) hu64 w htab);clear h htab;go_enter Tryz.func184,Tryz.ntmps184
 go_wp2_with fail
 refine HF.out.mono ?_;rintro e w' ⟨rfl,hb⟩;go_wp2_with fail
 go_ret
 exact⟨rfl,hb⟩
theorem MN {w : an} (htab : oP ax w "internal/strconv.uint64pow10" .u64 rR) : Jy w (fun i => i < 18446744073709551616) :=
 fun w' i z hb hz hi=>by
  subst hz;exact MP i hi w' (rh htab hb)
theorem zO (va : ay) (xs : List Nat) (w : an) (htab : oP ax w "internal/strconv.uint64pow10" .u64 rR) (hx : Sl w .u32 va xs) (dx : eI aH xs) (lx : xs.length ≤ 10000) :
  bf ax 151 #[va] w fun e w'=>e=.returned (.string ⟨(bh (val aH xs)).toArray⟩)/\aC w.heap.size w w':=
 D6 _ va xs w (MN htab) hx dx lx (fun g hg _=>by have hG:G9=1000000000:=rfl;show g<18446744073709551616;omega) (fun _ g hg=>by have hG:G9=1000000000:=rfl;show G9+g<18446744073709551616;omega)
end Go.Proofs.YtoncclhbdkjhmaaGreatDoor
namespace Go.Proofs.YtoncclhbdkjhmaaGreatDoor
open Go.RowKit
set_option maxRecDepth 100000
def sg (b:Bool) (n:Nat):Int:=if b then -(n:Int) else (n:Int)
theorem tV (b:Bool) (n:Nat):(sg b n).natAbs=n:=by cases b<;>simp[sg]
theorem JK (b:Bool) (n:Nat):decide (sg b n<0)=(b && decide (0<n)):=by
 cases b
 ·simp[sg]
 simp[sg]
def GI (w:an) (v:ay) (z:Int) (k:Nat):Prop:=∃ b va n,v=.agg #[.bool b,va]/\GN w va n k/\z=sg b n
def CI (w:an) (v:ay) (z:Int) (k:Nat):Prop:=∃ va,v=.agg #[.bool (decide (z<0)),va]/\Sl w .u32 va (fx aH z.natAbs)/\z.natAbs<aH ^ k
theorem GI.below {w w':an} {v:ay} {z:Int} {k:Nat} (h:GI w v z k) (hb:aC w.heap.size w w'):GI w' v z k:=by
 obtain⟨b,va,n,rfl,h,rfl⟩:=h;exact⟨b,va,n,rfl,h.below hb,rfl⟩
theorem CI.below {w w':an} {v:ay} {z:Int} {k:Nat} (h:CI w v z k) (hb:aC w.heap.size w w'):CI w' v z k:=by
 obtain⟨va,rfl,h,h2⟩:=h;exact⟨va,rfl,h.below hb,h2⟩
theorem CI.gi {w:an} {v:ay} {z:Int} {k:Nat} (h:CI w v z k):GI w v z k:=by
 obtain⟨va,rfl,h,h2⟩:=h;refine⟨_,va,_,rfl,uj h h2,?_⟩;unfold sg
 by_cases hz:z<0
 ·rw[if_pos (by simpa using hz)];omega
 rw[if_neg (by simpa using hz)];omega
theorem M1 {w:an} {b:Bool} {n k:Nat} {va:ay} (h:Sl w .u32 va (fx aH n)) (hn:n<aH ^ k):CI w (.agg #[.bool (b && decide (0<n)),va]) (sg b n) k:=
 ⟨va,by rw[JK],by rw[tV];exact h,by rw[tV];exact hn⟩
theorem q5 {n:Nat}:0<n->0<(fx aH n).length:=fun h=>by
 rcases bO (fx aH n).length with h0 | h0
 ·have:=jg (B:=aH) (by decide) n;rw[List.eq_nil_of_length_eq_zero h0] at this
  simp[val] at this;omega
 exact h0
theorem dh (b:Bool) (va:ay) (n k:Nat) (w:an) (hs:Sl w .u32 va (fx aH n)) (hn:n<aH ^ k) :
  bf ax 90 #[.bool b,va] w fun e w'=>∃ v,e=.returned v/\CI w' v (sg b n) k/\aC w.heap.size w w':=by
 have Ig:∀ w' B,B=(b && decide (0<n))->aC w.heap.size w w'->CI w' (.agg #[.bool B,va]) (sg b n) k:=fun w' B e hb=>by subst e;exact M1 (hs.below hb) hn
 obtain⟨ao,ac,rfl⟩:=bR hs;have HS:=aa Ig;clear Ig hs hn
 cases b
 ·go_enter Tryz.func90,Tryz.ntmps90
  go_wp2
  exact aB (v:=.agg #[.bool false,.slice ao (fx aH n).length ac]) (by simp[results,Tryz.results90,go_sem]) rfl ⟨_,rfl,HS.out _ _ rfl ((av _ _).alloc (ak _) _),(av _ _).alloc (ak _) _⟩
 by_cases h0:0<n
 ·have hl:=q5 h0;have HD:=aa (show true=(true && decide (0<n)) by simp[h0]);go_enter Tryz.func90,Tryz.ntmps90
  go_wp2
  exact aB (v:=.agg #[.bool true,.slice ao (fx aH n).length ac]) (by simp[results,Tryz.results90,go_sem]) rfl ⟨_,rfl,HS.out _ _ HD.out ((av _ _).alloc (ak _) _),(av _ _).alloc (ak _) _⟩
 obtain rfl:n=0:=by omega
 have HD:=aa (show false=(true && decide (0<0)) by simp);have hl:(fx aH 0).length<=0:=by rw[fe];exact ak _
 have hd:decide (0<(fx aH 0).length)=false:=by rw[decide_eq_false_iff_not];omega
 go_enter Tryz.func90,Tryz.ntmps90
 go_wp2
 exact aB (v:=.agg #[.bool false,.slice ao (fx aH 0).length ac]) (by simp[results,Tryz.results90,go_sem]) rfl ⟨_,rfl,HS.out _ _ HD.out ((av _ _).alloc (ak _) _),(av _ _).alloc (ak _) _⟩
theorem GN.shape {w:an} {v:ay} {n k:Nat} (h:GN w v n k):∃ ao l c,v=.slice ao l c/\l<=k:=by
 obtain⟨xs,h,_,_,hk⟩:=h;obtain⟨ao,c,rfl⟩:=bR h;exact⟨ao,_,c,rfl,hk⟩
theorem JD {va:ay} {n k:Nat} {w:an} (hx:GN w va n k) (hk:k<=1000000) :
  bf ax 110 #[va] w fun e w'=>∃ v,e=.returned v/\Sl w' .u32 v (fx aH n)/\aC w.heap.size w w':=by
 obtain⟨xs,hx,dx,rfl,lx⟩:=hx;exact (we _ xs w hx dx (by omega)).mono fun _ _ ⟨v,he,hs,hb⟩=>⟨v,he,hs.sl,hb⟩
theorem CI.shape {w:an} {v:ay} {z:Int} {k:Nat} (h:CI w v z k):∃ b ao l c,v=.agg #[.bool b,.slice ao l c]:=by
 obtain⟨va,rfl,h,_⟩:=h;obtain⟨ao,c,rfl⟩:=bR h;exact⟨_,ao,_,c,rfl⟩
theorem GI.shape {w:an} {v:ay} {z:Int} {k:Nat} (h:GI w v z k):∃ b ao l c n,v=.agg #[.bool b,.slice ao l c]/\GN w (.slice ao l c) n k/\z=sg b n:=by
 obtain⟨b,va,n,rfl,h,rfl⟩:=h;obtain⟨ao,l,c,rfl,_⟩:=h.shape;exact⟨b,ao,l,c,n,rfl,h,rfl⟩
theorem cf {w:an} {g:Nat} {T:bu} {a b:ay} (h:w.heap[g]?=some (.cells #[a,b] T (0,0))) :
  w.cell? ⟨g,0,none⟩=some a/\w.cell? ⟨g,1,none⟩=some b/\w.frozen? ⟨g,0,none⟩=false/\w.frozen? ⟨g,1,none⟩=false:=
 ⟨by rw[cell_of_row w g 0 _ T (0,0) h];rfl,by rw[cell_of_row w g 1 _ T (0,0) h];rfl,frozen_of_row w g 0 _ T h,frozen_of_row w g 1 _ T h⟩
theorem Sl.set {w:an} {k:IntKind} {v:ay} {xs:List Nat} (h:Sl w k v xs) {p:Addr} {u:ay} (hc:w.cell? p=some u) (hu:∀ k z,u ≠ .int k z) (x:ay):Sl (w.setCell p x) k v xs:=by
 obtain⟨ao,cap,rfl,h1,h2,h3,h4⟩:=h;refine⟨ao,cap,rfl,h1,h2,h3,fun i hi=>?_⟩;obtain⟨a,ha,hq⟩:=h4 i hi;refine⟨a,ha,?_⟩;rw[kC w p (a.add i) x (fun e=>by rw[<-e,hc] at hq;injection hq with hq;exact hu _ _ hq)];exact hq
theorem Sl.vm {w:an} {k:IntKind} {v:ay} {xs:List Nat} (h:Sl w k v xs) {g:Nat} {T:bu} {b0:Bool} {a0:Option Addr} {n0 c0:Nat} (hB:w.heap[g]?=some (.cells #[.bool b0,.slice a0 n0 c0] T (0,0))) (x y:ay) :
  Sl ((w.setCell ⟨g,0,none⟩ x).setCell ⟨g,1,none⟩ y) k v xs:=by
 obtain⟨q0,q1,_,_⟩:=cf hB;refine (h.set q0 (by intro k z e;cases e) x).set (u:=.slice a0 n0 c0) ?_ (by intro k z e;cases e) y;rw[kC w _ _ x (by intro e;injection e with _ e;omega)];exact q1
theorem CI.vm {w:an} {v:ay} {z:Int} {k:Nat} (h:CI w v z k) {g:Nat} {T:bu} {b0:Bool} {a0:Option Addr} {n0 c0:Nat} (hB:w.heap[g]?=some (.cells #[.bool b0,.slice a0 n0 c0] T (0,0))) (x y:ay) :
  CI ((w.setCell ⟨g,0,none⟩ x).setCell ⟨g,1,none⟩ y) v z k:=by
 obtain⟨va,rfl,h,h2⟩:=h;exact⟨va,rfl,h.vm hB x y,h2⟩
theorem BZ {B:Nat} {w w':an} (h:aC B w w') (hB:B<=w.heap.size) (x y:ay):aC B w ((w'.setCell ⟨w.heap.size,0,none⟩ x).setCell ⟨w.heap.size,1,none⟩ y):=
 (h.setCell (by simpa using hB) _).setCell (by simpa using hB) _
theorem mA (b:Bool) (va:ay) (n k:Nat) (w:an) (hx:GN w va n k) (hk:k<=1000000) :
  bf ax 58 #[.bool b,va] w fun e w'=>∃ v,e=.returned v/\CI w' v (sg b n) k/\aC w.heap.size w w':=by
 have hn:=hx.lt;have hx':=hx;obtain⟨ao,l,c,rfl,hl⟩:=hx.shape;go_enter Tryz.func58,Tryz.ntmps58
 go_wp2_with fail
 refine (JD (hx'.below ((av _ _).alloc (ak _) _)) hk).mono ?_;rintro e w1 ⟨v1,rfl,s1,dm⟩;have Cv:=(dm.block w.heap.size (by simp)).trans (dc w _);have Mz:aC w.heap.size w w1:=((av _ _).alloc (ak _) _).trans (dm.mono (by simp));go_wp2_with fail
 refine (dh b v1 n k w1 s1 hn).mono ?_;rintro e w2 ⟨v2,rfl,c2,cV⟩;have Ij:=(cV.block w.heap.size (ag Cv)).trans Cv;have gu:aC w.heap.size w w2:=Mz.trans (cV.mono Mz.size);obtain⟨bb,bo,bl,bc,rfl⟩:=c2.shape;obtain⟨q0,q1,f0,f1⟩:=cf Ij;have HB:=aa Ij;clear Cv Ij;go_wp2_with fail
 exact aB (v:=.agg #[.bool bb,.slice bo bl bc]) (by simp[results,Tryz.results58,go_sem,q0,q1]) rfl ⟨_,rfl,c2.vm HB.out _ _,BZ gu (ak _) _ _⟩
theorem Sl.keeps {w w':an} {k:IntKind} {v:ay} {xs:List Nat} (h:Sl w k v xs) (hk:jS w w'):Sl w' k v xs:=by
 obtain⟨ao,cap,rfl,h1,h2,h3,h4⟩:=h;refine⟨ao,cap,rfl,h1,h2,h3,fun i hi=>?_⟩;obtain⟨a,ha,hq⟩:=h4 i hi;exact⟨a,ha,hk _ _ _ hq⟩
theorem GN.keeps {w w':an} {v:ay} {n k:Nat} (h:GN w v n k) (hk:jS w w'):GN w' v n k:=by
 obtain⟨xs,h1,h2⟩:=h;exact⟨xs,h1.keeps hk,h2⟩
theorem CI.keeps {w w':an} {v:ay} {z:Int} {k:Nat} (h:CI w v z k) (hk:jS w w'):CI w' v z k:=by
 obtain⟨va,rfl,h,h2⟩:=h;exact⟨va,rfl,h.keeps hk,h2⟩
theorem LM {va vb:ay} {m n k1 k2:Nat} {w:an} (hx:GN w va m k1) (hy:GN w vb n k2) (h1:k1<=1000000) (h2:k2<=1000000) :
  bf ax 99 #[va,vb] w fun e w'=>∃ v,e=.returned v/\Sl w' .u32 v (fx aH (m*n))/\aC w.heap.size w w':=by
 obtain⟨xs,hx,dx,rfl,lx⟩:=hx;obtain⟨ys,hy,dy,rfl,ly⟩:=hy;exact G6 _ _ _ _ w hx hy dx dy (by omega) (by omega)
theorem FH {va vb:ay} {m n k1 k2:Nat} {w:an} (hx:GN w va m k1) (hy:GN w vb n k2) (h1:k1<=1000000) (h2:k2<=1000000) :
  bf ax 97 #[va,vb] w fun e w'=>∃ v,e=.returned v/\Sl w' .u32 v (fx aH (m+n))/\aC w.heap.size w w':=by
 obtain⟨xs,hx,dx,rfl,lx⟩:=hx;obtain⟨ys,hy,dy,rfl,ly⟩:=hy;exact Iq _ _ _ _ w hx hy dx dy (by omega) (by omega)
theorem GN.drew {w:an} {v:ay} {n k:Nat} (h:GN w v n k):GN w.drew v n k:=h
theorem GN.alloc {w:an} {v:ay} {n k:Nat} (h:GN w v n k) (o:Obj):GN (w.alloc o) v n k:=h.below ((av _ _).alloc (ak _) _)
theorem aT {B:Nat} {w w1:an} (h:aC B w.drew w1):aC B w w1:=⟨h.os,h.tape,h.output,h.size,h.block⟩
theorem zj {w w1:an} {T1 T2:bu} {c1 c2:Array ay} (hb:aC (w.heap.size+2) ((w.alloc (.cells c1 T1)).alloc (.cells c2 T2)) w1) :
  w1.heap[w.heap.size]?=some (.cells c1 T1 (0,0))/\w1.heap[w.heap.size+1]?=some (.cells c2 T2 (0,0)):=by
 have h1:=dc (w.alloc (.cells c1 T1)) (.cells c2 T2);refine⟨(hb.block _ (by omega)).trans ?_,(hb.block _ (by omega)).trans (by simpa using h1)⟩;rw[Below.heap_alloc _ _ _ (by simp)];exact dc w _
theorem tF {w w1:an} {T1 T2 T3:bu} {c1 c2 c3:Array ay} (hb:aC (w.heap.size+3) (((w.alloc (.cells c1 T1)).alloc (.cells c2 T2)).alloc (.cells c3 T3)) w1) :
  w1.heap[w.heap.size]?=some (.cells c1 T1 (0,0))/\w1.heap[w.heap.size+1]?=some (.cells c2 T2 (0,0))/\w1.heap[w.heap.size+2]?=some (.cells c3 T3 (0,0)):=by
 have h1:=dc ((w.alloc (.cells c1 T1)).alloc (.cells c2 T2)) (.cells c3 T3);obtain⟨a,b⟩:=zj (av (w.heap.size+2) ((w.alloc (.cells c1 T1)).alloc (.cells c2 T2)));refine⟨(hb.block _ (by omega)).trans ?_,(hb.block _ (by omega)).trans ?_,(hb.block _ (by omega)).trans (by simpa using h1)⟩
 ·rw[Below.heap_alloc _ _ _ (by simp;omega)];exact a
 rw[Below.heap_alloc _ _ _ (by simp)];exact b
theorem FD (w:an) (o1 o2:Obj):aC w.heap.size w ((w.alloc o1).alloc o2):=((av _ _).alloc (ak _) _).alloc (by simp) _
theorem B1 (w:an) (o1 o2 o3:Obj):aC w.heap.size w (((w.alloc o1).alloc o2).alloc o3):=(FD w o1 o2).alloc (by simp;omega) _
theorem kH {B g:Nat} {w w':an} (h:aC B w w') (hB:B<=g) (x y:ay):aC B w ((w'.setCell ⟨g,0,none⟩ x).setCell ⟨g,1,none⟩ y):=
 (h.setCell (by simpa using hB) _).setCell (by simpa using hB) _
theorem BI {w:an} {g g' o:Nat} {x y:ay} (h:g'≠g):((w.setCell ⟨g,0,none⟩ x).setCell ⟨g,1,none⟩ y).cell? ⟨g',o,none⟩=w.cell? ⟨g',o,none⟩:=by
 rw[kC _ _ _ _ (by intro e;injection e with e;omega),kC _ _ _ _ (by intro e;injection e with e;omega)]
theorem JL (a b:Bool) (m n:Nat):sg a m*sg b n=sg (a != b) (m*n):=by
 cases a<;>cases b<;>simp[sg,Int.neg_mul,Int.mul_neg]
theorem sS (va vb:ay) (y z:Int) (k1 k2:Nat) (w:an) (hx:GI w va y k1) (hy:GI w vb z k2) (h1:k1<=1000000) (h2:k2<=1000000) :
  bf ax 48 #[va,vb] w fun e w'=>∃ v,e=.returned v/\CI w' v (y*z) (k1+k2)/\aC w.heap.size w w':=by
 obtain⟨b,ao,l,c,m,rfl,hg,rfl⟩:=hx.shape;obtain⟨d,po,pl,pc,n,rfl,eV,rfl⟩:=hy.shape;have hn:m*n<aH ^ (k1+k2):=by rw[jT];exact Nat.mul_lt_mul'' hg.lt eV.lt
 rw[JL];have hW:=B1 w (.cells #[.bool b,.slice ao l c] 26) (.cells #[.bool d,.slice po pl pc] 26) (.cells #[.bool false,.slice none 0 0] 26);go_enter Tryz.func48,Tryz.ntmps48
 go_wp2_with fail
 go_region_held3 (fun w'=>w'.cell? ⟨w.heap.size,0,none⟩=some (.bool b)/\w'.cell? ⟨w.heap.size,1,none⟩=some (.slice ao l c)/\w'.cell? ⟨w.heap.size+1,0,none⟩=some (.bool d)/\w'.cell? ⟨w.heap.size+1,1,none⟩=some (.slice po pl pc))
  (first | exact⟨yf,ye,yd,xj⟩ | exact⟨(BI (by omega)).trans yf,(BI (by omega)).trans ye,(BI (by omega)).trans yd,(BI (by omega)).trans xj⟩ | go_keep)
  (first
   | (go_at_call 99;refine (LM (((hg.alloc _).alloc _).alloc _).drew (((eV.alloc _).alloc _).alloc _).drew h1 h2).mono ?_;rintro e w2 ⟨v2,rfl,s2,cV⟩;have fA:=tF (aT (cV.mono (by simp)));have gu:=hW.trans (aT (cV.mono (by simp;omega)));clear cV;obtain⟨yf,ye,_,_⟩:=cf fA.1;obtain⟨yd,xj,_,_⟩:=cf fA.2.1)
   | (
     go_at_call 90;refine (dh _ v2 _ (k1+k2) w2 s2 hn).mono ?_;rintro e w3 ⟨v3,rfl,c3,jf⟩;obtain⟨bb,bo,bl,bc,rfl⟩:=c3.shape
     have sK:=(jf.block _ (ag fA.1)).trans fA.1;have nB:=(jf.block _ (ag fA.2.1)).trans fA.2.1;have rz:=(jf.block _ (ag fA.2.2)).trans fA.2.2;have qS:=gu.trans (jf.mono gu.size);clear jf fA gu yf ye yd xj
     obtain⟨yf,ye,_,_⟩:=cf sK;obtain⟨yd,xj,_,_⟩:=cf nB;obtain⟨q0,q1,f0,f1⟩:=cf rz;have HB:=aa rz;clear sK nB rz))
 go_wp2_with fail
 exact aB (v:=.agg #[.bool bb,.slice bo bl bc]) (by simp[results,Tryz.results48,go_sem,q0,q1]) rfl ⟨_,rfl,c3.vm HB.out _ _,kH qS (by omega) _ _⟩
theorem KI {n:Nat}:bl n=0 ↔ n=0:=⟨fun h=>by rcases bO n with h0 | h0;exact h0;exact absurd h (by have:=KH h0;omega),fun h=>by rw[h,vQ]⟩
def eK (z:Int):Int:=if z=0 then 0 else if z<0 then -1 else 1
theorem gZ (va:ay) (z:Int) (k:Nat) (w:an) (hx:GI w va z k) (hk:k<=1000000) :
  bf ax 51 #[va] w fun e w'=>e=.returned (.int .i64 (eK z))/\aC w.heap.size w w':=by
 obtain⟨b,ao,l,c,n,rfl,hg,rfl⟩:=hx.shape
 by_cases h0:n=0
 ·subst h0;have HB:=aa (show eK (sg b 0)=0 by cases b<;>simp[eK,sg]);have hz:(((bl 0:Nat):Int)==0)=true:=by rw[vQ];rfl
  go_enter Tryz.func51,Tryz.ntmps51
  go_wp2_with fail
  refine (BY (hg.alloc _) hk).mono ?_;rintro e w3 ⟨rfl,rfl⟩;go_wp2_with fail
  go_ret
  exact⟨by rw[HB.out];rfl,(av _ _).alloc (ak _) _⟩
 have hz:(((bl n:Nat):Int)==0)=false:=by rw[beq_eq_false_iff_ne];have:=mt KI.1 h0;omega
 have hp:0<n:=by omega
 cases b
 ·have HB:=aa (show eK (sg false n)=1 by unfold eK sg;simp only[Bool.false_eq_true,if_false];rw[if_neg (by omega),if_neg (by omega)]);go_enter Tryz.func51,Tryz.ntmps51
  go_wp2_with fail
  refine (BY (hg.alloc _) hk).mono ?_;rintro e w3 ⟨rfl,rfl⟩;go_wp2_with fail
  go_ret
  exact⟨by rw[HB.out];rfl,(av _ _).alloc (ak _) _⟩
 have HB:=aa (show eK (sg true n) = -1 by unfold eK sg;simp only[if_true];rw[if_neg (by omega),if_pos (by omega)]);go_enter Tryz.func51,Tryz.ntmps51
 go_wp2_with fail
 refine (BY (hg.alloc _) hk).mono ?_;rintro e w3 ⟨rfl,rfl⟩;go_wp2_with fail
 go_ret
 exact⟨by rw[HB.out];rfl,(av _ _).alloc (ak _) _⟩
theorem Cc {va vb:ay} {m n k1 k2:Nat} {w:an} (hx:GN w va m k1) (hy:GN w vb n k2) (h1:k1<=1000000) (hle:n<=m) :
  bf ax 98 #[va,vb] w fun e w'=>∃ v,e=.returned (.tuple #[v,.bool true])/\Sl w' .u32 v (fx aH (m - n))/\aC w.heap.size w w':=by
 obtain⟨xs,hx,dx,rfl,lx⟩:=hx;obtain⟨ys,hy,dy,rfl,ly⟩:=hy;exact JH _ _ _ _ w hx hy dx dy (by omega) hle
theorem JF {va vb:ay} {m n k1 k2:Nat} {w:an} (hx:GN w va m k1) (hy:GN w vb n k2) (hlt:m<n) :
  bf ax 98 #[va,vb] w fun e w'=>e=.returned (.tuple #[.slice none 0 0,.bool false])/\aC w.heap.size w w':=by
 obtain⟨xs,hx,dx,rfl,lx⟩:=hx;obtain⟨ys,hy,dy,rfl,ly⟩:=hy;exact sub_lt _ _ _ _ w hx hy dx dy hlt
theorem eP {m k k':Nat} (h:m<aH ^ k) (hk:k<=k'):m<aH ^ k':=aK h (bU (by decide) hk)
theorem JN (b:Bool) (m n:Nat):sg b m+sg b n=sg b (m+n):=by
 cases b<;>simp[sg];omega
theorem GU {b d:Bool} (h:b≠d) {m n:Nat} (hle:n<=m):sg b m+sg d n=sg b (m - n):=by
 cases b<;>cases d<;>simp[sg] at *<;>omega
theorem GS {b d:Bool} (h:b≠d) {m n:Nat} (hle:m<=n):sg b m+sg d n=sg d (n - m):=by
 cases b<;>cases d<;>simp[sg] at *<;>omega
theorem sU (va vb:ay) (y z:Int) (k1 k2:Nat) (w:an) (hx:GI w va y k1) (hy:GI w vb z k2) (h1:k1<=1000000) (h2:k2<=1000000) :
  bf ax 47 #[va,vb] w fun e w'=>∃ v,e=.returned v/\CI w' v (y+z) (k1+k2+1)/\aC w.heap.size w w':=by
 obtain⟨b,ao,l,c,m,rfl,hg,rfl⟩:=hx.shape;obtain⟨d,po,pl,pc,n,rfl,eV,rfl⟩:=hy.shape;have TH:=hg.lt;have TG:=eV.lt;have hW:=B1 w (.cells #[.bool b,.slice ao l c] 26) (.cells #[.bool d,.slice po pl pc] 26) (.cells #[.bool false,.slice none 0 0] 26)
 by_cases hbd:b=d
 ·subst hbd;have hn:=wo TH TG;rw[JN];have heq:(b==b)=true:=by cases b<;>rfl
  go_enter Tryz.func47,Tryz.ntmps47
  go_wp2_with fail
  go_region_held3 (fun w'=>w'.cell? ⟨w.heap.size,0,none⟩=some (.bool b)/\w'.cell? ⟨w.heap.size,1,none⟩=some (.slice ao l c)/\w'.cell? ⟨w.heap.size+1,1,none⟩=some (.slice po pl pc))
   (first | exact⟨yf,ye,xj⟩ | exact⟨(BI (by omega)).trans yf,(BI (by omega)).trans ye,(BI (by omega)).trans xj⟩ | go_keep)
   (first
    | (go_at_call 97;refine (FH (((hg.alloc _).alloc _).alloc _).drew (((eV.alloc _).alloc _).alloc _).drew h1 h2).mono ?_;rintro e w2 ⟨v2,rfl,s2,cV⟩;have fA:=tF (aT (cV.mono (by simp)));have gu:=hW.trans (aT (cV.mono (by simp;omega)));clear cV;obtain⟨yf,ye,_,_⟩:=cf fA.1;obtain⟨yd,xj,_,_⟩:=cf fA.2.1)
    | (
      go_at_call 90;refine (dh _ v2 _ (k1+k2+1) w2 s2 hn).mono ?_;rintro e w3 ⟨v3,rfl,c3,jf⟩;obtain⟨bb,bo,bl,bc,rfl⟩:=c3.shape
      have sK:=(jf.block _ (ag fA.1)).trans fA.1;have nB:=(jf.block _ (ag fA.2.1)).trans fA.2.1;have rz:=(jf.block _ (ag fA.2.2)).trans fA.2.2;have qS:=gu.trans (jf.mono gu.size);clear jf fA gu yf ye yd xj
      obtain⟨yf,ye,_,_⟩:=cf sK;obtain⟨yd,xj,_,_⟩:=cf nB;obtain⟨q0,q1,f0,f1⟩:=cf rz;have HB:=aa rz;clear sK nB rz))
  go_wp2_with fail
  exact aB (v:=.agg #[.bool bb,.slice bo bl bc]) (by simp[results,Tryz.results47,go_sem,q0,q1]) rfl ⟨_,rfl,c3.vm HB.out _ _,kH qS (by omega) _ _⟩
 have heq:(b==d)=false:=by cases b<;>cases d<;>simp at hbd ⊢
 by_cases hle:n<=m
 ·have hn:m - n<aH ^ (k1+k2+1):=eP (k:=k1) (by omega) (by omega);rw[GU hbd hle];clear hbd;go_enter Tryz.func47,Tryz.ntmps47
  go_wp2_with fail
  refine (Cc (((hg.alloc _).alloc _).alloc _) (((eV.alloc _).alloc _).alloc _) h1 hle).mono ?_;rintro e w2 ⟨v2,rfl,s2,cV⟩;have fA:=tF (cV.mono (by simp));have gu:=hW.trans (cV.mono (by simp;omega));clear cV;obtain⟨yf,ye,_,_⟩:=cf fA.1;obtain⟨yd,xj,_,_⟩:=cf fA.2.1;have HK:=aa fA.2.2;clear fA;obtain⟨vo,vc,rfl⟩:=bR s2;go_wp2_with fail
  refine (dh _ _ _ (k1+k2+1) w2 s2 hn).mono ?_;rintro e w3 ⟨v3,rfl,c3,jf⟩;obtain⟨bb,bo,bl,bc,rfl⟩:=c3.shape;have rz:=(jf.block _ (ag HK.out)).trans HK.out;have qS:=gu.trans (jf.mono gu.size);clear jf gu yf ye yd xj;obtain⟨q0,q1,f0,f1⟩:=cf rz;have HB:=aa rz;clear rz;go_wp2_with fail
  exact aB (v:=.agg #[.bool bb,.slice bo bl bc]) (by simp[results,Tryz.results47,go_sem,q0,q1]) rfl ⟨_,rfl,c3.vm HB.out _ _,kH qS (by omega) _ _⟩
 have hn:n - m<aH ^ (k1+k2+1):=eP (k:=k2) (by omega) (by omega);have hlt:m<n:=by omega
 have Me:m<=n:=by omega
 rw[GS hbd Me];clear hbd hle;go_enter Tryz.func47,Tryz.ntmps47
 go_wp2_with fail
 refine (JF (((hg.alloc _).alloc _).alloc _) (((eV.alloc _).alloc _).alloc _) hlt).mono ?_;rintro e w2 ⟨rfl,cV⟩;have fA:=tF (cV.mono (by simp));have gu:=hW.trans (cV.mono (by simp;omega));clear cV;obtain⟨yf,ye,_,_⟩:=cf fA.1;obtain⟨yd,xj,_,_⟩:=cf fA.2.1;have HK:=aa fA;clear fA;go_wp2_with fail
 refine (Cc (eV.below gu) (hg.below gu) h2 Me).mono ?_;rintro e w4 ⟨v4,rfl,s4,rW⟩;have sK:=(rW.block _ (ag HK.out.1)).trans HK.out.1;have nB:=(rW.block _ (ag HK.out.2.1)).trans HK.out.2.1;have fA:=(rW.block _ (ag HK.out.2.2)).trans HK.out.2.2;have pW:=gu.trans (rW.mono gu.size);clear rW yf ye yd xj;obtain⟨yf,ye,_,_⟩:=cf sK;obtain⟨yd,xj,_,_⟩:=cf nB;have K1:=aa fA;clear sK nB fA;obtain⟨vo,vc,rfl⟩:=bR s4;go_wp2_with fail
 refine (dh _ _ _ (k1+k2+1) w4 s4 hn).mono ?_;rintro e w3 ⟨v3,rfl,c3,jf⟩;obtain⟨bb,bo,bl,bc,rfl⟩:=c3.shape;have rz:=(jf.block _ (ag K1.out)).trans K1.out;have qS:=pW.trans (jf.mono pW.size);clear jf pW gu yf ye yd xj;obtain⟨q0,q1,f0,f1⟩:=cf rz;have HB:=aa rz;clear rz;go_wp2_with fail
 exact aB (v:=.agg #[.bool bb,.slice bo bl bc]) (by simp[results,Tryz.results47,go_sem,q0,q1]) rfl ⟨_,rfl,c3.vm HB.out _ _,kH qS (by omega) _ _⟩
theorem GI.alloc {w:an} {v:ay} {z:Int} {k:Nat} (h:GI w v z k) (o:Obj):GI (w.alloc o) v z k:=h.below ((av _ _).alloc (ak _) _)
theorem MM {w:an} {va:ay} {n k:Nat} (h:GN w va n k) (b:Bool):GI w (.agg #[.bool b,va]) (sg b n) k:=⟨b,va,n,rfl,h,rfl⟩
theorem Lv (va vb:ay) (y z:Int) (k1 k2:Nat) (w:an) (hx:GI w va y k1) (hy:GI w vb z k2) (h1:k1<=1000000) (h2:k2<=1000000) :
  bf ax 79 #[va,vb] w fun e w'=>∃ v,e=.returned v/\CI w' v (y - z) (k1+k2+1)/\aC w.heap.size w w':=by
 obtain⟨b,ao,l,c,m,rfl,hg,rfl⟩:=hx.shape;obtain⟨d,po,pl,pc,n,rfl,eV,rfl⟩:=hy.shape;have hW:=B1 w (.cells #[.bool b,.slice ao l c] 26) (.cells #[.bool d,.slice po pl pc] 26) (.cells #[.bool false,.slice none 0 0] 26);rw[show sg b m - sg d n=sg b m+sg (!d) n by cases d<;>simp[sg]<;>omega];go_enter Tryz.func79,Tryz.ntmps79
 go_wp2_with fail
 refine (sU _ _ _ _ k1 k2 _ (((hx.alloc _).alloc _).alloc _) (MM (((eV.alloc _).alloc _).alloc _) (!d)) h1 h2).mono ?_;rintro e w3 ⟨v3,rfl,c3,jf⟩;obtain⟨bb,bo,bl,bc,rfl⟩:=c3.shape;have rz:=(tF (jf.mono (by simp))).2.2;have qS:=hW.trans (jf.mono (by simp;omega));clear jf;obtain⟨q0,q1,f0,f1⟩:=cf rz;have HB:=aa rz;clear rz;go_wp2_with fail
 exact aB (v:=.agg #[.bool bb,.slice bo bl bc]) (by simp[results,Tryz.results79,go_sem,q0,q1]) rfl ⟨_,rfl,c3.vm HB.out _ _,kH qS (by omega) _ _⟩
theorem AE (a b:Int) (w:an):bf ax 95 #[.int .i64 a,.int .i64 b] w fun e w'=>e=.returned (.int .i64 (eK (a - b)))/\w=w':=by
 have HN:∀ (x:Int) (w:an),bf ax 143 #[.int .i64 x] w fun e w'=>e=.returned (.bool false)/\w=w':=by
  intro x w;go_enter Tryz.func143,Tryz.ntmps143
  go_wp2
  go_ret
  exact⟨by simp,rfl⟩
 rcases Int.lt_trichotomy a b with h | h | h
 ·have HS:=aa (show eK (a - b) = -1 by unfold eK;rw[if_neg (by omega),if_pos (by omega)]);have H:=aa HN;clear HN;go_enter Tryz.func95,Tryz.ntmps95
  go_wp2_with fail
  refine (H.out a _).mono ?_;rintro e w' ⟨rfl,rfl⟩;go_wp2_with fail
  refine (H.out b _).mono ?_;rintro e w' ⟨rfl,rfl⟩;go_wp2_with fail
  go_ret
  exact⟨by rw[HS.out];rfl,rfl⟩
 ·subst h;have HS:=aa (show eK (a - a)=0 by unfold eK;rw[if_pos (by omega)]);have H:=aa HN;clear HN;go_enter Tryz.func95,Tryz.ntmps95
  go_wp2_with fail
  refine (H.out a _).mono ?_;rintro e w' ⟨rfl,rfl⟩;go_wp2_with fail
  refine (H.out a _).mono ?_;rintro e w' ⟨rfl,rfl⟩;go_wp2_with fail
  go_ret
  exact⟨by rw[HS.out];rfl,rfl⟩
 have HS:=aa (show eK (a - b)=1 by unfold eK;rw[if_neg (by omega),if_neg (by omega)]);have H:=aa HN;clear HN;have h':¬ a<b:=by omega
 go_enter Tryz.func95,Tryz.ntmps95
 go_wp2_with fail
 refine (H.out a _).mono ?_;rintro e w' ⟨rfl,rfl⟩;go_wp2_with fail
 refine (H.out b _).mono ?_;rintro e w' ⟨rfl,rfl⟩;go_wp2_with fail
 go_ret
 exact⟨by rw[HS.out];rfl,rfl⟩
theorem LK (n:Nat) (z:Int) (w:an) (hz:z=(n:Int)) (hn:n<18446744073709551616) :
  bf ax 91 #[.int .u64 z] w fun e w'=>∃ v,e=.returned v/\Sl w' .u32 v (fx aH n)/\n<aH ^ 2/\aC w.heap.size w w':=
 (Bi n z w hz hn).mono fun _ _ ⟨v,he,hs,hb⟩=>⟨v,he,hs,Nat.lt_of_lt_of_eq hn (by decide),hb⟩
theorem pB (z:Int) (w:an) (h1 : -9223372036854775808<=z) (h2:z<=9223372036854775807) :
  bf ax 42 #[.int .i64 z] w fun e w'=>∃ v,e=.returned v/\CI w' v z 2/\aC w.heap.size w w':=by
 have hW:aC w.heap.size w (w.alloc (.cells #[.bool false,.slice none 0 0] 26)):=(av _ _).alloc (ak _) _
 by_cases hz:z<0
 ·have HZ:=aa (show sg true z.natAbs=z by simp[sg];omega);go_enter Tryz.func42,Tryz.ntmps42
  go_wp2_with fail
  refine (LK z.natAbs _ _ (by simp only[IntKind.wrap_u64];omega) (by omega)).mono ?_;rintro e w2 ⟨v2,rfl,s2,hn,cV⟩;have fA:=(cV.block w.heap.size (by simp)).trans (dc w _);have gu:=hW.trans (cV.mono (by simp));clear cV;obtain⟨vo,vc,rfl⟩:=bR s2;go_wp2_with fail
  refine (dh _ _ _ 2 w2 s2 hn).mono ?_;rintro e w3 ⟨v3,rfl,c3,jf⟩;obtain⟨bb,bo,bl,bc,rfl⟩:=c3.shape;have rz:=(jf.block _ (ag fA)).trans fA;have qS:=gu.trans (jf.mono gu.size);clear jf fA gu;obtain⟨q0,q1,f0,f1⟩:=cf rz;have HB:=aa rz;clear rz;rw[HZ.out] at c3;go_wp2_with fail
  exact aB (v:=.agg #[.bool bb,.slice bo bl bc]) (by simp[results,Tryz.results42,go_sem,q0,q1]) rfl ⟨_,rfl,c3.vm HB.out _ _,kH qS (by omega) _ _⟩
 have HZ:=aa (show sg false z.natAbs=z by simp[sg];omega);go_enter Tryz.func42,Tryz.ntmps42
 go_wp2_with fail
 refine (LK z.natAbs _ _ (by omega) (by omega)).mono ?_;rintro e w2 ⟨v2,rfl,s2,hn,cV⟩;have fA:=(cV.block w.heap.size (by simp)).trans (dc w _);have gu:=hW.trans (cV.mono (by simp));clear cV;obtain⟨vo,vc,rfl⟩:=bR s2;go_wp2_with fail
 refine (dh _ _ _ 2 w2 s2 hn).mono ?_;rintro e w3 ⟨v3,rfl,c3,jf⟩;obtain⟨bb,bo,bl,bc,rfl⟩:=c3.shape;have rz:=(jf.block _ (ag fA)).trans fA;have qS:=gu.trans (jf.mono gu.size);clear jf fA gu;obtain⟨q0,q1,f0,f1⟩:=cf rz;have HB:=aa rz;clear rz;rw[HZ.out] at c3;go_wp2_with fail
 exact aB (v:=.agg #[.bool bb,.slice bo bl bc]) (by simp[results,Tryz.results42,go_sem,q0,q1]) rfl ⟨_,rfl,c3.vm HB.out _ _,kH qS (by omega) _ _⟩
theorem Cg (z:Int) : -1<=eK z/\eK z<=1:=by unfold eK;split;omega;split<;>omega
theorem CZ {y z:Int} (h:eK y≠eK z):eK (eK y - eK z)=eK (y - z):=by
 unfold eK at h ⊢
 split at h<;>split at h<;>(try split at h)<;>(try split at h)<;>simp_all<;>first | omega | (rw[if_neg (by omega)];first | rw[if_pos (by omega)] | rw[if_neg (by omega)])
theorem CY {b d:Bool} {m n:Nat} (h:eK (sg b m)=eK (sg d n)):eK (sg b m)*mz m n=eK (sg b m - sg d n):=by
 unfold eK sg mz at *
 cases b<;>cases d<;>simp at h ⊢<;>(repeat' split at h)<;>(repeat' split)<;>first | rfl | omega
theorem vY (va vb:ay) (y z:Int) (k1 k2:Nat) (w:an) (hx:GI w va y k1) (hy:GI w vb z k2) (h1:k1<=1000000) (h2:k2<=1000000) :
  bf ax 45 #[va,vb] w fun e w'=>e=.returned (.int .i64 (eK (y - z)))/\aC w.heap.size w w':=by
 have Mk:=hx;have O':=hy;obtain⟨b,ao,l,c,m,rfl,hg,rfl⟩:=hx.shape;obtain⟨d,po,pl,pc,n,rfl,eV,rfl⟩:=hy.shape;have hW:=FD w (.cells #[.bool b,.slice ao l c] 26) (.cells #[.bool d,.slice po pl pc] 26)
 by_cases hs:eK (sg b m)=eK (sg d n)
 ·have HE:=aa (CY hs);have HS:=aa hs;have T8:=Cg (sg b m);have qz:=Cg (sg b m - sg d n);have hne:(eK (sg d n) != eK (sg d n))=false:=by simp
  clear hs;go_enter Tryz.func45,Tryz.ntmps45
  go_wp2_with fail
  refine (gZ _ _ k1 _ ((Mk.alloc _).alloc _) h1).mono ?_;rintro e w2 ⟨rfl,cV⟩;have fA:=zj (cV.mono (by simp));have gu:=hW.trans (cV.mono (by simp;omega));clear cV;obtain⟨yf,ye,_,_⟩:=cf fA.1;obtain⟨yd,xj,_,_⟩:=cf fA.2;have HK:=aa fA;clear fA;rw[HS.out];go_wp2_with fail
  refine (gZ _ _ k2 _ (O'.below gu) h2).mono ?_;rintro e w4 ⟨rfl,rW⟩;have sK:=(rW.block _ (ag HK.out.1)).trans HK.out.1;have nB:=(rW.block _ (ag HK.out.2)).trans HK.out.2;have pW:=gu.trans (rW.mono gu.size);clear rW yf ye yd xj;obtain⟨yf,ye,_,_⟩:=cf sK;obtain⟨yd,xj,_,_⟩:=cf nB;have St:=aa sK;have WY:=aa nB;clear sK nB;go_wp2_with fail
  refine (M0 (hg.below pW) (eV.below pW)).mono ?_;rintro e w5 ⟨rfl,uh⟩;have Km:=pW.trans (uh.mono pW.size);have HP:=aa (show eK (sg d n)*mz m n=eK (sg b m - sg d n) by rw[<-HS.out];exact HE.out);have p1 : -9223372036854775808<=eK (sg d n)*mz m n:=by rw[HP.out];omega
  have p2:eK (sg d n)*mz m n<=9223372036854775807:=by rw[HP.out];omega
  clear uh;go_wp2_with fail
  go_ret
  exact⟨by rw[<-HP.out];rfl,Km⟩
 have HD:=aa (CZ hs);have hne:(eK (sg b m) != eK (sg d n))=true:=by rw[bne_iff_ne];exact hs
 clear hs;go_enter Tryz.func45,Tryz.ntmps45
 go_wp2_with fail
 refine (gZ _ _ k1 _ ((Mk.alloc _).alloc _) h1).mono ?_;rintro e w2 ⟨rfl,cV⟩;have fA:=zj (cV.mono (by simp));have gu:=hW.trans (cV.mono (by simp;omega));clear cV;obtain⟨yd,xj,_,_⟩:=cf fA.2;have HK:=aa fA.2;clear fA;go_wp2_with fail
 refine (gZ _ _ k2 _ (O'.below gu) h2).mono ?_;rintro e w4 ⟨rfl,rW⟩;have nB:=(rW.block _ (ag HK.out)).trans HK.out;have pW:=gu.trans (rW.mono gu.size);clear rW yd xj;obtain⟨yd,xj,_,_⟩:=cf nB;clear nB;go_wp2_with fail
 refine (gZ _ _ k2 _ (O'.below pW) h2).mono ?_;rintro e w5 ⟨rfl,uh⟩;have Km:=pW.trans (uh.mono pW.size);clear uh yd xj;go_wp2_with fail
 refine (AE _ _ _).mono ?_;rintro e w6 ⟨rfl,rfl⟩;rw[HD.out];go_wp2_with fail
 go_ret
 exact⟨rfl,Km⟩
def oQ (z:Int):List UInt8:=if z<0 then 45::bh z.natAbs else bh z.natAbs
theorem M3 (l:List UInt8):((⟨#[45]⟩:ByteArray)++(⟨l.toArray⟩:ByteArray))=⟨(45::l).toArray⟩:=by
 apply ByteArray.ext
 simp[ByteArray.data_append]
theorem Im {n k:Nat} (h:n<aH ^ k) (hk:k<=10000):(bh n).length<=100001:=by
 have h1:aH ^ k<=10 ^ (10*k):=by rw[Nat.pow_mul];exact Nat.pow_le_pow_left (by decide) _
 have:=oE (k:=10*k+1) (aK h (aq h1 (bU (by decide) (by omega)))) (by omega)
 omega
theorem xN (va : ay) (z : Int) (k : Nat) (w : an) (htab : oP ax w "internal/strconv.uint64pow10" .u64 rR) (hx : GI w va z k) (hk : k ≤ 10000) :
  bf ax 101 #[va] w fun e w'=>e=.returned (.string ⟨(oQ z).toArray⟩)/\aC w.heap.size w w':=by
 have Mk:=hx;obtain⟨b,ao,l,c,n,rfl,hg,rfl⟩:=hx.shape;have hW:aC w.heap.size w (w.alloc (.cells #[.bool b,.slice ao l c] 26)):=(av _ _).alloc (ak _) _;have Mm:=hg;obtain⟨xs,hs,dx,rfl,lx⟩:=Mm;have HN:=aa (tV b (val aH xs));have Ph:=Im hg.lt hk
 by_cases hz:sg b (val aH xs)<0
 ·have HS:=aa (show eK (sg b (val aH xs)) = -1 by unfold eK;rw[if_neg (by omega),if_pos hz]);have HT:=aa (show oQ (sg b (val aH xs))=45::bh (val aH xs) by unfold oQ;rw[if_pos hz,HN.out]);clear hz;go_enter Tryz.func101,Tryz.ntmps101
  go_wp2_with fail
  refine (gZ _ _ k _ (Mk.alloc _) (by omega)).mono ?_;rintro e w2 ⟨rfl,cV⟩;have fA:=(cV.block w.heap.size (by simp)).trans (dc w _);have gu:=hW.trans (cV.mono (by simp));clear cV;obtain⟨yf,ye,_,_⟩:=cf fA;clear fA;rw[HS.out];go_wp2_with fail
  refine (zO _ xs w2 (rh htab gu) (hs.below gu) dx (by omega)).mono ?_;rintro e w4 ⟨rfl,rW⟩;have pW:=gu.trans (rW.mono gu.size);go_wp2_with fail
  go_ret
  exact⟨by rw[HT.out,<-M3];rfl,pW⟩
 have HS:=aa (show (0:Int)<=eK (sg b (val aH xs)) by unfold eK;rw[if_neg hz];split<;>omega);have HT:=aa (show oQ (sg b (val aH xs))=bh (val aH xs) by unfold oQ;rw[if_neg hz,HN.out]);clear hz;have h0:=HS.out;go_enter Tryz.func101,Tryz.ntmps101
 go_wp2_with fail
 refine (gZ _ _ k _ (Mk.alloc _) (by omega)).mono ?_;rintro e w2 ⟨rfl,cV⟩;have fA:=(cV.block w.heap.size (by simp)).trans (dc w _);have gu:=hW.trans (cV.mono (by simp));clear cV;obtain⟨yf,ye,_,_⟩:=cf fA;clear fA;go_wp2_with fail
 refine (zO _ xs w2 (rh htab gu) (hs.below gu) dx (by omega)).mono ?_;rintro e w4 ⟨rfl,rW⟩;have pW:=gu.trans (rW.mono gu.size);go_wp2_with fail
 go_ret
 exact⟨by rw[HT.out];rfl,pW⟩
theorem yt {va vb:ay} {m n k1 k2:Nat} {w:an} (hx:GN w va m k1) (hy:GN w vb n k2) (h1:k1<=900000) (h0:0<n) :
  bf ax 111 #[va,vb] w fun e w'=>∃ q r,e=.returned (.tuple #[q,r,.bool true])/\Sl w' .u32 q (fx aH (m / n))/\Sl w' .u32 r (fx aH (m % n))/\aC w.heap.size w w':=MZ hx hy h1 h0
theorem JM {b d:Bool} {m n:Nat} (hn:0<n) (h:b=d\/m % n=0):Int.fdiv (sg b m) (sg d n)=sg (b != d) (m / n)/\Int.fmod (sg b m) (sg d n)=sg d (m % n):=by
 have hd:=nW m n;have hl:=di m hn;generalize m / n=q at *;generalize m % n=r at *;have TU:(n:Int)*q+r=m:=by exact_mod_cast hd
 cases d
 ·have hp:sg false n > 0:=by simp[sg];omega
  refine (Int.fdiv_fmod_unique hp).2 ?_
  cases b<;>simp[sg,Int.mul_neg] at *<;>(try subst h)<;>omega
 have hp:sg true n<0:=by simp[sg];omega
 refine (Int.fdiv_fmod_unique' hp).2 ?_
 cases b<;>simp[sg,Int.neg_mul,Int.mul_neg] at *<;>(try subst h)<;>omega
theorem GV {b d:Bool} {m n:Nat} (hn:0<n) (h:b≠d) (hr:0<m % n):Int.fdiv (sg b m) (sg d n)=sg (b != d) (m / n+1)/\Int.fmod (sg b m) (sg d n)=sg d (n - m % n):=by
 have hd:=nW m n;have hl:=di m hn;generalize m / n=q at *;generalize m % n=r at *;have TU:(n:Int)*q+r=m:=by exact_mod_cast hd
 cases d
 ·have hp:sg false n > 0:=by simp[sg];omega
  refine (Int.fdiv_fmod_unique hp).2 ?_
  cases b<;>simp[sg,Int.mul_neg,Int.mul_add] at *<;>omega
 have hp:sg true n<0:=by simp[sg];omega
 refine (Int.fdiv_fmod_unique' hp).2 ?_
 cases b<;>simp[sg,Int.neg_mul,Int.mul_neg,Int.mul_add] at *<;>omega
theorem A6 (b d s:Bool) (ao po:Option Addr) (l c pl pc m n k1 k2:Nat) (w:an) (hg:GN w (.slice ao l c) m k1) (eV:GN w (.slice po pl pc) n k2) (h1:k1<=900000) (h0:0<n) (hs:s=(b != d)) (h:b=d\/m % n=0) :
  bf ax 63 #[.agg #[.bool b,.slice ao l c],.agg #[.bool d,.slice po pl pc]] w fun e w'=>∃ q r,e=.returned (.tuple #[q,r,.bool true])/\CI w' q (sg s (m / n)) (k1+3)/\CI w' r (sg d (m % n)) k2/\aC w.heap.size w w':=by
 have Gd:m / n<aH ^ (k1+3):=eP (k:=k1) (o7 (Nat.div_le_self _ _) hg.lt) (by omega);have Gc:m % n<aH ^ k2:=uG (di _ h0) eV.lt
 cases b<;>cases d
 ·obtain rfl:s=false:=hs;clear h;have ct:=av w.heap.size w;go_enter Tryz.func63,Tryz.ntmps63
  go_wp2_with fail
  have de:aC w.heap.size w ((((w.alloc (.cells #[.bool false,.slice ao l c] 26)).alloc (.cells #[.bool false,.slice po pl pc] 26)).alloc (.cells #[.bool false,.slice none 0 0] 26)).alloc (.cells #[.bool false,.slice none 0 0] 26)):=(((((av _ _).alloc (by simp) _).alloc (by simp) _).alloc (by simp;omega) _).alloc (by simp;omega) _)
  replace hg:=hg.below de;replace eV:=eV.below de;replace ct:=ct.trans (de.mono ct.size);clear de;have bg:Hid (((((w.alloc (.cells #[.bool false,.slice ao l c] 26)).alloc (.cells #[.bool false,.slice po pl pc] 26)).alloc (.cells #[.bool false,.slice none 0 0] 26)).alloc (.cells #[.bool false,.slice none 0 0] 26)).heap[w.heap.size]?=some (.cells #[.bool false,.slice ao l c] 26 (0,0))):=aa (bQ (bQ (bQ (cy w (.cells #[.bool false,.slice ao l c] 26) _ (by first | rfl | simp)) _) _) _)
  have aZ:Hid (((((w.alloc (.cells #[.bool false,.slice ao l c] 26)).alloc (.cells #[.bool false,.slice po pl pc] 26)).alloc (.cells #[.bool false,.slice none 0 0] 26)).alloc (.cells #[.bool false,.slice none 0 0] 26)).heap[w.heap.size+1]?=some (.cells #[.bool false,.slice po pl pc] 26 (0,0))):=aa (bQ (bQ (cy (w.alloc (.cells #[.bool false,.slice ao l c] 26)) (.cells #[.bool false,.slice po pl pc] 26) _ (by first | rfl | simp)) _) _)
  have ck:Hid (((((w.alloc (.cells #[.bool false,.slice ao l c] 26)).alloc (.cells #[.bool false,.slice po pl pc] 26)).alloc (.cells #[.bool false,.slice none 0 0] 26)).alloc (.cells #[.bool false,.slice none 0 0] 26)).heap[w.heap.size+2]?=some (.cells #[.bool false,.slice none 0 0] 26 (0,0))):=aa (bQ (cy ((w.alloc (.cells #[.bool false,.slice ao l c] 26)).alloc (.cells #[.bool false,.slice po pl pc] 26)) (.cells #[.bool false,.slice none 0 0] 26) _ (by first | rfl | simp)) _)
  have cj:Hid (((((w.alloc (.cells #[.bool false,.slice ao l c] 26)).alloc (.cells #[.bool false,.slice po pl pc] 26)).alloc (.cells #[.bool false,.slice none 0 0] 26)).alloc (.cells #[.bool false,.slice none 0 0] 26)).heap[w.heap.size+3]?=some (.cells #[.bool false,.slice none 0 0] 26 (0,0))):=aa (cy (((w.alloc (.cells #[.bool false,.slice ao l c] 26)).alloc (.cells #[.bool false,.slice po pl pc] 26)).alloc (.cells #[.bool false,.slice none 0 0] 26)) (.cells #[.bool false,.slice none 0 0] 26) _ (by first | rfl | simp));generalize ((((w.alloc (.cells #[.bool false,.slice ao l c] 26)).alloc (.cells #[.bool false,.slice po pl pc] 26)).alloc (.cells #[.bool false,.slice none 0 0] 26)).alloc (.cells #[.bool false,.slice none 0 0] 26))=wx1 at *;have vW:=ae (v:=.bool false) bg.out 0 rfl;have vU:=ae (v:=.slice ao l c) bg.out 1 rfl
  have vT:=ae (v:=.bool false) aZ.out 0 rfl;have vS:=ae (v:=.slice po pl pc) aZ.out 1 rfl;have q0:=ae (v:=.bool false) ck.out 0 rfl;have q1:=ae (v:=.slice none 0 0) ck.out 1 rfl;have r0:=ae (v:=.bool false) cj.out 0 rfl;have r1:=ae (v:=.slice none 0 0) cj.out 1 rfl;refine (yt hg eV h1 h0).mono ?_;rintro e Lu ⟨vq,vr,rfl,sq,sr,de⟩;replace hg:=hg.below de;replace eV:=eV.below de;replace ct:=ct.trans (de.mono ct.size);replace bg:=aa ((de.block _ (ag bg.out)).trans bg.out);replace aZ:=aa ((de.block _ (ag aZ.out)).trans aZ.out);replace ck:=aa ((de.block _ (ag ck.out)).trans ck.out);replace cj:=aa ((de.block _ (ag cj.out)).trans cj.out);clear de;replace vW:=ae (v:=.bool false) bg.out 0 rfl
  replace vU:=ae (v:=.slice ao l c) bg.out 1 rfl;replace vT:=ae (v:=.bool false) aZ.out 0 rfl;replace vS:=ae (v:=.slice po pl pc) aZ.out 1 rfl;replace q0:=ae (v:=.bool false) ck.out 0 rfl;replace q1:=ae (v:=.slice none 0 0) ck.out 1 rfl;replace r0:=ae (v:=.bool false) cj.out 0 rfl;replace r1:=ae (v:=.slice none 0 0) cj.out 1 rfl;obtain⟨qo,qc,rfl⟩:=bR sq;obtain⟨ro,rc,rfl⟩:=bR sr;go_wp2_with fail
  have gJ:=ag bg.out;have fc:=ag aZ.out;have kK:=ag ck.out;have lS:=ag cj.out;have kU:=ct.size
  refine aO.region (by kernel_rfl) [[],[0],[],[2],[0,1,2,3],[],[0,1,2,3,4,5],[],[7],[],[0,1,2,3,4,5,6,7,8,9],[0,1,2,3,4,5,6,7,8,9,10],[0,1,2,3,4,5,6,7,8,9,10,11],[0,1,2,3,4,5,6,7,8,9,10,11,12]] [] [(11,1000),(12,1001)] (fun q=>[w.heap.size+2,w.heap.size+3].getD q 0) 2 14 (by kernel_rfl) (by kernel_rfl) (fun q hq=>by match q,hq with | 0,_=>exact kK | 1,_=>exact lS) (fun q r hq hr hne=>by match q,r,hq,hr,hne with | 0,0,_,_,h=>exact absurd rfl h | 0,1,_,_,h=>exact (by show w.heap.size+2≠w.heap.size+3;omega) | 1,0,_,_,h=>exact (by show w.heap.size+3≠w.heap.size+2;omega) | 1,1,_,_,h=>exact absurd rfl h) ?_;refine aO.az.bT ?_ (by rfl) (fun T xs wr hA=>?_) ?_
  rotate_left 1
  ·have e2:=hA.pre 2 (by kernel_rfl);simp only[eY,fD,fm] at e2;clear hA;refine⟨(by rfl),?_⟩;go_simp<;>(try with_reducible rfl)
  refine aO.az.bT ?_ (by rfl) (fun T xs wr hA=>?_) ?_
  rotate_left 1
  ·have uA:=hA.tm 0 43 (by rfl) (by rfl);have f43:xs 0=_:=hA.fa 0 (by rfl)
   (try simp (disch:=rfl) only [aO.ai] at f43)
   rw[f43] at uA;clear f43;have aP:wr.heap[w.heap.size]?=_:=(hA.bl _ gJ (fun q hq=>by match q,hq with | 0,_=>exact (by show w.heap.size+2≠w.heap.size;omega) | 1,_=>exact (by show w.heap.size+3≠w.heap.size;omega))).trans bg.out;have q0:=ae (v:=.bool false) aP 0 rfl;have q1:=ae (v:=.slice ao l c) aP 1 rfl;clear aP;clear hA;refine⟨(by rfl),?_⟩;go_simp<;>(try with_reducible rfl)
  refine aO.az.bT ?_ (by rfl) (fun T xs wr hA=>?_) ?_
  rotate_left 1
  ·have e3:=hA.pre 3 (by kernel_rfl);simp only[eY,fD,fm] at e3;clear hA;refine⟨(by rfl),?_⟩;go_simp<;>(try with_reducible rfl)
  refine aO.az.bT ?_ (by rfl) (fun T xs wr hA=>?_) ?_
  rotate_left 1
  ·have vf:=hA.tm 2 45 (by rfl) (by rfl);have f45:xs 2=_:=hA.fa 2 (by rfl)
   (try simp (disch:=rfl) only [aO.ai] at f45)
   rw[f45] at vf;clear f45;have aP:wr.heap[w.heap.size+1]?=_:=(hA.bl _ fc (fun q hq=>by match q,hq with | 0,_=>exact (by show w.heap.size+2≠w.heap.size+1;omega) | 1,_=>exact (by show w.heap.size+3≠w.heap.size+1;omega))).trans aZ.out;have q0:=ae (v:=.bool false) aP 0 rfl;have q1:=ae (v:=.slice po pl pc) aP 1 rfl;clear aP;clear hA;refine⟨(by rfl),?_⟩;go_simp<;>(try with_reducible rfl)
  refine aO.az.bT ?_ (by rfl) (fun T xs wr hA=>?_) ?_
  rotate_left 1
  ·have uz:=hA.tm 1 44 (by rfl) (by rfl);have f44:xs 1=_:=hA.fa 1 (by rfl)
   (try simp (disch:=rfl) only [aO.ai] at f44)
   rw[f44] at uz;clear f44;have tR:=hA.tm 3 46 (by rfl) (by rfl);have f46:xs 3=_:=hA.fa 3 (by rfl)
   (try simp (disch:=rfl) only [aO.ai] at f46)
   rw[f46] at tR;clear f46;clear hA;refine⟨(by rfl),?_⟩;go_simp<;>(try with_reducible rfl)
  refine aO.az.bT ?_ (by rfl) (fun T xs wr hA=>?_) ?_
  rotate_left 1
  ·have e7:=hA.pre 7 (by kernel_rfl);simp only[eY,fD,fm] at e7;clear hA;refine⟨(by rfl),?_⟩;go_simp<;>(try with_reducible rfl)
  refine aO.az.call (fun _ v w=>CI w v (sg false (m / n)) (k1+3)) (fun _ _ _ _ h hb=>h.below hb) (fun _ _ _ _ _ h hp=>h.keeps hp.keeps) (by rfl) (fun T xs wr hA=>?_) ?_
  ·have u_:=hA.tm 4 47 (by rfl) (by rfl);have f47:xs 4=_:=hA.fa 4 (by rfl)
   (try simp (disch:=rfl) only [aO.ai] at f47)
   rw[f47] at u_;clear f47;have Dp:=hA.tm 5 48 (by rfl) (by rfl);have f48:xs 5=_:=hA.fa 5 (by rfl)
   (try simp (disch:=rfl) only [aO.ai] at f48)
   rw[f48] at Dp;clear f48;have hkp:=gO hA.kp;have wG:=ct.trans (aT (hA.be w.heap.size kU (fun q hq=>by match q,hq with | 0,_=>exact (by show w.heap.size<=w.heap.size+2;omega) | 1,_=>exact (by show w.heap.size<=w.heap.size+3;omega))));have sq:=sq.keeps hkp;clear hA;refine⟨(by rfl),fun K hK=>?_⟩;go_simp
   refine (dh false (.slice qo _ qc) (m / n) (k1+3) _ sq Gd).mono ?_;rintro e wq ⟨v,rfl,c,hb⟩;exact hK.out _ _ c hb
  refine aO.az.bT ?_ (by rfl) (fun T xs wr hA=>?_) ?_
  rotate_left 1
  ·have e3:=hA.pre 3 (by kernel_rfl);simp only[eY,fD,fm] at e3;clear hA;refine⟨(by rfl),?_⟩;go_simp<;>(try with_reducible rfl)
  refine aO.az.bT ?_ (by rfl) (fun T xs wr hA=>?_) ?_
  rotate_left 1
  ·have BM:=hA.tm 7 50 (by rfl) (by rfl);have f50:xs 7=_:=hA.fa 7 (by rfl)
   (try simp (disch:=rfl) only [aO.ai] at f50)
   rw[f50] at BM;clear f50;have aP:wr.heap[w.heap.size+1]?=_:=(hA.bl _ fc (fun q hq=>by match q,hq with | 0,_=>exact (by show w.heap.size+2≠w.heap.size+1;omega) | 1,_=>exact (by show w.heap.size+3≠w.heap.size+1;omega))).trans aZ.out;have q0:=ae (v:=.bool false) aP 0 rfl;have q1:=ae (v:=.slice po pl pc) aP 1 rfl;clear aP;clear hA;refine⟨(by rfl),?_⟩;go_simp<;>(try with_reducible rfl)
  refine aO.az.bT ?_ (by rfl) (fun T xs wr hA=>?_) ?_
  rotate_left 1
  ·have e8:=hA.pre 8 (by kernel_rfl);simp only[eY,fD,fm] at e8;clear hA;refine⟨(by rfl),?_⟩;go_simp<;>(try with_reducible rfl)
  refine aO.az.call (fun _ v w=>CI w v (sg false (m % n)) k2) (fun _ _ _ _ h hb=>h.below hb) (fun _ _ _ _ _ h hp=>h.keeps hp.keeps) (by rfl) (fun T xs wr hA=>?_) ?_
  ·have BK:=hA.tm 8 51 (by rfl) (by rfl);have f51:xs 8=_:=hA.fa 8 (by rfl)
   (try simp (disch:=rfl) only [aO.ai] at f51)
   rw[f51] at BK;clear f51;have BJ:=hA.tm 9 52 (by rfl) (by rfl);have f52:xs 9=_:=hA.fa 9 (by rfl)
   (try simp (disch:=rfl) only [aO.ai] at f52)
   rw[f52] at BJ;clear f52;have hkp:=gO hA.kp;have wG:=ct.trans (aT (hA.be w.heap.size kU (fun q hq=>by match q,hq with | 0,_=>exact (by show w.heap.size<=w.heap.size+2;omega) | 1,_=>exact (by show w.heap.size<=w.heap.size+3;omega))));have sr:=sr.keeps hkp;clear hA;refine⟨(by rfl),fun K hK=>?_⟩;go_simp
   refine (dh false (.slice ro _ rc) (m % n) k2 _ sr Gc).mono ?_;rintro e wq ⟨v,rfl,c,hb⟩;exact hK.out _ _ c hb
  refine aO.az.iY 0 6 26 (by rfl) (by rfl) (by decide) (aO.jJ (by rfl)) (fun T xs wr hA qV=>?_) ?_
  ·have e4:=hA.pre 4 (by kernel_rfl);simp only[eY,fD,fm] at e4;have hB:wr.heap[w.heap.size+2]?=_:=qV.trans ck.out;clear qV;have Dn:=hA.tm 6 49 (by rfl) (by rfl);have hc:CI wr (xs 6) (sg false (m / n)) (k1+3):=hA.fa 6 (by rfl);obtain⟨FE,Eu,EF,EH,hv⟩:=hc.shape;clear hc;rw[hv] at Dn;have z0:=ae hB 0 rfl;have z1:=ae hB 1 rfl;have qY:=af hB 0;have qX:=af hB 1;clear hA;refine⟨(by rfl),fun K hK=>?_⟩;go_simp
   exact hK.out _ _ hv (qm hB _ _) (qh hB (by rfl) (by rfl))
  refine aO.az.iY 1 10 26 (by rfl) (by rfl) (by decide) (aO.jJ (by rfl)) (fun T xs wr hA qV=>?_) ?_
  ·have e5:=hA.pre 5 (by kernel_rfl);simp only[eY,fD,fm] at e5;have hB:wr.heap[w.heap.size+3]?=_:=qV.trans cj.out;clear qV;have qA:=hA.tm 10 53 (by rfl) (by rfl);have hc:CI wr (xs 10) (sg false (m % n)) k2:=hA.fa 10 (by rfl);obtain⟨FE,Eu,EF,EH,hv⟩:=hc.shape;clear hc;rw[hv] at qA;have z0:=ae hB 0 rfl;have z1:=ae hB 1 rfl;have qY:=af hB 0;have qX:=af hB 1;clear hA;refine⟨(by rfl),fun K hK=>?_⟩;go_simp
   exact hK.out _ _ hv (qm hB _ _) (qh hB (by rfl) (by rfl))
  refine aO.az.bT ?_ (by rfl) (fun T xs wr hA=>?_) ?_
  rotate_left 1
  ·clear hA;refine⟨(by rfl),?_⟩;go_simp<;>(try with_reducible rfl)
  refine aO.az.done (fun xs xw hL=>?_);obtain⟨⟨ei,cG,gK⟩,hf,hp,hn⟩:=hL;have f0:xs 0=_:=hf 0 (by decide)
  (try simp (disch:=rfl) only [aO.ai] at f0)
  have f1:xs 1=_:=hf 1 (by decide)
  (try simp (disch:=rfl) only [aO.ai] at f1)
  have f2:xs 2=_:=hf 2 (by decide)
  (try simp (disch:=rfl) only [aO.ai] at f2)
  have f3:xs 3=_:=hf 3 (by decide)
  (try simp (disch:=rfl) only [aO.ai] at f3)
  have f4:xs 4=_:=hf 4 (by decide)
  (try simp (disch:=rfl) only [aO.ai] at f4)
  have f5:xs 5=_:=hf 5 (by decide)
  (try simp (disch:=rfl) only [aO.ai] at f5)
  have ng:CI xw (xs 6) (sg false (m / n)) (k1+3):=hf 6 (by decide);have f7:xs 7=_:=hf 7 (by decide)
  (try simp (disch:=rfl) only [aO.ai] at f7)
  have f8:xs 8=_:=hf 8 (by decide)
  (try simp (disch:=rfl) only [aO.ai] at f8)
  have f9:xs 9=_:=hf 9 (by decide)
  (try simp (disch:=rfl) only [aO.ai] at f9)
  have nf:CI xw (xs 10) (sg false (m % n)) k2:=hf 10 (by decide);obtain⟨cc,hv,qU⟩:=hf 11 (by decide);change xs 6=_ at hv;obtain⟨ni,mQ,mS,mU,ie⟩:=ng.shape;rw[ie] at hv;injection hv with hv;subst hv;obtain⟨cc,hv,qT⟩:=hf 12 (by decide);change xs 10=_ at hv;obtain⟨nh,mP,mR,mT,h_⟩:=nf.shape;rw[h_] at hv;injection hv with hv;subst hv;have f13:xs 13=_:=hf 13 (by decide)
  (try simp (disch:=rfl) only [aO.ai] at f13)
  clear hf hp hn;refine aO.gg ?_;rw[ie] at ng;rw[h_] at nf;simp only[aO.fill,eC,iy,gI,f0,f1,f2,f3,f4,f5,f7,f8,f9,f13,ie,h_];clear f0 f1 f2 f3 f4 f5 f7 f8 f9 f13 ie h_;clear xs;replace gK:=gO gK;replace hg:=hg.keeps gK;replace eV:=eV.keeps gK;replace sq:=sq.keeps gK;replace sr:=sr.keeps gK;replace ct:=ct.trans (aT (ei w.heap.size kU (fun q hq=>by match q,hq with | 0,_=>exact (by show w.heap.size<=w.heap.size+2;omega) | 1,_=>exact (by show w.heap.size<=w.heap.size+3;omega))));replace bg:=aa ((cG _ gJ (fun q hq=>by match q,hq with | 0,_=>exact (by show w.heap.size+2≠w.heap.size;omega) | 1,_=>exact (by show w.heap.size+3≠w.heap.size;omega))).trans bg.out)
  replace aZ:=aa ((cG _ fc (fun q hq=>by match q,hq with | 0,_=>exact (by show w.heap.size+2≠w.heap.size+1;omega) | 1,_=>exact (by show w.heap.size+3≠w.heap.size+1;omega))).trans aZ.out);replace ck:=aa (show xw.heap[w.heap.size+2]?=some (.cells #[.bool ni,.slice mQ mS mU] 26 (0,0)) from qU);clear qU;replace cj:=aa (show xw.heap[w.heap.size+3]?=some (.cells #[.bool nh,.slice mP mR mT] 26 (0,0)) from qT);clear qT;clear gK ei cG kU;replace vW:=ae (v:=.bool false) bg.out 0 rfl;replace vU:=ae (v:=.slice ao l c) bg.out 1 rfl;replace vT:=ae (v:=.bool false) aZ.out 0 rfl;replace vS:=ae (v:=.slice po pl pc) aZ.out 1 rfl;replace q0:=ae (v:=.bool ni) ck.out 0 rfl;replace q1:=ae (v:=.slice mQ mS mU) ck.out 1 rfl
  replace r0:=ae (v:=.bool nh) cj.out 0 rfl;replace r1:=ae (v:=.slice mP mR mT) cj.out 1 rfl;clear gJ fc kK lS;go_wp2_with fail
  exact aB (v:=.tuple #[.agg #[.bool ni,.slice mQ mS mU],.agg #[.bool nh,.slice mP mR mT],.bool true]) (by simp[results,lQ,go_sem,q0,q1,r0,r1]) rfl ⟨_,_,rfl,ng,nf,ct⟩
 ·obtain rfl:s=true:=hs
  have By:(fx aH (m % n)).length<=0:=by
   rcases h with h | h
   ·cases h
   rw[h,fe];exact ak _
  clear h;have ct:=av w.heap.size w;go_enter Tryz.func63,Tryz.ntmps63
  go_wp2_with fail
  have de:aC w.heap.size w ((((w.alloc (.cells #[.bool false,.slice ao l c] 26)).alloc (.cells #[.bool true,.slice po pl pc] 26)).alloc (.cells #[.bool false,.slice none 0 0] 26)).alloc (.cells #[.bool false,.slice none 0 0] 26)):=(((((av _ _).alloc (by simp) _).alloc (by simp) _).alloc (by simp;omega) _).alloc (by simp;omega) _)
  replace hg:=hg.below de;replace eV:=eV.below de;replace ct:=ct.trans (de.mono ct.size);clear de;have bg:Hid (((((w.alloc (.cells #[.bool false,.slice ao l c] 26)).alloc (.cells #[.bool true,.slice po pl pc] 26)).alloc (.cells #[.bool false,.slice none 0 0] 26)).alloc (.cells #[.bool false,.slice none 0 0] 26)).heap[w.heap.size]?=some (.cells #[.bool false,.slice ao l c] 26 (0,0))):=aa (bQ (bQ (bQ (cy w (.cells #[.bool false,.slice ao l c] 26) _ (by first | rfl | simp)) _) _) _)
  have aZ:Hid (((((w.alloc (.cells #[.bool false,.slice ao l c] 26)).alloc (.cells #[.bool true,.slice po pl pc] 26)).alloc (.cells #[.bool false,.slice none 0 0] 26)).alloc (.cells #[.bool false,.slice none 0 0] 26)).heap[w.heap.size+1]?=some (.cells #[.bool true,.slice po pl pc] 26 (0,0))):=aa (bQ (bQ (cy (w.alloc (.cells #[.bool false,.slice ao l c] 26)) (.cells #[.bool true,.slice po pl pc] 26) _ (by first | rfl | simp)) _) _)
  have ck:Hid (((((w.alloc (.cells #[.bool false,.slice ao l c] 26)).alloc (.cells #[.bool true,.slice po pl pc] 26)).alloc (.cells #[.bool false,.slice none 0 0] 26)).alloc (.cells #[.bool false,.slice none 0 0] 26)).heap[w.heap.size+2]?=some (.cells #[.bool false,.slice none 0 0] 26 (0,0))):=aa (bQ (cy ((w.alloc (.cells #[.bool false,.slice ao l c] 26)).alloc (.cells #[.bool true,.slice po pl pc] 26)) (.cells #[.bool false,.slice none 0 0] 26) _ (by first | rfl | simp)) _)
  have cj:Hid (((((w.alloc (.cells #[.bool false,.slice ao l c] 26)).alloc (.cells #[.bool true,.slice po pl pc] 26)).alloc (.cells #[.bool false,.slice none 0 0] 26)).alloc (.cells #[.bool false,.slice none 0 0] 26)).heap[w.heap.size+3]?=some (.cells #[.bool false,.slice none 0 0] 26 (0,0))):=aa (cy (((w.alloc (.cells #[.bool false,.slice ao l c] 26)).alloc (.cells #[.bool true,.slice po pl pc] 26)).alloc (.cells #[.bool false,.slice none 0 0] 26)) (.cells #[.bool false,.slice none 0 0] 26) _ (by first | rfl | simp));generalize ((((w.alloc (.cells #[.bool false,.slice ao l c] 26)).alloc (.cells #[.bool true,.slice po pl pc] 26)).alloc (.cells #[.bool false,.slice none 0 0] 26)).alloc (.cells #[.bool false,.slice none 0 0] 26))=wx1 at *;have vW:=ae (v:=.bool false) bg.out 0 rfl;have vU:=ae (v:=.slice ao l c) bg.out 1 rfl
  have vT:=ae (v:=.bool true) aZ.out 0 rfl;have vS:=ae (v:=.slice po pl pc) aZ.out 1 rfl;have q0:=ae (v:=.bool false) ck.out 0 rfl;have q1:=ae (v:=.slice none 0 0) ck.out 1 rfl;have r0:=ae (v:=.bool false) cj.out 0 rfl;have r1:=ae (v:=.slice none 0 0) cj.out 1 rfl;refine (yt hg eV h1 h0).mono ?_;rintro e Lu ⟨vq,vr,rfl,sq,sr,de⟩;replace hg:=hg.below de;replace eV:=eV.below de;replace ct:=ct.trans (de.mono ct.size);replace bg:=aa ((de.block _ (ag bg.out)).trans bg.out);replace aZ:=aa ((de.block _ (ag aZ.out)).trans aZ.out);replace ck:=aa ((de.block _ (ag ck.out)).trans ck.out);replace cj:=aa ((de.block _ (ag cj.out)).trans cj.out);clear de;replace vW:=ae (v:=.bool false) bg.out 0 rfl
  replace vU:=ae (v:=.slice ao l c) bg.out 1 rfl;replace vT:=ae (v:=.bool true) aZ.out 0 rfl;replace vS:=ae (v:=.slice po pl pc) aZ.out 1 rfl;replace q0:=ae (v:=.bool false) ck.out 0 rfl;replace q1:=ae (v:=.slice none 0 0) ck.out 1 rfl;replace r0:=ae (v:=.bool false) cj.out 0 rfl;replace r1:=ae (v:=.slice none 0 0) cj.out 1 rfl;obtain⟨qo,qc,rfl⟩:=bR sq;obtain⟨ro,rc,rfl⟩:=bR sr;go_wp2_with fail
  have gJ:=ag bg.out;have fc:=ag aZ.out;have kK:=ag ck.out;have lS:=ag cj.out;have kU:=ct.size
  refine aO.region (by kernel_rfl) [[],[0],[],[2],[0,1,2,3],[],[0,1,2,3,4,5],[],[7],[],[0,1,2,3,4,5,6,7,8,9],[0,1,2,3,4,5,6,7,8,9,10],[0,1,2,3,4,5,6,7,8,9,10,11],[0,1,2,3,4,5,6,7,8,9,10,11,12]] [] [(11,1000),(12,1001)] (fun q=>[w.heap.size+2,w.heap.size+3].getD q 0) 2 14 (by kernel_rfl) (by kernel_rfl) (fun q hq=>by match q,hq with | 0,_=>exact kK | 1,_=>exact lS) (fun q r hq hr hne=>by match q,r,hq,hr,hne with | 0,0,_,_,h=>exact absurd rfl h | 0,1,_,_,h=>exact (by show w.heap.size+2≠w.heap.size+3;omega) | 1,0,_,_,h=>exact (by show w.heap.size+3≠w.heap.size+2;omega) | 1,1,_,_,h=>exact absurd rfl h) ?_;refine aO.az.bT ?_ (by rfl) (fun T xs wr hA=>?_) ?_
  rotate_left 1
  ·have e2:=hA.pre 2 (by kernel_rfl);simp only[eY,fD,fm] at e2;clear hA;refine⟨(by rfl),?_⟩;go_simp<;>(try with_reducible rfl)
  refine aO.az.bT ?_ (by rfl) (fun T xs wr hA=>?_) ?_
  rotate_left 1
  ·have uA:=hA.tm 0 43 (by rfl) (by rfl);have f43:xs 0=_:=hA.fa 0 (by rfl)
   (try simp (disch:=rfl) only [aO.ai] at f43)
   rw[f43] at uA;clear f43;have aP:wr.heap[w.heap.size]?=_:=(hA.bl _ gJ (fun q hq=>by match q,hq with | 0,_=>exact (by show w.heap.size+2≠w.heap.size;omega) | 1,_=>exact (by show w.heap.size+3≠w.heap.size;omega))).trans bg.out;have q0:=ae (v:=.bool false) aP 0 rfl;have q1:=ae (v:=.slice ao l c) aP 1 rfl;clear aP;clear hA;refine⟨(by rfl),?_⟩;go_simp<;>(try with_reducible rfl)
  refine aO.az.bT ?_ (by rfl) (fun T xs wr hA=>?_) ?_
  rotate_left 1
  ·have e3:=hA.pre 3 (by kernel_rfl);simp only[eY,fD,fm] at e3;clear hA;refine⟨(by rfl),?_⟩;go_simp<;>(try with_reducible rfl)
  refine aO.az.bT ?_ (by rfl) (fun T xs wr hA=>?_) ?_
  rotate_left 1
  ·have vf:=hA.tm 2 45 (by rfl) (by rfl);have f45:xs 2=_:=hA.fa 2 (by rfl)
   (try simp (disch:=rfl) only [aO.ai] at f45)
   rw[f45] at vf;clear f45;have aP:wr.heap[w.heap.size+1]?=_:=(hA.bl _ fc (fun q hq=>by match q,hq with | 0,_=>exact (by show w.heap.size+2≠w.heap.size+1;omega) | 1,_=>exact (by show w.heap.size+3≠w.heap.size+1;omega))).trans aZ.out;have q0:=ae (v:=.bool true) aP 0 rfl;have q1:=ae (v:=.slice po pl pc) aP 1 rfl;clear aP;clear hA;refine⟨(by rfl),?_⟩;go_simp<;>(try with_reducible rfl)
  refine aO.az.bT ?_ (by rfl) (fun T xs wr hA=>?_) ?_
  rotate_left 1
  ·have uz:=hA.tm 1 44 (by rfl) (by rfl);have f44:xs 1=_:=hA.fa 1 (by rfl)
   (try simp (disch:=rfl) only [aO.ai] at f44)
   rw[f44] at uz;clear f44;have tR:=hA.tm 3 46 (by rfl) (by rfl);have f46:xs 3=_:=hA.fa 3 (by rfl)
   (try simp (disch:=rfl) only [aO.ai] at f46)
   rw[f46] at tR;clear f46;clear hA;refine⟨(by rfl),?_⟩;go_simp<;>(try with_reducible rfl)
  refine aO.az.bT ?_ (by rfl) (fun T xs wr hA=>?_) ?_
  rotate_left 1
  ·have e7:=hA.pre 7 (by kernel_rfl);simp only[eY,fD,fm] at e7;clear hA;refine⟨(by rfl),?_⟩;go_simp<;>(try with_reducible rfl)
  refine aO.az.call (fun _ v w=>CI w v (sg true (m / n)) (k1+3)) (fun _ _ _ _ h hb=>h.below hb) (fun _ _ _ _ _ h hp=>h.keeps hp.keeps) (by rfl) (fun T xs wr hA=>?_) ?_
  ·have u_:=hA.tm 4 47 (by rfl) (by rfl);have f47:xs 4=_:=hA.fa 4 (by rfl)
   (try simp (disch:=rfl) only [aO.ai] at f47)
   rw[f47] at u_;clear f47;have Dp:=hA.tm 5 48 (by rfl) (by rfl);have f48:xs 5=_:=hA.fa 5 (by rfl)
   (try simp (disch:=rfl) only [aO.ai] at f48)
   rw[f48] at Dp;clear f48;have hkp:=gO hA.kp;have wG:=ct.trans (aT (hA.be w.heap.size kU (fun q hq=>by match q,hq with | 0,_=>exact (by show w.heap.size<=w.heap.size+2;omega) | 1,_=>exact (by show w.heap.size<=w.heap.size+3;omega))));have sq:=sq.keeps hkp;clear hA;refine⟨(by rfl),fun K hK=>?_⟩;go_simp
   refine (dh true (.slice qo _ qc) (m / n) (k1+3) _ sq Gd).mono ?_;rintro e wq ⟨v,rfl,c,hb⟩;exact hK.out _ _ c hb
  refine aO.az.bT ?_ (by rfl) (fun T xs wr hA=>?_) ?_
  rotate_left 1
  ·have e3:=hA.pre 3 (by kernel_rfl);simp only[eY,fD,fm] at e3;clear hA;refine⟨(by rfl),?_⟩;go_simp<;>(try with_reducible rfl)
  refine aO.az.bT ?_ (by rfl) (fun T xs wr hA=>?_) ?_
  rotate_left 1
  ·have BM:=hA.tm 7 50 (by rfl) (by rfl);have f50:xs 7=_:=hA.fa 7 (by rfl)
   (try simp (disch:=rfl) only [aO.ai] at f50)
   rw[f50] at BM;clear f50;have aP:wr.heap[w.heap.size+1]?=_:=(hA.bl _ fc (fun q hq=>by match q,hq with | 0,_=>exact (by show w.heap.size+2≠w.heap.size+1;omega) | 1,_=>exact (by show w.heap.size+3≠w.heap.size+1;omega))).trans aZ.out;have q0:=ae (v:=.bool true) aP 0 rfl;have q1:=ae (v:=.slice po pl pc) aP 1 rfl;clear aP;clear hA;refine⟨(by rfl),?_⟩;go_simp<;>(try with_reducible rfl)
  refine aO.az.bT ?_ (by rfl) (fun T xs wr hA=>?_) ?_
  rotate_left 1
  ·have e8:=hA.pre 8 (by kernel_rfl);simp only[eY,fD,fm] at e8;clear hA;refine⟨(by rfl),?_⟩;go_simp<;>(try with_reducible rfl)
  refine aO.az.call (fun _ v w=>CI w v (sg true (m % n)) k2) (fun _ _ _ _ h hb=>h.below hb) (fun _ _ _ _ _ h hp=>h.keeps hp.keeps) (by rfl) (fun T xs wr hA=>?_) ?_
  ·have BK:=hA.tm 8 51 (by rfl) (by rfl);have f51:xs 8=_:=hA.fa 8 (by rfl)
   (try simp (disch:=rfl) only [aO.ai] at f51)
   rw[f51] at BK;clear f51;have BJ:=hA.tm 9 52 (by rfl) (by rfl);have f52:xs 9=_:=hA.fa 9 (by rfl)
   (try simp (disch:=rfl) only [aO.ai] at f52)
   rw[f52] at BJ;clear f52;have hkp:=gO hA.kp;have wG:=ct.trans (aT (hA.be w.heap.size kU (fun q hq=>by match q,hq with | 0,_=>exact (by show w.heap.size<=w.heap.size+2;omega) | 1,_=>exact (by show w.heap.size<=w.heap.size+3;omega))));have sr:=sr.keeps hkp;clear hA;refine⟨(by rfl),fun K hK=>?_⟩;go_simp
   refine (dh true (.slice ro _ rc) (m % n) k2 _ sr Gc).mono ?_;rintro e wq ⟨v,rfl,c,hb⟩;exact hK.out _ _ c hb
  refine aO.az.iY 0 6 26 (by rfl) (by rfl) (by decide) (aO.jJ (by rfl)) (fun T xs wr hA qV=>?_) ?_
  ·have e4:=hA.pre 4 (by kernel_rfl);simp only[eY,fD,fm] at e4;have hB:wr.heap[w.heap.size+2]?=_:=qV.trans ck.out;clear qV;have Dn:=hA.tm 6 49 (by rfl) (by rfl);have hc:CI wr (xs 6) (sg true (m / n)) (k1+3):=hA.fa 6 (by rfl);obtain⟨FE,Eu,EF,EH,hv⟩:=hc.shape;clear hc;rw[hv] at Dn;have z0:=ae hB 0 rfl;have z1:=ae hB 1 rfl;have qY:=af hB 0;have qX:=af hB 1;clear hA;refine⟨(by rfl),fun K hK=>?_⟩;go_simp
   exact hK.out _ _ hv (qm hB _ _) (qh hB (by rfl) (by rfl))
  refine aO.az.iY 1 10 26 (by rfl) (by rfl) (by decide) (aO.jJ (by rfl)) (fun T xs wr hA qV=>?_) ?_
  ·have e5:=hA.pre 5 (by kernel_rfl);simp only[eY,fD,fm] at e5;have hB:wr.heap[w.heap.size+3]?=_:=qV.trans cj.out;clear qV;have qA:=hA.tm 10 53 (by rfl) (by rfl);have hc:CI wr (xs 10) (sg true (m % n)) k2:=hA.fa 10 (by rfl);obtain⟨FE,Eu,EF,EH,hv⟩:=hc.shape;clear hc;rw[hv] at qA;have z0:=ae hB 0 rfl;have z1:=ae hB 1 rfl;have qY:=af hB 0;have qX:=af hB 1;clear hA;refine⟨(by rfl),fun K hK=>?_⟩;go_simp
   exact hK.out _ _ hv (qm hB _ _) (qh hB (by rfl) (by rfl))
  refine aO.az.bT ?_ (by rfl) (fun T xs wr hA=>?_) ?_
  rotate_left 1
  ·clear hA;refine⟨(by rfl),?_⟩;go_simp<;>(try with_reducible rfl)
  refine aO.az.done (fun xs xw hL=>?_);obtain⟨⟨ei,cG,gK⟩,hf,hp,hn⟩:=hL;have f0:xs 0=_:=hf 0 (by decide)
  (try simp (disch:=rfl) only [aO.ai] at f0)
  have f1:xs 1=_:=hf 1 (by decide)
  (try simp (disch:=rfl) only [aO.ai] at f1)
  have f2:xs 2=_:=hf 2 (by decide)
  (try simp (disch:=rfl) only [aO.ai] at f2)
  have f3:xs 3=_:=hf 3 (by decide)
  (try simp (disch:=rfl) only [aO.ai] at f3)
  have f4:xs 4=_:=hf 4 (by decide)
  (try simp (disch:=rfl) only [aO.ai] at f4)
  have f5:xs 5=_:=hf 5 (by decide)
  (try simp (disch:=rfl) only [aO.ai] at f5)
  have ng:CI xw (xs 6) (sg true (m / n)) (k1+3):=hf 6 (by decide);have f7:xs 7=_:=hf 7 (by decide)
  (try simp (disch:=rfl) only [aO.ai] at f7)
  have f8:xs 8=_:=hf 8 (by decide)
  (try simp (disch:=rfl) only [aO.ai] at f8)
  have f9:xs 9=_:=hf 9 (by decide)
  (try simp (disch:=rfl) only [aO.ai] at f9)
  have nf:CI xw (xs 10) (sg true (m % n)) k2:=hf 10 (by decide);obtain⟨cc,hv,qU⟩:=hf 11 (by decide);change xs 6=_ at hv;obtain⟨ni,mQ,mS,mU,ie⟩:=ng.shape;rw[ie] at hv;injection hv with hv;subst hv;obtain⟨cc,hv,qT⟩:=hf 12 (by decide);change xs 10=_ at hv;obtain⟨nh,mP,mR,mT,h_⟩:=nf.shape;rw[h_] at hv;injection hv with hv;subst hv;have f13:xs 13=_:=hf 13 (by decide)
  (try simp (disch:=rfl) only [aO.ai] at f13)
  clear hf hp hn;refine aO.gg ?_;rw[ie] at ng;rw[h_] at nf;simp only[aO.fill,eC,iy,gI,f0,f1,f2,f3,f4,f5,f7,f8,f9,f13,ie,h_];clear f0 f1 f2 f3 f4 f5 f7 f8 f9 f13 ie h_;clear xs;replace gK:=gO gK;replace hg:=hg.keeps gK;replace eV:=eV.keeps gK;replace sq:=sq.keeps gK;replace sr:=sr.keeps gK;replace ct:=ct.trans (aT (ei w.heap.size kU (fun q hq=>by match q,hq with | 0,_=>exact (by show w.heap.size<=w.heap.size+2;omega) | 1,_=>exact (by show w.heap.size<=w.heap.size+3;omega))));replace bg:=aa ((cG _ gJ (fun q hq=>by match q,hq with | 0,_=>exact (by show w.heap.size+2≠w.heap.size;omega) | 1,_=>exact (by show w.heap.size+3≠w.heap.size;omega))).trans bg.out)
  replace aZ:=aa ((cG _ fc (fun q hq=>by match q,hq with | 0,_=>exact (by show w.heap.size+2≠w.heap.size+1;omega) | 1,_=>exact (by show w.heap.size+3≠w.heap.size+1;omega))).trans aZ.out);replace ck:=aa (show xw.heap[w.heap.size+2]?=some (.cells #[.bool ni,.slice mQ mS mU] 26 (0,0)) from qU);clear qU;replace cj:=aa (show xw.heap[w.heap.size+3]?=some (.cells #[.bool nh,.slice mP mR mT] 26 (0,0)) from qT);clear qT;clear gK ei cG kU;replace vW:=ae (v:=.bool false) bg.out 0 rfl;replace vU:=ae (v:=.slice ao l c) bg.out 1 rfl;replace vT:=ae (v:=.bool true) aZ.out 0 rfl;replace vS:=ae (v:=.slice po pl pc) aZ.out 1 rfl;replace q0:=ae (v:=.bool ni) ck.out 0 rfl;replace q1:=ae (v:=.slice mQ mS mU) ck.out 1 rfl
  replace r0:=ae (v:=.bool nh) cj.out 0 rfl;replace r1:=ae (v:=.slice mP mR mT) cj.out 1 rfl;clear gJ fc kK lS;go_wp2_with fail
  exact aB (v:=.tuple #[.agg #[.bool ni,.slice mQ mS mU],.agg #[.bool nh,.slice mP mR mT],.bool true]) (by simp[results,lQ,go_sem,q0,q1,r0,r1]) rfl ⟨_,_,rfl,ng,nf,ct⟩
 ·obtain rfl:s=true:=hs
  have By:(fx aH (m % n)).length<=0:=by
   rcases h with h | h
   ·cases h
   rw[h,fe];exact ak _
  clear h;have ct:=av w.heap.size w;go_enter Tryz.func63,Tryz.ntmps63
  go_wp2_with fail
  have de:aC w.heap.size w ((((w.alloc (.cells #[.bool true,.slice ao l c] 26)).alloc (.cells #[.bool false,.slice po pl pc] 26)).alloc (.cells #[.bool false,.slice none 0 0] 26)).alloc (.cells #[.bool false,.slice none 0 0] 26)):=(((((av _ _).alloc (by simp) _).alloc (by simp) _).alloc (by simp;omega) _).alloc (by simp;omega) _)
  replace hg:=hg.below de;replace eV:=eV.below de;replace ct:=ct.trans (de.mono ct.size);clear de;have bg:Hid (((((w.alloc (.cells #[.bool true,.slice ao l c] 26)).alloc (.cells #[.bool false,.slice po pl pc] 26)).alloc (.cells #[.bool false,.slice none 0 0] 26)).alloc (.cells #[.bool false,.slice none 0 0] 26)).heap[w.heap.size]?=some (.cells #[.bool true,.slice ao l c] 26 (0,0))):=aa (bQ (bQ (bQ (cy w (.cells #[.bool true,.slice ao l c] 26) _ (by first | rfl | simp)) _) _) _)
  have aZ:Hid (((((w.alloc (.cells #[.bool true,.slice ao l c] 26)).alloc (.cells #[.bool false,.slice po pl pc] 26)).alloc (.cells #[.bool false,.slice none 0 0] 26)).alloc (.cells #[.bool false,.slice none 0 0] 26)).heap[w.heap.size+1]?=some (.cells #[.bool false,.slice po pl pc] 26 (0,0))):=aa (bQ (bQ (cy (w.alloc (.cells #[.bool true,.slice ao l c] 26)) (.cells #[.bool false,.slice po pl pc] 26) _ (by first | rfl | simp)) _) _)
  have ck:Hid (((((w.alloc (.cells #[.bool true,.slice ao l c] 26)).alloc (.cells #[.bool false,.slice po pl pc] 26)).alloc (.cells #[.bool false,.slice none 0 0] 26)).alloc (.cells #[.bool false,.slice none 0 0] 26)).heap[w.heap.size+2]?=some (.cells #[.bool false,.slice none 0 0] 26 (0,0))):=aa (bQ (cy ((w.alloc (.cells #[.bool true,.slice ao l c] 26)).alloc (.cells #[.bool false,.slice po pl pc] 26)) (.cells #[.bool false,.slice none 0 0] 26) _ (by first | rfl | simp)) _)
  have cj:Hid (((((w.alloc (.cells #[.bool true,.slice ao l c] 26)).alloc (.cells #[.bool false,.slice po pl pc] 26)).alloc (.cells #[.bool false,.slice none 0 0] 26)).alloc (.cells #[.bool false,.slice none 0 0] 26)).heap[w.heap.size+3]?=some (.cells #[.bool false,.slice none 0 0] 26 (0,0))):=aa (cy (((w.alloc (.cells #[.bool true,.slice ao l c] 26)).alloc (.cells #[.bool false,.slice po pl pc] 26)).alloc (.cells #[.bool false,.slice none 0 0] 26)) (.cells #[.bool false,.slice none 0 0] 26) _ (by first | rfl | simp));generalize ((((w.alloc (.cells #[.bool true,.slice ao l c] 26)).alloc (.cells #[.bool false,.slice po pl pc] 26)).alloc (.cells #[.bool false,.slice none 0 0] 26)).alloc (.cells #[.bool false,.slice none 0 0] 26))=wx1 at *;have vW:=ae (v:=.bool true) bg.out 0 rfl;have vU:=ae (v:=.slice ao l c) bg.out 1 rfl
  have vT:=ae (v:=.bool false) aZ.out 0 rfl;have vS:=ae (v:=.slice po pl pc) aZ.out 1 rfl;have q0:=ae (v:=.bool false) ck.out 0 rfl;have q1:=ae (v:=.slice none 0 0) ck.out 1 rfl;have r0:=ae (v:=.bool false) cj.out 0 rfl;have r1:=ae (v:=.slice none 0 0) cj.out 1 rfl;refine (yt hg eV h1 h0).mono ?_;rintro e Lu ⟨vq,vr,rfl,sq,sr,de⟩;replace hg:=hg.below de;replace eV:=eV.below de;replace ct:=ct.trans (de.mono ct.size);replace bg:=aa ((de.block _ (ag bg.out)).trans bg.out);replace aZ:=aa ((de.block _ (ag aZ.out)).trans aZ.out);replace ck:=aa ((de.block _ (ag ck.out)).trans ck.out);replace cj:=aa ((de.block _ (ag cj.out)).trans cj.out);clear de;replace vW:=ae (v:=.bool true) bg.out 0 rfl
  replace vU:=ae (v:=.slice ao l c) bg.out 1 rfl;replace vT:=ae (v:=.bool false) aZ.out 0 rfl;replace vS:=ae (v:=.slice po pl pc) aZ.out 1 rfl;replace q0:=ae (v:=.bool false) ck.out 0 rfl;replace q1:=ae (v:=.slice none 0 0) ck.out 1 rfl;replace r0:=ae (v:=.bool false) cj.out 0 rfl;replace r1:=ae (v:=.slice none 0 0) cj.out 1 rfl;obtain⟨qo,qc,rfl⟩:=bR sq;obtain⟨ro,rc,rfl⟩:=bR sr;go_wp2_with fail
  have gJ:=ag bg.out;have fc:=ag aZ.out;have kK:=ag ck.out;have lS:=ag cj.out;have kU:=ct.size
  refine aO.region (by kernel_rfl) [[],[0],[],[2],[0,1,2,3],[],[0,1,2,3,4,5],[],[7],[],[0,1,2,3,4,5,6,7,8,9],[0,1,2,3,4,5,6,7,8,9,10],[0,1,2,3,4,5,6,7,8,9,10,11],[0,1,2,3,4,5,6,7,8,9,10,11,12]] [] [(11,1000),(12,1001)] (fun q=>[w.heap.size+2,w.heap.size+3].getD q 0) 2 14 (by kernel_rfl) (by kernel_rfl) (fun q hq=>by match q,hq with | 0,_=>exact kK | 1,_=>exact lS) (fun q r hq hr hne=>by match q,r,hq,hr,hne with | 0,0,_,_,h=>exact absurd rfl h | 0,1,_,_,h=>exact (by show w.heap.size+2≠w.heap.size+3;omega) | 1,0,_,_,h=>exact (by show w.heap.size+3≠w.heap.size+2;omega) | 1,1,_,_,h=>exact absurd rfl h) ?_;refine aO.az.bT ?_ (by rfl) (fun T xs wr hA=>?_) ?_
  rotate_left 1
  ·have e2:=hA.pre 2 (by kernel_rfl);simp only[eY,fD,fm] at e2;clear hA;refine⟨(by rfl),?_⟩;go_simp<;>(try with_reducible rfl)
  refine aO.az.bT ?_ (by rfl) (fun T xs wr hA=>?_) ?_
  rotate_left 1
  ·have uA:=hA.tm 0 43 (by rfl) (by rfl);have f43:xs 0=_:=hA.fa 0 (by rfl)
   (try simp (disch:=rfl) only [aO.ai] at f43)
   rw[f43] at uA;clear f43;have aP:wr.heap[w.heap.size]?=_:=(hA.bl _ gJ (fun q hq=>by match q,hq with | 0,_=>exact (by show w.heap.size+2≠w.heap.size;omega) | 1,_=>exact (by show w.heap.size+3≠w.heap.size;omega))).trans bg.out;have q0:=ae (v:=.bool true) aP 0 rfl;have q1:=ae (v:=.slice ao l c) aP 1 rfl;clear aP;clear hA;refine⟨(by rfl),?_⟩;go_simp<;>(try with_reducible rfl)
  refine aO.az.bT ?_ (by rfl) (fun T xs wr hA=>?_) ?_
  rotate_left 1
  ·have e3:=hA.pre 3 (by kernel_rfl);simp only[eY,fD,fm] at e3;clear hA;refine⟨(by rfl),?_⟩;go_simp<;>(try with_reducible rfl)
  refine aO.az.bT ?_ (by rfl) (fun T xs wr hA=>?_) ?_
  rotate_left 1
  ·have vf:=hA.tm 2 45 (by rfl) (by rfl);have f45:xs 2=_:=hA.fa 2 (by rfl)
   (try simp (disch:=rfl) only [aO.ai] at f45)
   rw[f45] at vf;clear f45;have aP:wr.heap[w.heap.size+1]?=_:=(hA.bl _ fc (fun q hq=>by match q,hq with | 0,_=>exact (by show w.heap.size+2≠w.heap.size+1;omega) | 1,_=>exact (by show w.heap.size+3≠w.heap.size+1;omega))).trans aZ.out;have q0:=ae (v:=.bool false) aP 0 rfl;have q1:=ae (v:=.slice po pl pc) aP 1 rfl;clear aP;clear hA;refine⟨(by rfl),?_⟩;go_simp<;>(try with_reducible rfl)
  refine aO.az.bT ?_ (by rfl) (fun T xs wr hA=>?_) ?_
  rotate_left 1
  ·have uz:=hA.tm 1 44 (by rfl) (by rfl);have f44:xs 1=_:=hA.fa 1 (by rfl)
   (try simp (disch:=rfl) only [aO.ai] at f44)
   rw[f44] at uz;clear f44;have tR:=hA.tm 3 46 (by rfl) (by rfl);have f46:xs 3=_:=hA.fa 3 (by rfl)
   (try simp (disch:=rfl) only [aO.ai] at f46)
   rw[f46] at tR;clear f46;clear hA;refine⟨(by rfl),?_⟩;go_simp<;>(try with_reducible rfl)
  refine aO.az.bT ?_ (by rfl) (fun T xs wr hA=>?_) ?_
  rotate_left 1
  ·have e7:=hA.pre 7 (by kernel_rfl);simp only[eY,fD,fm] at e7;clear hA;refine⟨(by rfl),?_⟩;go_simp<;>(try with_reducible rfl)
  refine aO.az.call (fun _ v w=>CI w v (sg true (m / n)) (k1+3)) (fun _ _ _ _ h hb=>h.below hb) (fun _ _ _ _ _ h hp=>h.keeps hp.keeps) (by rfl) (fun T xs wr hA=>?_) ?_
  ·have u_:=hA.tm 4 47 (by rfl) (by rfl);have f47:xs 4=_:=hA.fa 4 (by rfl)
   (try simp (disch:=rfl) only [aO.ai] at f47)
   rw[f47] at u_;clear f47;have Dp:=hA.tm 5 48 (by rfl) (by rfl);have f48:xs 5=_:=hA.fa 5 (by rfl)
   (try simp (disch:=rfl) only [aO.ai] at f48)
   rw[f48] at Dp;clear f48;have hkp:=gO hA.kp;have wG:=ct.trans (aT (hA.be w.heap.size kU (fun q hq=>by match q,hq with | 0,_=>exact (by show w.heap.size<=w.heap.size+2;omega) | 1,_=>exact (by show w.heap.size<=w.heap.size+3;omega))));have sq:=sq.keeps hkp;clear hA;refine⟨(by rfl),fun K hK=>?_⟩;go_simp
   refine (dh true (.slice qo _ qc) (m / n) (k1+3) _ sq Gd).mono ?_;rintro e wq ⟨v,rfl,c,hb⟩;exact hK.out _ _ c hb
  refine aO.az.bT ?_ (by rfl) (fun T xs wr hA=>?_) ?_
  rotate_left 1
  ·have e3:=hA.pre 3 (by kernel_rfl);simp only[eY,fD,fm] at e3;clear hA;refine⟨(by rfl),?_⟩;go_simp<;>(try with_reducible rfl)
  refine aO.az.bT ?_ (by rfl) (fun T xs wr hA=>?_) ?_
  rotate_left 1
  ·have BM:=hA.tm 7 50 (by rfl) (by rfl);have f50:xs 7=_:=hA.fa 7 (by rfl)
   (try simp (disch:=rfl) only [aO.ai] at f50)
   rw[f50] at BM;clear f50;have aP:wr.heap[w.heap.size+1]?=_:=(hA.bl _ fc (fun q hq=>by match q,hq with | 0,_=>exact (by show w.heap.size+2≠w.heap.size+1;omega) | 1,_=>exact (by show w.heap.size+3≠w.heap.size+1;omega))).trans aZ.out;have q0:=ae (v:=.bool false) aP 0 rfl;have q1:=ae (v:=.slice po pl pc) aP 1 rfl;clear aP;clear hA;refine⟨(by rfl),?_⟩;go_simp<;>(try with_reducible rfl)
  refine aO.az.bT ?_ (by rfl) (fun T xs wr hA=>?_) ?_
  rotate_left 1
  ·have e8:=hA.pre 8 (by kernel_rfl);simp only[eY,fD,fm] at e8;clear hA;refine⟨(by rfl),?_⟩;go_simp<;>(try with_reducible rfl)
  refine aO.az.call (fun _ v w=>CI w v (sg false (m % n)) k2) (fun _ _ _ _ h hb=>h.below hb) (fun _ _ _ _ _ h hp=>h.keeps hp.keeps) (by rfl) (fun T xs wr hA=>?_) ?_
  ·have BK:=hA.tm 8 51 (by rfl) (by rfl);have f51:xs 8=_:=hA.fa 8 (by rfl)
   (try simp (disch:=rfl) only [aO.ai] at f51)
   rw[f51] at BK;clear f51;have BJ:=hA.tm 9 52 (by rfl) (by rfl);have f52:xs 9=_:=hA.fa 9 (by rfl)
   (try simp (disch:=rfl) only [aO.ai] at f52)
   rw[f52] at BJ;clear f52;have hkp:=gO hA.kp;have wG:=ct.trans (aT (hA.be w.heap.size kU (fun q hq=>by match q,hq with | 0,_=>exact (by show w.heap.size<=w.heap.size+2;omega) | 1,_=>exact (by show w.heap.size<=w.heap.size+3;omega))));have sr:=sr.keeps hkp;clear hA;refine⟨(by rfl),fun K hK=>?_⟩;go_simp
   refine (dh false (.slice ro _ rc) (m % n) k2 _ sr Gc).mono ?_;rintro e wq ⟨v,rfl,c,hb⟩;exact hK.out _ _ c hb
  refine aO.az.iY 0 6 26 (by rfl) (by rfl) (by decide) (aO.jJ (by rfl)) (fun T xs wr hA qV=>?_) ?_
  ·have e4:=hA.pre 4 (by kernel_rfl);simp only[eY,fD,fm] at e4;have hB:wr.heap[w.heap.size+2]?=_:=qV.trans ck.out;clear qV;have Dn:=hA.tm 6 49 (by rfl) (by rfl);have hc:CI wr (xs 6) (sg true (m / n)) (k1+3):=hA.fa 6 (by rfl);obtain⟨FE,Eu,EF,EH,hv⟩:=hc.shape;clear hc;rw[hv] at Dn;have z0:=ae hB 0 rfl;have z1:=ae hB 1 rfl;have qY:=af hB 0;have qX:=af hB 1;clear hA;refine⟨(by rfl),fun K hK=>?_⟩;go_simp
   exact hK.out _ _ hv (qm hB _ _) (qh hB (by rfl) (by rfl))
  refine aO.az.iY 1 10 26 (by rfl) (by rfl) (by decide) (aO.jJ (by rfl)) (fun T xs wr hA qV=>?_) ?_
  ·have e5:=hA.pre 5 (by kernel_rfl);simp only[eY,fD,fm] at e5;have hB:wr.heap[w.heap.size+3]?=_:=qV.trans cj.out;clear qV;have qA:=hA.tm 10 53 (by rfl) (by rfl);have hc:CI wr (xs 10) (sg false (m % n)) k2:=hA.fa 10 (by rfl);obtain⟨FE,Eu,EF,EH,hv⟩:=hc.shape;clear hc;rw[hv] at qA;have z0:=ae hB 0 rfl;have z1:=ae hB 1 rfl;have qY:=af hB 0;have qX:=af hB 1;clear hA;refine⟨(by rfl),fun K hK=>?_⟩;go_simp
   exact hK.out _ _ hv (qm hB _ _) (qh hB (by rfl) (by rfl))
  refine aO.az.bT ?_ (by rfl) (fun T xs wr hA=>?_) ?_
  rotate_left 1
  ·clear hA;refine⟨(by rfl),?_⟩;go_simp<;>(try with_reducible rfl)
  refine aO.az.done (fun xs xw hL=>?_);obtain⟨⟨ei,cG,gK⟩,hf,hp,hn⟩:=hL;have f0:xs 0=_:=hf 0 (by decide)
  (try simp (disch:=rfl) only [aO.ai] at f0)
  have f1:xs 1=_:=hf 1 (by decide)
  (try simp (disch:=rfl) only [aO.ai] at f1)
  have f2:xs 2=_:=hf 2 (by decide)
  (try simp (disch:=rfl) only [aO.ai] at f2)
  have f3:xs 3=_:=hf 3 (by decide)
  (try simp (disch:=rfl) only [aO.ai] at f3)
  have f4:xs 4=_:=hf 4 (by decide)
  (try simp (disch:=rfl) only [aO.ai] at f4)
  have f5:xs 5=_:=hf 5 (by decide)
  (try simp (disch:=rfl) only [aO.ai] at f5)
  have ng:CI xw (xs 6) (sg true (m / n)) (k1+3):=hf 6 (by decide);have f7:xs 7=_:=hf 7 (by decide)
  (try simp (disch:=rfl) only [aO.ai] at f7)
  have f8:xs 8=_:=hf 8 (by decide)
  (try simp (disch:=rfl) only [aO.ai] at f8)
  have f9:xs 9=_:=hf 9 (by decide)
  (try simp (disch:=rfl) only [aO.ai] at f9)
  have nf:CI xw (xs 10) (sg false (m % n)) k2:=hf 10 (by decide);obtain⟨cc,hv,qU⟩:=hf 11 (by decide);change xs 6=_ at hv;obtain⟨ni,mQ,mS,mU,ie⟩:=ng.shape;rw[ie] at hv;injection hv with hv;subst hv;obtain⟨cc,hv,qT⟩:=hf 12 (by decide);change xs 10=_ at hv;obtain⟨nh,mP,mR,mT,h_⟩:=nf.shape;rw[h_] at hv;injection hv with hv;subst hv;have f13:xs 13=_:=hf 13 (by decide)
  (try simp (disch:=rfl) only [aO.ai] at f13)
  clear hf hp hn;refine aO.gg ?_;rw[ie] at ng;rw[h_] at nf;simp only[aO.fill,eC,iy,gI,f0,f1,f2,f3,f4,f5,f7,f8,f9,f13,ie,h_];clear f0 f1 f2 f3 f4 f5 f7 f8 f9 f13 ie h_;clear xs;replace gK:=gO gK;replace hg:=hg.keeps gK;replace eV:=eV.keeps gK;replace sq:=sq.keeps gK;replace sr:=sr.keeps gK;replace ct:=ct.trans (aT (ei w.heap.size kU (fun q hq=>by match q,hq with | 0,_=>exact (by show w.heap.size<=w.heap.size+2;omega) | 1,_=>exact (by show w.heap.size<=w.heap.size+3;omega))));replace bg:=aa ((cG _ gJ (fun q hq=>by match q,hq with | 0,_=>exact (by show w.heap.size+2≠w.heap.size;omega) | 1,_=>exact (by show w.heap.size+3≠w.heap.size;omega))).trans bg.out)
  replace aZ:=aa ((cG _ fc (fun q hq=>by match q,hq with | 0,_=>exact (by show w.heap.size+2≠w.heap.size+1;omega) | 1,_=>exact (by show w.heap.size+3≠w.heap.size+1;omega))).trans aZ.out);replace ck:=aa (show xw.heap[w.heap.size+2]?=some (.cells #[.bool ni,.slice mQ mS mU] 26 (0,0)) from qU);clear qU;replace cj:=aa (show xw.heap[w.heap.size+3]?=some (.cells #[.bool nh,.slice mP mR mT] 26 (0,0)) from qT);clear qT;clear gK ei cG kU;replace vW:=ae (v:=.bool true) bg.out 0 rfl;replace vU:=ae (v:=.slice ao l c) bg.out 1 rfl;replace vT:=ae (v:=.bool false) aZ.out 0 rfl;replace vS:=ae (v:=.slice po pl pc) aZ.out 1 rfl;replace q0:=ae (v:=.bool ni) ck.out 0 rfl;replace q1:=ae (v:=.slice mQ mS mU) ck.out 1 rfl
  replace r0:=ae (v:=.bool nh) cj.out 0 rfl;replace r1:=ae (v:=.slice mP mR mT) cj.out 1 rfl;clear gJ fc kK lS;go_wp2_with fail
  exact aB (v:=.tuple #[.agg #[.bool ni,.slice mQ mS mU],.agg #[.bool nh,.slice mP mR mT],.bool true]) (by simp[results,lQ,go_sem,q0,q1,r0,r1]) rfl ⟨_,_,rfl,ng,nf,ct⟩
 obtain rfl:s=false:=hs;clear h;have ct:=av w.heap.size w;go_enter Tryz.func63,Tryz.ntmps63
 go_wp2_with fail
 have de:aC w.heap.size w ((((w.alloc (.cells #[.bool true,.slice ao l c] 26)).alloc (.cells #[.bool true,.slice po pl pc] 26)).alloc (.cells #[.bool false,.slice none 0 0] 26)).alloc (.cells #[.bool false,.slice none 0 0] 26)):=(((((av _ _).alloc (by simp) _).alloc (by simp) _).alloc (by simp;omega) _).alloc (by simp;omega) _)
 replace hg:=hg.below de;replace eV:=eV.below de;replace ct:=ct.trans (de.mono ct.size);clear de;have bg:Hid (((((w.alloc (.cells #[.bool true,.slice ao l c] 26)).alloc (.cells #[.bool true,.slice po pl pc] 26)).alloc (.cells #[.bool false,.slice none 0 0] 26)).alloc (.cells #[.bool false,.slice none 0 0] 26)).heap[w.heap.size]?=some (.cells #[.bool true,.slice ao l c] 26 (0,0))):=aa (bQ (bQ (bQ (cy w (.cells #[.bool true,.slice ao l c] 26) _ (by first | rfl | simp)) _) _) _)
 have aZ:Hid (((((w.alloc (.cells #[.bool true,.slice ao l c] 26)).alloc (.cells #[.bool true,.slice po pl pc] 26)).alloc (.cells #[.bool false,.slice none 0 0] 26)).alloc (.cells #[.bool false,.slice none 0 0] 26)).heap[w.heap.size+1]?=some (.cells #[.bool true,.slice po pl pc] 26 (0,0))):=aa (bQ (bQ (cy (w.alloc (.cells #[.bool true,.slice ao l c] 26)) (.cells #[.bool true,.slice po pl pc] 26) _ (by first | rfl | simp)) _) _)
 have ck:Hid (((((w.alloc (.cells #[.bool true,.slice ao l c] 26)).alloc (.cells #[.bool true,.slice po pl pc] 26)).alloc (.cells #[.bool false,.slice none 0 0] 26)).alloc (.cells #[.bool false,.slice none 0 0] 26)).heap[w.heap.size+2]?=some (.cells #[.bool false,.slice none 0 0] 26 (0,0))):=aa (bQ (cy ((w.alloc (.cells #[.bool true,.slice ao l c] 26)).alloc (.cells #[.bool true,.slice po pl pc] 26)) (.cells #[.bool false,.slice none 0 0] 26) _ (by first | rfl | simp)) _)
 have cj:Hid (((((w.alloc (.cells #[.bool true,.slice ao l c] 26)).alloc (.cells #[.bool true,.slice po pl pc] 26)).alloc (.cells #[.bool false,.slice none 0 0] 26)).alloc (.cells #[.bool false,.slice none 0 0] 26)).heap[w.heap.size+3]?=some (.cells #[.bool false,.slice none 0 0] 26 (0,0))):=aa (cy (((w.alloc (.cells #[.bool true,.slice ao l c] 26)).alloc (.cells #[.bool true,.slice po pl pc] 26)).alloc (.cells #[.bool false,.slice none 0 0] 26)) (.cells #[.bool false,.slice none 0 0] 26) _ (by first | rfl | simp));generalize ((((w.alloc (.cells #[.bool true,.slice ao l c] 26)).alloc (.cells #[.bool true,.slice po pl pc] 26)).alloc (.cells #[.bool false,.slice none 0 0] 26)).alloc (.cells #[.bool false,.slice none 0 0] 26))=wx1 at *;have vW:=ae (v:=.bool true) bg.out 0 rfl;have vU:=ae (v:=.slice ao l c) bg.out 1 rfl
 have vT:=ae (v:=.bool true) aZ.out 0 rfl;have vS:=ae (v:=.slice po pl pc) aZ.out 1 rfl;have q0:=ae (v:=.bool false) ck.out 0 rfl;have q1:=ae (v:=.slice none 0 0) ck.out 1 rfl;have r0:=ae (v:=.bool false) cj.out 0 rfl;have r1:=ae (v:=.slice none 0 0) cj.out 1 rfl;refine (yt hg eV h1 h0).mono ?_;rintro e Lu ⟨vq,vr,rfl,sq,sr,de⟩;replace hg:=hg.below de;replace eV:=eV.below de;replace ct:=ct.trans (de.mono ct.size);replace bg:=aa ((de.block _ (ag bg.out)).trans bg.out);replace aZ:=aa ((de.block _ (ag aZ.out)).trans aZ.out);replace ck:=aa ((de.block _ (ag ck.out)).trans ck.out);replace cj:=aa ((de.block _ (ag cj.out)).trans cj.out);clear de;replace vW:=ae (v:=.bool true) bg.out 0 rfl
 replace vU:=ae (v:=.slice ao l c) bg.out 1 rfl;replace vT:=ae (v:=.bool true) aZ.out 0 rfl;replace vS:=ae (v:=.slice po pl pc) aZ.out 1 rfl;replace q0:=ae (v:=.bool false) ck.out 0 rfl;replace q1:=ae (v:=.slice none 0 0) ck.out 1 rfl;replace r0:=ae (v:=.bool false) cj.out 0 rfl;replace r1:=ae (v:=.slice none 0 0) cj.out 1 rfl;obtain⟨qo,qc,rfl⟩:=bR sq;obtain⟨ro,rc,rfl⟩:=bR sr;go_wp2_with fail
 have gJ:=ag bg.out;have fc:=ag aZ.out;have kK:=ag ck.out;have lS:=ag cj.out;have kU:=ct.size
 refine aO.region (by kernel_rfl) [[],[0],[],[2],[0,1,2,3],[],[0,1,2,3,4,5],[],[7],[],[0,1,2,3,4,5,6,7,8,9],[0,1,2,3,4,5,6,7,8,9,10],[0,1,2,3,4,5,6,7,8,9,10,11],[0,1,2,3,4,5,6,7,8,9,10,11,12]] [] [(11,1000),(12,1001)] (fun q=>[w.heap.size+2,w.heap.size+3].getD q 0) 2 14 (by kernel_rfl) (by kernel_rfl) (fun q hq=>by match q,hq with | 0,_=>exact kK | 1,_=>exact lS) (fun q r hq hr hne=>by match q,r,hq,hr,hne with | 0,0,_,_,h=>exact absurd rfl h | 0,1,_,_,h=>exact (by show w.heap.size+2≠w.heap.size+3;omega) | 1,0,_,_,h=>exact (by show w.heap.size+3≠w.heap.size+2;omega) | 1,1,_,_,h=>exact absurd rfl h) ?_;refine aO.az.bT ?_ (by rfl) (fun T xs wr hA=>?_) ?_
 rotate_left 1
 ·have e2:=hA.pre 2 (by kernel_rfl);simp only[eY,fD,fm] at e2;clear hA;refine⟨(by rfl),?_⟩;go_simp<;>(try with_reducible rfl)
 refine aO.az.bT ?_ (by rfl) (fun T xs wr hA=>?_) ?_
 rotate_left 1
 ·have uA:=hA.tm 0 43 (by rfl) (by rfl);have f43:xs 0=_:=hA.fa 0 (by rfl)
  (try simp (disch:=rfl) only [aO.ai] at f43)
  rw[f43] at uA;clear f43;have aP:wr.heap[w.heap.size]?=_:=(hA.bl _ gJ (fun q hq=>by match q,hq with | 0,_=>exact (by show w.heap.size+2≠w.heap.size;omega) | 1,_=>exact (by show w.heap.size+3≠w.heap.size;omega))).trans bg.out;have q0:=ae (v:=.bool true) aP 0 rfl;have q1:=ae (v:=.slice ao l c) aP 1 rfl;clear aP;clear hA;refine⟨(by rfl),?_⟩;go_simp<;>(try with_reducible rfl)
 refine aO.az.bT ?_ (by rfl) (fun T xs wr hA=>?_) ?_
 rotate_left 1
 ·have e3:=hA.pre 3 (by kernel_rfl);simp only[eY,fD,fm] at e3;clear hA;refine⟨(by rfl),?_⟩;go_simp<;>(try with_reducible rfl)
 refine aO.az.bT ?_ (by rfl) (fun T xs wr hA=>?_) ?_
 rotate_left 1
 ·have vf:=hA.tm 2 45 (by rfl) (by rfl);have f45:xs 2=_:=hA.fa 2 (by rfl)
  (try simp (disch:=rfl) only [aO.ai] at f45)
  rw[f45] at vf;clear f45;have aP:wr.heap[w.heap.size+1]?=_:=(hA.bl _ fc (fun q hq=>by match q,hq with | 0,_=>exact (by show w.heap.size+2≠w.heap.size+1;omega) | 1,_=>exact (by show w.heap.size+3≠w.heap.size+1;omega))).trans aZ.out;have q0:=ae (v:=.bool true) aP 0 rfl;have q1:=ae (v:=.slice po pl pc) aP 1 rfl;clear aP;clear hA;refine⟨(by rfl),?_⟩;go_simp<;>(try with_reducible rfl)
 refine aO.az.bT ?_ (by rfl) (fun T xs wr hA=>?_) ?_
 rotate_left 1
 ·have uz:=hA.tm 1 44 (by rfl) (by rfl);have f44:xs 1=_:=hA.fa 1 (by rfl)
  (try simp (disch:=rfl) only [aO.ai] at f44)
  rw[f44] at uz;clear f44;have tR:=hA.tm 3 46 (by rfl) (by rfl);have f46:xs 3=_:=hA.fa 3 (by rfl)
  (try simp (disch:=rfl) only [aO.ai] at f46)
  rw[f46] at tR;clear f46;clear hA;refine⟨(by rfl),?_⟩;go_simp<;>(try with_reducible rfl)
 refine aO.az.bT ?_ (by rfl) (fun T xs wr hA=>?_) ?_
 rotate_left 1
 ·have e7:=hA.pre 7 (by kernel_rfl);simp only[eY,fD,fm] at e7;clear hA;refine⟨(by rfl),?_⟩;go_simp<;>(try with_reducible rfl)
 refine aO.az.call (fun _ v w=>CI w v (sg false (m / n)) (k1+3)) (fun _ _ _ _ h hb=>h.below hb) (fun _ _ _ _ _ h hp=>h.keeps hp.keeps) (by rfl) (fun T xs wr hA=>?_) ?_
 ·have u_:=hA.tm 4 47 (by rfl) (by rfl);have f47:xs 4=_:=hA.fa 4 (by rfl)
  (try simp (disch:=rfl) only [aO.ai] at f47)
  rw[f47] at u_;clear f47;have Dp:=hA.tm 5 48 (by rfl) (by rfl);have f48:xs 5=_:=hA.fa 5 (by rfl)
  (try simp (disch:=rfl) only [aO.ai] at f48)
  rw[f48] at Dp;clear f48;have hkp:=gO hA.kp;have wG:=ct.trans (aT (hA.be w.heap.size kU (fun q hq=>by match q,hq with | 0,_=>exact (by show w.heap.size<=w.heap.size+2;omega) | 1,_=>exact (by show w.heap.size<=w.heap.size+3;omega))));have sq:=sq.keeps hkp;clear hA;refine⟨(by rfl),fun K hK=>?_⟩;go_simp
  refine (dh false (.slice qo _ qc) (m / n) (k1+3) _ sq Gd).mono ?_;rintro e wq ⟨v,rfl,c,hb⟩;exact hK.out _ _ c hb
 refine aO.az.bT ?_ (by rfl) (fun T xs wr hA=>?_) ?_
 rotate_left 1
 ·have e3:=hA.pre 3 (by kernel_rfl);simp only[eY,fD,fm] at e3;clear hA;refine⟨(by rfl),?_⟩;go_simp<;>(try with_reducible rfl)
 refine aO.az.bT ?_ (by rfl) (fun T xs wr hA=>?_) ?_
 rotate_left 1
 ·have BM:=hA.tm 7 50 (by rfl) (by rfl);have f50:xs 7=_:=hA.fa 7 (by rfl)
  (try simp (disch:=rfl) only [aO.ai] at f50)
  rw[f50] at BM;clear f50;have aP:wr.heap[w.heap.size+1]?=_:=(hA.bl _ fc (fun q hq=>by match q,hq with | 0,_=>exact (by show w.heap.size+2≠w.heap.size+1;omega) | 1,_=>exact (by show w.heap.size+3≠w.heap.size+1;omega))).trans aZ.out;have q0:=ae (v:=.bool true) aP 0 rfl;have q1:=ae (v:=.slice po pl pc) aP 1 rfl;clear aP;clear hA;refine⟨(by rfl),?_⟩;go_simp<;>(try with_reducible rfl)
 refine aO.az.bT ?_ (by rfl) (fun T xs wr hA=>?_) ?_
 rotate_left 1
 ·have e8:=hA.pre 8 (by kernel_rfl);simp only[eY,fD,fm] at e8;clear hA;refine⟨(by rfl),?_⟩;go_simp<;>(try with_reducible rfl)
 refine aO.az.call (fun _ v w=>CI w v (sg true (m % n)) k2) (fun _ _ _ _ h hb=>h.below hb) (fun _ _ _ _ _ h hp=>h.keeps hp.keeps) (by rfl) (fun T xs wr hA=>?_) ?_
 ·have BK:=hA.tm 8 51 (by rfl) (by rfl);have f51:xs 8=_:=hA.fa 8 (by rfl)
  (try simp (disch:=rfl) only [aO.ai] at f51)
  rw[f51] at BK;clear f51;have BJ:=hA.tm 9 52 (by rfl) (by rfl);have f52:xs 9=_:=hA.fa 9 (by rfl)
  (try simp (disch:=rfl) only [aO.ai] at f52)
  rw[f52] at BJ;clear f52;have hkp:=gO hA.kp;have wG:=ct.trans (aT (hA.be w.heap.size kU (fun q hq=>by match q,hq with | 0,_=>exact (by show w.heap.size<=w.heap.size+2;omega) | 1,_=>exact (by show w.heap.size<=w.heap.size+3;omega))));have sr:=sr.keeps hkp;clear hA;refine⟨(by rfl),fun K hK=>?_⟩;go_simp
  refine (dh true (.slice ro _ rc) (m % n) k2 _ sr Gc).mono ?_;rintro e wq ⟨v,rfl,c,hb⟩;exact hK.out _ _ c hb
 refine aO.az.iY 0 6 26 (by rfl) (by rfl) (by decide) (aO.jJ (by rfl)) (fun T xs wr hA qV=>?_) ?_
 ·have e4:=hA.pre 4 (by kernel_rfl);simp only[eY,fD,fm] at e4;have hB:wr.heap[w.heap.size+2]?=_:=qV.trans ck.out;clear qV;have Dn:=hA.tm 6 49 (by rfl) (by rfl);have hc:CI wr (xs 6) (sg false (m / n)) (k1+3):=hA.fa 6 (by rfl);obtain⟨FE,Eu,EF,EH,hv⟩:=hc.shape;clear hc;rw[hv] at Dn;have z0:=ae hB 0 rfl;have z1:=ae hB 1 rfl;have qY:=af hB 0;have qX:=af hB 1;clear hA;refine⟨(by rfl),fun K hK=>?_⟩;go_simp
  exact hK.out _ _ hv (qm hB _ _) (qh hB (by rfl) (by rfl))
 refine aO.az.iY 1 10 26 (by rfl) (by rfl) (by decide) (aO.jJ (by rfl)) (fun T xs wr hA qV=>?_) ?_
 ·have e5:=hA.pre 5 (by kernel_rfl);simp only[eY,fD,fm] at e5;have hB:wr.heap[w.heap.size+3]?=_:=qV.trans cj.out;clear qV;have qA:=hA.tm 10 53 (by rfl) (by rfl);have hc:CI wr (xs 10) (sg true (m % n)) k2:=hA.fa 10 (by rfl);obtain⟨FE,Eu,EF,EH,hv⟩:=hc.shape;clear hc;rw[hv] at qA;have z0:=ae hB 0 rfl;have z1:=ae hB 1 rfl;have qY:=af hB 0;have qX:=af hB 1;clear hA;refine⟨(by rfl),fun K hK=>?_⟩;go_simp
  exact hK.out _ _ hv (qm hB _ _) (qh hB (by rfl) (by rfl))
 refine aO.az.bT ?_ (by rfl) (fun T xs wr hA=>?_) ?_
 rotate_left 1
 ·clear hA;refine⟨(by rfl),?_⟩;go_simp<;>(try with_reducible rfl)
 refine aO.az.done (fun xs xw hL=>?_);obtain⟨⟨ei,cG,gK⟩,hf,hp,hn⟩:=hL;have f0:xs 0=_:=hf 0 (by decide)
 (try simp (disch:=rfl) only [aO.ai] at f0)
 have f1:xs 1=_:=hf 1 (by decide)
 (try simp (disch:=rfl) only [aO.ai] at f1)
 have f2:xs 2=_:=hf 2 (by decide)
 (try simp (disch:=rfl) only [aO.ai] at f2)
 have f3:xs 3=_:=hf 3 (by decide)
 (try simp (disch:=rfl) only [aO.ai] at f3)
 have f4:xs 4=_:=hf 4 (by decide)
 (try simp (disch:=rfl) only [aO.ai] at f4)
 have f5:xs 5=_:=hf 5 (by decide)
 (try simp (disch:=rfl) only [aO.ai] at f5)
 have ng:CI xw (xs 6) (sg false (m / n)) (k1+3):=hf 6 (by decide);have f7:xs 7=_:=hf 7 (by decide)
 (try simp (disch:=rfl) only [aO.ai] at f7)
 have f8:xs 8=_:=hf 8 (by decide)
 (try simp (disch:=rfl) only [aO.ai] at f8)
 have f9:xs 9=_:=hf 9 (by decide)
 (try simp (disch:=rfl) only [aO.ai] at f9)
 have nf:CI xw (xs 10) (sg true (m % n)) k2:=hf 10 (by decide);obtain⟨cc,hv,qU⟩:=hf 11 (by decide);change xs 6=_ at hv;obtain⟨ni,mQ,mS,mU,ie⟩:=ng.shape;rw[ie] at hv;injection hv with hv;subst hv;obtain⟨cc,hv,qT⟩:=hf 12 (by decide);change xs 10=_ at hv;obtain⟨nh,mP,mR,mT,h_⟩:=nf.shape;rw[h_] at hv;injection hv with hv;subst hv;have f13:xs 13=_:=hf 13 (by decide)
 (try simp (disch:=rfl) only [aO.ai] at f13)
 clear hf hp hn;refine aO.gg ?_;rw[ie] at ng;rw[h_] at nf;simp only[aO.fill,eC,iy,gI,f0,f1,f2,f3,f4,f5,f7,f8,f9,f13,ie,h_];clear f0 f1 f2 f3 f4 f5 f7 f8 f9 f13 ie h_;clear xs;replace gK:=gO gK;replace hg:=hg.keeps gK;replace eV:=eV.keeps gK;replace sq:=sq.keeps gK;replace sr:=sr.keeps gK;replace ct:=ct.trans (aT (ei w.heap.size kU (fun q hq=>by match q,hq with | 0,_=>exact (by show w.heap.size<=w.heap.size+2;omega) | 1,_=>exact (by show w.heap.size<=w.heap.size+3;omega))));replace bg:=aa ((cG _ gJ (fun q hq=>by match q,hq with | 0,_=>exact (by show w.heap.size+2≠w.heap.size;omega) | 1,_=>exact (by show w.heap.size+3≠w.heap.size;omega))).trans bg.out)
 replace aZ:=aa ((cG _ fc (fun q hq=>by match q,hq with | 0,_=>exact (by show w.heap.size+2≠w.heap.size+1;omega) | 1,_=>exact (by show w.heap.size+3≠w.heap.size+1;omega))).trans aZ.out);replace ck:=aa (show xw.heap[w.heap.size+2]?=some (.cells #[.bool ni,.slice mQ mS mU] 26 (0,0)) from qU);clear qU;replace cj:=aa (show xw.heap[w.heap.size+3]?=some (.cells #[.bool nh,.slice mP mR mT] 26 (0,0)) from qT);clear qT;clear gK ei cG kU;replace vW:=ae (v:=.bool true) bg.out 0 rfl;replace vU:=ae (v:=.slice ao l c) bg.out 1 rfl;replace vT:=ae (v:=.bool true) aZ.out 0 rfl;replace vS:=ae (v:=.slice po pl pc) aZ.out 1 rfl;replace q0:=ae (v:=.bool ni) ck.out 0 rfl;replace q1:=ae (v:=.slice mQ mS mU) ck.out 1 rfl
 replace r0:=ae (v:=.bool nh) cj.out 0 rfl;replace r1:=ae (v:=.slice mP mR mT) cj.out 1 rfl;clear gJ fc kK lS;go_wp2_with fail
 exact aB (v:=.tuple #[.agg #[.bool ni,.slice mQ mS mU],.agg #[.bool nh,.slice mP mR mT],.bool true]) (by simp[results,lQ,go_sem,q0,q1,r0,r1]) rfl ⟨_,_,rfl,ng,nf,ct⟩
theorem DV (b d:Bool) (ao po:Option Addr) (l c pl pc m n k1 k2:Nat) (w:an) (hg:GN w (.slice ao l c) m k1) (eV:GN w (.slice po pl pc) n k2) (h1:k1<=900000) (h2:k2<=900000) (h0:0<n) (h:b≠d) (hr:0<m % n) :
  bf ax 63 #[.agg #[.bool b,.slice ao l c],.agg #[.bool d,.slice po pl pc]] w fun e w'=>∃ q r,e=.returned (.tuple #[q,r,.bool true])/\CI w' q (sg true (m / n+1)) (k1+3)/\CI w' r (sg d (n - m % n)) k2/\aC w.heap.size w w':=by
 have J9:m / n<aH ^ k1:=o7 (Nat.div_le_self _ _) hg.lt
 have Gd:m / n+1<aH ^ (k1+3):=by
  have h3:1<aH ^ 2:=by decide
  have:=wo J9 h3;exact eP this (by omega)
 have L5:m % n<aH ^ k2:=uG (di _ h0) eV.lt;have hle:m % n<=n:=DE (di _ h0);have Gc:n - m % n<aH ^ k2:=o7 (Nat.sub_le _ _) eV.lt;have Ja:=q5 hr;have Jj:k2<=1000000:=by omega
 cases b<;>cases d
 ·exact absurd rfl h
 rotate_left 2
 ·exact absurd rfl h
 all_goals clear h
 ·have ct:=av w.heap.size w;go_enter Tryz.func63,Tryz.ntmps63
  go_wp2_with fail
  have de:aC w.heap.size w ((((w.alloc (.cells #[.bool false,.slice ao l c] 26)).alloc (.cells #[.bool true,.slice po pl pc] 26)).alloc (.cells #[.bool false,.slice none 0 0] 26)).alloc (.cells #[.bool false,.slice none 0 0] 26)):=(((((av _ _).alloc (by simp) _).alloc (by simp) _).alloc (by simp;omega) _).alloc (by simp;omega) _)
  replace hg:=hg.below de;replace eV:=eV.below de;replace ct:=ct.trans (de.mono ct.size);clear de;have bg:Hid (((((w.alloc (.cells #[.bool false,.slice ao l c] 26)).alloc (.cells #[.bool true,.slice po pl pc] 26)).alloc (.cells #[.bool false,.slice none 0 0] 26)).alloc (.cells #[.bool false,.slice none 0 0] 26)).heap[w.heap.size]?=some (.cells #[.bool false,.slice ao l c] 26 (0,0))):=aa (bQ (bQ (bQ (cy w (.cells #[.bool false,.slice ao l c] 26) _ (by first | rfl | simp)) _) _) _)
  have aZ:Hid (((((w.alloc (.cells #[.bool false,.slice ao l c] 26)).alloc (.cells #[.bool true,.slice po pl pc] 26)).alloc (.cells #[.bool false,.slice none 0 0] 26)).alloc (.cells #[.bool false,.slice none 0 0] 26)).heap[w.heap.size+1]?=some (.cells #[.bool true,.slice po pl pc] 26 (0,0))):=aa (bQ (bQ (cy (w.alloc (.cells #[.bool false,.slice ao l c] 26)) (.cells #[.bool true,.slice po pl pc] 26) _ (by first | rfl | simp)) _) _)
  have ck:Hid (((((w.alloc (.cells #[.bool false,.slice ao l c] 26)).alloc (.cells #[.bool true,.slice po pl pc] 26)).alloc (.cells #[.bool false,.slice none 0 0] 26)).alloc (.cells #[.bool false,.slice none 0 0] 26)).heap[w.heap.size+2]?=some (.cells #[.bool false,.slice none 0 0] 26 (0,0))):=aa (bQ (cy ((w.alloc (.cells #[.bool false,.slice ao l c] 26)).alloc (.cells #[.bool true,.slice po pl pc] 26)) (.cells #[.bool false,.slice none 0 0] 26) _ (by first | rfl | simp)) _)
  have cj:Hid (((((w.alloc (.cells #[.bool false,.slice ao l c] 26)).alloc (.cells #[.bool true,.slice po pl pc] 26)).alloc (.cells #[.bool false,.slice none 0 0] 26)).alloc (.cells #[.bool false,.slice none 0 0] 26)).heap[w.heap.size+3]?=some (.cells #[.bool false,.slice none 0 0] 26 (0,0))):=aa (cy (((w.alloc (.cells #[.bool false,.slice ao l c] 26)).alloc (.cells #[.bool true,.slice po pl pc] 26)).alloc (.cells #[.bool false,.slice none 0 0] 26)) (.cells #[.bool false,.slice none 0 0] 26) _ (by first | rfl | simp));generalize ((((w.alloc (.cells #[.bool false,.slice ao l c] 26)).alloc (.cells #[.bool true,.slice po pl pc] 26)).alloc (.cells #[.bool false,.slice none 0 0] 26)).alloc (.cells #[.bool false,.slice none 0 0] 26))=wx1 at *;have vW:=ae (v:=.bool false) bg.out 0 rfl;have vU:=ae (v:=.slice ao l c) bg.out 1 rfl
  have vT:=ae (v:=.bool true) aZ.out 0 rfl;have vS:=ae (v:=.slice po pl pc) aZ.out 1 rfl;have q0:=ae (v:=.bool false) ck.out 0 rfl;have q1:=ae (v:=.slice none 0 0) ck.out 1 rfl;have r0:=ae (v:=.bool false) cj.out 0 rfl;have r1:=ae (v:=.slice none 0 0) cj.out 1 rfl;refine (yt hg eV h1 h0).mono ?_;rintro e Lu ⟨vq,vr,rfl,sq,sr,de⟩;replace hg:=hg.below de;replace eV:=eV.below de;replace ct:=ct.trans (de.mono ct.size);replace bg:=aa ((de.block _ (ag bg.out)).trans bg.out);replace aZ:=aa ((de.block _ (ag aZ.out)).trans aZ.out);replace ck:=aa ((de.block _ (ag ck.out)).trans ck.out);replace cj:=aa ((de.block _ (ag cj.out)).trans cj.out);clear de;replace vW:=ae (v:=.bool false) bg.out 0 rfl
  replace vU:=ae (v:=.slice ao l c) bg.out 1 rfl;replace vT:=ae (v:=.bool true) aZ.out 0 rfl;replace vS:=ae (v:=.slice po pl pc) aZ.out 1 rfl;replace q0:=ae (v:=.bool false) ck.out 0 rfl;replace q1:=ae (v:=.slice none 0 0) ck.out 1 rfl;replace r0:=ae (v:=.bool false) cj.out 0 rfl;replace r1:=ae (v:=.slice none 0 0) cj.out 1 rfl;obtain⟨SV,SW,rfl⟩:=bR sq;obtain⟨SS,SU,rfl⟩:=bR sr;have gq:=uj sq J9;have gr:=uj sr L5;clear sq sr;go_wp2_with fail
  refine (LJ 1 _ _ rfl (by decide)).mono ?_;rintro e xw ⟨v7,rfl,g7,de⟩;replace hg:=hg.below de;replace eV:=eV.below de;replace gq:=gq.below de;replace gr:=gr.below de;replace ct:=ct.trans (de.mono ct.size);replace bg:=aa ((de.block _ (ag bg.out)).trans bg.out);replace aZ:=aa ((de.block _ (ag aZ.out)).trans aZ.out);replace ck:=aa ((de.block _ (ag ck.out)).trans ck.out);replace cj:=aa ((de.block _ (ag cj.out)).trans cj.out);clear de;replace vW:=ae (v:=.bool false) bg.out 0 rfl;replace vU:=ae (v:=.slice ao l c) bg.out 1 rfl;replace vT:=ae (v:=.bool true) aZ.out 0 rfl;replace vS:=ae (v:=.slice po pl pc) aZ.out 1 rfl;replace q0:=ae (v:=.bool false) ck.out 0 rfl
  replace q1:=ae (v:=.slice none 0 0) ck.out 1 rfl;replace r0:=ae (v:=.bool false) cj.out 0 rfl;replace r1:=ae (v:=.slice none 0 0) cj.out 1 rfl;go_wp2_with fail
  refine (FH gq g7 (by omega) (by omega)).mono ?_;rintro e SL ⟨v8,rfl,sq,de⟩;replace hg:=hg.below de;replace eV:=eV.below de;replace gq:=gq.below de;replace gr:=gr.below de;replace g7:=g7.below de;replace ct:=ct.trans (de.mono ct.size);replace bg:=aa ((de.block _ (ag bg.out)).trans bg.out);replace aZ:=aa ((de.block _ (ag aZ.out)).trans aZ.out);replace ck:=aa ((de.block _ (ag ck.out)).trans ck.out);replace cj:=aa ((de.block _ (ag cj.out)).trans cj.out);clear de;replace vW:=ae (v:=.bool false) bg.out 0 rfl;replace vU:=ae (v:=.slice ao l c) bg.out 1 rfl;replace vT:=ae (v:=.bool true) aZ.out 0 rfl;replace vS:=ae (v:=.slice po pl pc) aZ.out 1 rfl;replace q0:=ae (v:=.bool false) ck.out 0 rfl
  replace q1:=ae (v:=.slice none 0 0) ck.out 1 rfl;replace r0:=ae (v:=.bool false) cj.out 0 rfl;replace r1:=ae (v:=.slice none 0 0) cj.out 1 rfl;obtain⟨qo,qc,rfl⟩:=bR sq;go_wp2_with fail
  refine (Cc eV gr Jj hle).mono ?_;rintro e SK ⟨v9,rfl,sr,de⟩;replace hg:=hg.below de;replace eV:=eV.below de;replace gq:=gq.below de;replace gr:=gr.below de;replace g7:=g7.below de;replace sq:=sq.below de;replace ct:=ct.trans (de.mono ct.size);replace bg:=aa ((de.block _ (ag bg.out)).trans bg.out);replace aZ:=aa ((de.block _ (ag aZ.out)).trans aZ.out);replace ck:=aa ((de.block _ (ag ck.out)).trans ck.out);replace cj:=aa ((de.block _ (ag cj.out)).trans cj.out);clear de;replace vW:=ae (v:=.bool false) bg.out 0 rfl;replace vU:=ae (v:=.slice ao l c) bg.out 1 rfl;replace vT:=ae (v:=.bool true) aZ.out 0 rfl;replace vS:=ae (v:=.slice po pl pc) aZ.out 1 rfl
  replace q0:=ae (v:=.bool false) ck.out 0 rfl;replace q1:=ae (v:=.slice none 0 0) ck.out 1 rfl;replace r0:=ae (v:=.bool false) cj.out 0 rfl;replace r1:=ae (v:=.slice none 0 0) cj.out 1 rfl;obtain⟨ro,rc,rfl⟩:=bR sr;clear Ja g7 gq gr;go_wp2_with fail
  have gJ:=ag bg.out;have fc:=ag aZ.out;have kK:=ag ck.out;have lS:=ag cj.out;have kU:=ct.size
  refine aO.region (by kernel_rfl) [[],[0],[],[2],[0,1,2,3],[],[0,1,2,3,4,5],[],[7],[],[0,1,2,3,4,5,6,7,8,9],[0,1,2,3,4,5,6,7,8,9,10],[0,1,2,3,4,5,6,7,8,9,10,11],[0,1,2,3,4,5,6,7,8,9,10,11,12]] [] [(11,1000),(12,1001)] (fun q=>[w.heap.size+2,w.heap.size+3].getD q 0) 2 14 (by kernel_rfl) (by kernel_rfl) (fun q hq=>by match q,hq with | 0,_=>exact kK | 1,_=>exact lS) (fun q r hq hr hne=>by match q,r,hq,hr,hne with | 0,0,_,_,h=>exact absurd rfl h | 0,1,_,_,h=>exact (by show w.heap.size+2≠w.heap.size+3;omega) | 1,0,_,_,h=>exact (by show w.heap.size+3≠w.heap.size+2;omega) | 1,1,_,_,h=>exact absurd rfl h) ?_;refine aO.az.bT ?_ (by rfl) (fun T xs wr hA=>?_) ?_
  rotate_left 1
  ·have e2:=hA.pre 2 (by kernel_rfl);simp only[eY,fD,fm] at e2;clear hA;refine⟨(by rfl),?_⟩;go_simp<;>(try with_reducible rfl)
  refine aO.az.bT ?_ (by rfl) (fun T xs wr hA=>?_) ?_
  rotate_left 1
  ·have uA:=hA.tm 0 43 (by rfl) (by rfl);have f43:xs 0=_:=hA.fa 0 (by rfl)
   (try simp (disch:=rfl) only [aO.ai] at f43)
   rw[f43] at uA;clear f43;have aP:wr.heap[w.heap.size]?=_:=(hA.bl _ gJ (fun q hq=>by match q,hq with | 0,_=>exact (by show w.heap.size+2≠w.heap.size;omega) | 1,_=>exact (by show w.heap.size+3≠w.heap.size;omega))).trans bg.out;have q0:=ae (v:=.bool false) aP 0 rfl;have q1:=ae (v:=.slice ao l c) aP 1 rfl;clear aP;clear hA;refine⟨(by rfl),?_⟩;go_simp<;>(try with_reducible rfl)
  refine aO.az.bT ?_ (by rfl) (fun T xs wr hA=>?_) ?_
  rotate_left 1
  ·have e3:=hA.pre 3 (by kernel_rfl);simp only[eY,fD,fm] at e3;clear hA;refine⟨(by rfl),?_⟩;go_simp<;>(try with_reducible rfl)
  refine aO.az.bT ?_ (by rfl) (fun T xs wr hA=>?_) ?_
  rotate_left 1
  ·have vf:=hA.tm 2 45 (by rfl) (by rfl);have f45:xs 2=_:=hA.fa 2 (by rfl)
   (try simp (disch:=rfl) only [aO.ai] at f45)
   rw[f45] at vf;clear f45;have aP:wr.heap[w.heap.size+1]?=_:=(hA.bl _ fc (fun q hq=>by match q,hq with | 0,_=>exact (by show w.heap.size+2≠w.heap.size+1;omega) | 1,_=>exact (by show w.heap.size+3≠w.heap.size+1;omega))).trans aZ.out;have q0:=ae (v:=.bool true) aP 0 rfl;have q1:=ae (v:=.slice po pl pc) aP 1 rfl;clear aP;clear hA;refine⟨(by rfl),?_⟩;go_simp<;>(try with_reducible rfl)
  refine aO.az.bT ?_ (by rfl) (fun T xs wr hA=>?_) ?_
  rotate_left 1
  ·have uz:=hA.tm 1 44 (by rfl) (by rfl);have f44:xs 1=_:=hA.fa 1 (by rfl)
   (try simp (disch:=rfl) only [aO.ai] at f44)
   rw[f44] at uz;clear f44;have tR:=hA.tm 3 46 (by rfl) (by rfl);have f46:xs 3=_:=hA.fa 3 (by rfl)
   (try simp (disch:=rfl) only [aO.ai] at f46)
   rw[f46] at tR;clear f46;clear hA;refine⟨(by rfl),?_⟩;go_simp<;>(try with_reducible rfl)
  refine aO.az.bT ?_ (by rfl) (fun T xs wr hA=>?_) ?_
  rotate_left 1
  ·have e7:=hA.pre 7 (by kernel_rfl);simp only[eY,fD,fm] at e7;clear hA;refine⟨(by rfl),?_⟩;go_simp<;>(try with_reducible rfl)
  refine aO.az.call (fun _ v w=>CI w v (sg true (m / n+1)) (k1+3)) (fun _ _ _ _ h hb=>h.below hb) (fun _ _ _ _ _ h hp=>h.keeps hp.keeps) (by rfl) (fun T xs wr hA=>?_) ?_
  ·have u_:=hA.tm 4 47 (by rfl) (by rfl);have f47:xs 4=_:=hA.fa 4 (by rfl)
   (try simp (disch:=rfl) only [aO.ai] at f47)
   rw[f47] at u_;clear f47;have Dp:=hA.tm 5 48 (by rfl) (by rfl);have f48:xs 5=_:=hA.fa 5 (by rfl)
   (try simp (disch:=rfl) only [aO.ai] at f48)
   rw[f48] at Dp;clear f48;have hkp:=gO hA.kp;have wG:=ct.trans (aT (hA.be w.heap.size kU (fun q hq=>by match q,hq with | 0,_=>exact (by show w.heap.size<=w.heap.size+2;omega) | 1,_=>exact (by show w.heap.size<=w.heap.size+3;omega))));have sq:=sq.keeps hkp;clear hA;refine⟨(by rfl),fun K hK=>?_⟩;go_simp
   refine (dh true (.slice qo _ qc) (m / n+1) (k1+3) _ sq Gd).mono ?_;rintro e wq ⟨v,rfl,c,hb⟩;exact hK.out _ _ c hb
  refine aO.az.bT ?_ (by rfl) (fun T xs wr hA=>?_) ?_
  rotate_left 1
  ·have e3:=hA.pre 3 (by kernel_rfl);simp only[eY,fD,fm] at e3;clear hA;refine⟨(by rfl),?_⟩;go_simp<;>(try with_reducible rfl)
  refine aO.az.bT ?_ (by rfl) (fun T xs wr hA=>?_) ?_
  rotate_left 1
  ·have BM:=hA.tm 7 50 (by rfl) (by rfl);have f50:xs 7=_:=hA.fa 7 (by rfl)
   (try simp (disch:=rfl) only [aO.ai] at f50)
   rw[f50] at BM;clear f50;have aP:wr.heap[w.heap.size+1]?=_:=(hA.bl _ fc (fun q hq=>by match q,hq with | 0,_=>exact (by show w.heap.size+2≠w.heap.size+1;omega) | 1,_=>exact (by show w.heap.size+3≠w.heap.size+1;omega))).trans aZ.out;have q0:=ae (v:=.bool true) aP 0 rfl;have q1:=ae (v:=.slice po pl pc) aP 1 rfl;clear aP;clear hA;refine⟨(by rfl),?_⟩;go_simp<;>(try with_reducible rfl)
  refine aO.az.bT ?_ (by rfl) (fun T xs wr hA=>?_) ?_
  rotate_left 1
  ·have e8:=hA.pre 8 (by kernel_rfl);simp only[eY,fD,fm] at e8;clear hA;refine⟨(by rfl),?_⟩;go_simp<;>(try with_reducible rfl)
  refine aO.az.call (fun _ v w=>CI w v (sg true (n - m % n)) k2) (fun _ _ _ _ h hb=>h.below hb) (fun _ _ _ _ _ h hp=>h.keeps hp.keeps) (by rfl) (fun T xs wr hA=>?_) ?_
  ·have BK:=hA.tm 8 51 (by rfl) (by rfl);have f51:xs 8=_:=hA.fa 8 (by rfl)
   (try simp (disch:=rfl) only [aO.ai] at f51)
   rw[f51] at BK;clear f51;have BJ:=hA.tm 9 52 (by rfl) (by rfl);have f52:xs 9=_:=hA.fa 9 (by rfl)
   (try simp (disch:=rfl) only [aO.ai] at f52)
   rw[f52] at BJ;clear f52;have hkp:=gO hA.kp;have wG:=ct.trans (aT (hA.be w.heap.size kU (fun q hq=>by match q,hq with | 0,_=>exact (by show w.heap.size<=w.heap.size+2;omega) | 1,_=>exact (by show w.heap.size<=w.heap.size+3;omega))));have sr:=sr.keeps hkp;clear hA;refine⟨(by rfl),fun K hK=>?_⟩;go_simp
   refine (dh true (.slice ro _ rc) (n - m % n) k2 _ sr Gc).mono ?_;rintro e wq ⟨v,rfl,c,hb⟩;exact hK.out _ _ c hb
  refine aO.az.iY 0 6 26 (by rfl) (by rfl) (by decide) (aO.jJ (by rfl)) (fun T xs wr hA qV=>?_) ?_
  ·have e4:=hA.pre 4 (by kernel_rfl);simp only[eY,fD,fm] at e4;have hB:wr.heap[w.heap.size+2]?=_:=qV.trans ck.out;clear qV;have Dn:=hA.tm 6 49 (by rfl) (by rfl);have hc:CI wr (xs 6) (sg true (m / n+1)) (k1+3):=hA.fa 6 (by rfl);obtain⟨FE,Eu,EF,EH,hv⟩:=hc.shape;clear hc;rw[hv] at Dn;have z0:=ae hB 0 rfl;have z1:=ae hB 1 rfl;have qY:=af hB 0;have qX:=af hB 1;clear hA;refine⟨(by rfl),fun K hK=>?_⟩;go_simp
   exact hK.out _ _ hv (qm hB _ _) (qh hB (by rfl) (by rfl))
  refine aO.az.iY 1 10 26 (by rfl) (by rfl) (by decide) (aO.jJ (by rfl)) (fun T xs wr hA qV=>?_) ?_
  ·have e5:=hA.pre 5 (by kernel_rfl);simp only[eY,fD,fm] at e5;have hB:wr.heap[w.heap.size+3]?=_:=qV.trans cj.out;clear qV;have qA:=hA.tm 10 53 (by rfl) (by rfl);have hc:CI wr (xs 10) (sg true (n - m % n)) k2:=hA.fa 10 (by rfl);obtain⟨FE,Eu,EF,EH,hv⟩:=hc.shape;clear hc;rw[hv] at qA;have z0:=ae hB 0 rfl;have z1:=ae hB 1 rfl;have qY:=af hB 0;have qX:=af hB 1;clear hA;refine⟨(by rfl),fun K hK=>?_⟩;go_simp
   exact hK.out _ _ hv (qm hB _ _) (qh hB (by rfl) (by rfl))
  refine aO.az.bT ?_ (by rfl) (fun T xs wr hA=>?_) ?_
  rotate_left 1
  ·clear hA;refine⟨(by rfl),?_⟩;go_simp<;>(try with_reducible rfl)
  refine aO.az.done (fun xs Gz hL=>?_);obtain⟨⟨ei,cG,gK⟩,hf,hp,hn⟩:=hL;have f0:xs 0=_:=hf 0 (by decide)
  (try simp (disch:=rfl) only [aO.ai] at f0)
  have f1:xs 1=_:=hf 1 (by decide)
  (try simp (disch:=rfl) only [aO.ai] at f1)
  have f2:xs 2=_:=hf 2 (by decide)
  (try simp (disch:=rfl) only [aO.ai] at f2)
  have f3:xs 3=_:=hf 3 (by decide)
  (try simp (disch:=rfl) only [aO.ai] at f3)
  have f4:xs 4=_:=hf 4 (by decide)
  (try simp (disch:=rfl) only [aO.ai] at f4)
  have f5:xs 5=_:=hf 5 (by decide)
  (try simp (disch:=rfl) only [aO.ai] at f5)
  have ng:CI Gz (xs 6) (sg true (m / n+1)) (k1+3):=hf 6 (by decide);have f7:xs 7=_:=hf 7 (by decide)
  (try simp (disch:=rfl) only [aO.ai] at f7)
  have f8:xs 8=_:=hf 8 (by decide)
  (try simp (disch:=rfl) only [aO.ai] at f8)
  have f9:xs 9=_:=hf 9 (by decide)
  (try simp (disch:=rfl) only [aO.ai] at f9)
  have nf:CI Gz (xs 10) (sg true (n - m % n)) k2:=hf 10 (by decide);obtain⟨cc,hv,qU⟩:=hf 11 (by decide);change xs 6=_ at hv;obtain⟨ni,mQ,mS,mU,ie⟩:=ng.shape;rw[ie] at hv;injection hv with hv;subst hv;obtain⟨cc,hv,qT⟩:=hf 12 (by decide);change xs 10=_ at hv;obtain⟨nh,mP,mR,mT,h_⟩:=nf.shape;rw[h_] at hv;injection hv with hv;subst hv;have f13:xs 13=_:=hf 13 (by decide)
  (try simp (disch:=rfl) only [aO.ai] at f13)
  clear hf hp hn;refine aO.gg ?_;rw[ie] at ng;rw[h_] at nf;simp only[aO.fill,eC,iy,gI,f0,f1,f2,f3,f4,f5,f7,f8,f9,f13,ie,h_];clear f0 f1 f2 f3 f4 f5 f7 f8 f9 f13 ie h_;clear xs;replace gK:=gO gK;replace hg:=hg.keeps gK;replace eV:=eV.keeps gK;replace sq:=sq.keeps gK;replace sr:=sr.keeps gK;replace ct:=ct.trans (aT (ei w.heap.size kU (fun q hq=>by match q,hq with | 0,_=>exact (by show w.heap.size<=w.heap.size+2;omega) | 1,_=>exact (by show w.heap.size<=w.heap.size+3;omega))));replace bg:=aa ((cG _ gJ (fun q hq=>by match q,hq with | 0,_=>exact (by show w.heap.size+2≠w.heap.size;omega) | 1,_=>exact (by show w.heap.size+3≠w.heap.size;omega))).trans bg.out)
  replace aZ:=aa ((cG _ fc (fun q hq=>by match q,hq with | 0,_=>exact (by show w.heap.size+2≠w.heap.size+1;omega) | 1,_=>exact (by show w.heap.size+3≠w.heap.size+1;omega))).trans aZ.out);replace ck:=aa (show Gz.heap[w.heap.size+2]?=some (.cells #[.bool ni,.slice mQ mS mU] 26 (0,0)) from qU);clear qU;replace cj:=aa (show Gz.heap[w.heap.size+3]?=some (.cells #[.bool nh,.slice mP mR mT] 26 (0,0)) from qT);clear qT;clear gK ei cG kU;replace vW:=ae (v:=.bool false) bg.out 0 rfl;replace vU:=ae (v:=.slice ao l c) bg.out 1 rfl;replace vT:=ae (v:=.bool true) aZ.out 0 rfl;replace vS:=ae (v:=.slice po pl pc) aZ.out 1 rfl;replace q0:=ae (v:=.bool ni) ck.out 0 rfl;replace q1:=ae (v:=.slice mQ mS mU) ck.out 1 rfl
  replace r0:=ae (v:=.bool nh) cj.out 0 rfl;replace r1:=ae (v:=.slice mP mR mT) cj.out 1 rfl;clear gJ fc kK lS;go_wp2_with fail
  exact aB (v:=.tuple #[.agg #[.bool ni,.slice mQ mS mU],.agg #[.bool nh,.slice mP mR mT],.bool true]) (by simp[results,lQ,go_sem,q0,q1,r0,r1]) rfl ⟨_,_,rfl,ng,nf,ct⟩
 have ct:=av w.heap.size w;go_enter Tryz.func63,Tryz.ntmps63
 go_wp2_with fail
 have de:aC w.heap.size w ((((w.alloc (.cells #[.bool true,.slice ao l c] 26)).alloc (.cells #[.bool false,.slice po pl pc] 26)).alloc (.cells #[.bool false,.slice none 0 0] 26)).alloc (.cells #[.bool false,.slice none 0 0] 26)):=(((((av _ _).alloc (by simp) _).alloc (by simp) _).alloc (by simp;omega) _).alloc (by simp;omega) _)
 replace hg:=hg.below de;replace eV:=eV.below de;replace ct:=ct.trans (de.mono ct.size);clear de;have bg:Hid (((((w.alloc (.cells #[.bool true,.slice ao l c] 26)).alloc (.cells #[.bool false,.slice po pl pc] 26)).alloc (.cells #[.bool false,.slice none 0 0] 26)).alloc (.cells #[.bool false,.slice none 0 0] 26)).heap[w.heap.size]?=some (.cells #[.bool true,.slice ao l c] 26 (0,0))):=aa (bQ (bQ (bQ (cy w (.cells #[.bool true,.slice ao l c] 26) _ (by first | rfl | simp)) _) _) _)
 have aZ:Hid (((((w.alloc (.cells #[.bool true,.slice ao l c] 26)).alloc (.cells #[.bool false,.slice po pl pc] 26)).alloc (.cells #[.bool false,.slice none 0 0] 26)).alloc (.cells #[.bool false,.slice none 0 0] 26)).heap[w.heap.size+1]?=some (.cells #[.bool false,.slice po pl pc] 26 (0,0))):=aa (bQ (bQ (cy (w.alloc (.cells #[.bool true,.slice ao l c] 26)) (.cells #[.bool false,.slice po pl pc] 26) _ (by first | rfl | simp)) _) _)
 have ck:Hid (((((w.alloc (.cells #[.bool true,.slice ao l c] 26)).alloc (.cells #[.bool false,.slice po pl pc] 26)).alloc (.cells #[.bool false,.slice none 0 0] 26)).alloc (.cells #[.bool false,.slice none 0 0] 26)).heap[w.heap.size+2]?=some (.cells #[.bool false,.slice none 0 0] 26 (0,0))):=aa (bQ (cy ((w.alloc (.cells #[.bool true,.slice ao l c] 26)).alloc (.cells #[.bool false,.slice po pl pc] 26)) (.cells #[.bool false,.slice none 0 0] 26) _ (by first | rfl | simp)) _)
 have cj:Hid (((((w.alloc (.cells #[.bool true,.slice ao l c] 26)).alloc (.cells #[.bool false,.slice po pl pc] 26)).alloc (.cells #[.bool false,.slice none 0 0] 26)).alloc (.cells #[.bool false,.slice none 0 0] 26)).heap[w.heap.size+3]?=some (.cells #[.bool false,.slice none 0 0] 26 (0,0))):=aa (cy (((w.alloc (.cells #[.bool true,.slice ao l c] 26)).alloc (.cells #[.bool false,.slice po pl pc] 26)).alloc (.cells #[.bool false,.slice none 0 0] 26)) (.cells #[.bool false,.slice none 0 0] 26) _ (by first | rfl | simp));generalize ((((w.alloc (.cells #[.bool true,.slice ao l c] 26)).alloc (.cells #[.bool false,.slice po pl pc] 26)).alloc (.cells #[.bool false,.slice none 0 0] 26)).alloc (.cells #[.bool false,.slice none 0 0] 26))=wx1 at *;have vW:=ae (v:=.bool true) bg.out 0 rfl;have vU:=ae (v:=.slice ao l c) bg.out 1 rfl
 have vT:=ae (v:=.bool false) aZ.out 0 rfl;have vS:=ae (v:=.slice po pl pc) aZ.out 1 rfl;have q0:=ae (v:=.bool false) ck.out 0 rfl;have q1:=ae (v:=.slice none 0 0) ck.out 1 rfl;have r0:=ae (v:=.bool false) cj.out 0 rfl;have r1:=ae (v:=.slice none 0 0) cj.out 1 rfl;refine (yt hg eV h1 h0).mono ?_;rintro e Lu ⟨vq,vr,rfl,sq,sr,de⟩;replace hg:=hg.below de;replace eV:=eV.below de;replace ct:=ct.trans (de.mono ct.size);replace bg:=aa ((de.block _ (ag bg.out)).trans bg.out);replace aZ:=aa ((de.block _ (ag aZ.out)).trans aZ.out);replace ck:=aa ((de.block _ (ag ck.out)).trans ck.out);replace cj:=aa ((de.block _ (ag cj.out)).trans cj.out);clear de;replace vW:=ae (v:=.bool true) bg.out 0 rfl
 replace vU:=ae (v:=.slice ao l c) bg.out 1 rfl;replace vT:=ae (v:=.bool false) aZ.out 0 rfl;replace vS:=ae (v:=.slice po pl pc) aZ.out 1 rfl;replace q0:=ae (v:=.bool false) ck.out 0 rfl;replace q1:=ae (v:=.slice none 0 0) ck.out 1 rfl;replace r0:=ae (v:=.bool false) cj.out 0 rfl;replace r1:=ae (v:=.slice none 0 0) cj.out 1 rfl;obtain⟨SV,SW,rfl⟩:=bR sq;obtain⟨SS,SU,rfl⟩:=bR sr;have gq:=uj sq J9;have gr:=uj sr L5;clear sq sr;go_wp2_with fail
 refine (LJ 1 _ _ rfl (by decide)).mono ?_;rintro e xw ⟨v7,rfl,g7,de⟩;replace hg:=hg.below de;replace eV:=eV.below de;replace gq:=gq.below de;replace gr:=gr.below de;replace ct:=ct.trans (de.mono ct.size);replace bg:=aa ((de.block _ (ag bg.out)).trans bg.out);replace aZ:=aa ((de.block _ (ag aZ.out)).trans aZ.out);replace ck:=aa ((de.block _ (ag ck.out)).trans ck.out);replace cj:=aa ((de.block _ (ag cj.out)).trans cj.out);clear de;replace vW:=ae (v:=.bool true) bg.out 0 rfl;replace vU:=ae (v:=.slice ao l c) bg.out 1 rfl;replace vT:=ae (v:=.bool false) aZ.out 0 rfl;replace vS:=ae (v:=.slice po pl pc) aZ.out 1 rfl;replace q0:=ae (v:=.bool false) ck.out 0 rfl
 replace q1:=ae (v:=.slice none 0 0) ck.out 1 rfl;replace r0:=ae (v:=.bool false) cj.out 0 rfl;replace r1:=ae (v:=.slice none 0 0) cj.out 1 rfl;go_wp2_with fail
 refine (FH gq g7 (by omega) (by omega)).mono ?_;rintro e SL ⟨v8,rfl,sq,de⟩;replace hg:=hg.below de;replace eV:=eV.below de;replace gq:=gq.below de;replace gr:=gr.below de;replace g7:=g7.below de;replace ct:=ct.trans (de.mono ct.size);replace bg:=aa ((de.block _ (ag bg.out)).trans bg.out);replace aZ:=aa ((de.block _ (ag aZ.out)).trans aZ.out);replace ck:=aa ((de.block _ (ag ck.out)).trans ck.out);replace cj:=aa ((de.block _ (ag cj.out)).trans cj.out);clear de;replace vW:=ae (v:=.bool true) bg.out 0 rfl;replace vU:=ae (v:=.slice ao l c) bg.out 1 rfl;replace vT:=ae (v:=.bool false) aZ.out 0 rfl;replace vS:=ae (v:=.slice po pl pc) aZ.out 1 rfl;replace q0:=ae (v:=.bool false) ck.out 0 rfl
 replace q1:=ae (v:=.slice none 0 0) ck.out 1 rfl;replace r0:=ae (v:=.bool false) cj.out 0 rfl;replace r1:=ae (v:=.slice none 0 0) cj.out 1 rfl;obtain⟨qo,qc,rfl⟩:=bR sq;go_wp2_with fail
 refine (Cc eV gr Jj hle).mono ?_;rintro e SK ⟨v9,rfl,sr,de⟩;replace hg:=hg.below de;replace eV:=eV.below de;replace gq:=gq.below de;replace gr:=gr.below de;replace g7:=g7.below de;replace sq:=sq.below de;replace ct:=ct.trans (de.mono ct.size);replace bg:=aa ((de.block _ (ag bg.out)).trans bg.out);replace aZ:=aa ((de.block _ (ag aZ.out)).trans aZ.out);replace ck:=aa ((de.block _ (ag ck.out)).trans ck.out);replace cj:=aa ((de.block _ (ag cj.out)).trans cj.out);clear de;replace vW:=ae (v:=.bool true) bg.out 0 rfl;replace vU:=ae (v:=.slice ao l c) bg.out 1 rfl;replace vT:=ae (v:=.bool false) aZ.out 0 rfl;replace vS:=ae (v:=.slice po pl pc) aZ.out 1 rfl
 replace q0:=ae (v:=.bool false) ck.out 0 rfl;replace q1:=ae (v:=.slice none 0 0) ck.out 1 rfl;replace r0:=ae (v:=.bool false) cj.out 0 rfl;replace r1:=ae (v:=.slice none 0 0) cj.out 1 rfl;obtain⟨ro,rc,rfl⟩:=bR sr;clear Ja g7 gq gr;go_wp2_with fail
 have gJ:=ag bg.out;have fc:=ag aZ.out;have kK:=ag ck.out;have lS:=ag cj.out;have kU:=ct.size
 refine aO.region (by kernel_rfl) [[],[0],[],[2],[0,1,2,3],[],[0,1,2,3,4,5],[],[7],[],[0,1,2,3,4,5,6,7,8,9],[0,1,2,3,4,5,6,7,8,9,10],[0,1,2,3,4,5,6,7,8,9,10,11],[0,1,2,3,4,5,6,7,8,9,10,11,12]] [] [(11,1000),(12,1001)] (fun q=>[w.heap.size+2,w.heap.size+3].getD q 0) 2 14 (by kernel_rfl) (by kernel_rfl) (fun q hq=>by match q,hq with | 0,_=>exact kK | 1,_=>exact lS) (fun q r hq hr hne=>by match q,r,hq,hr,hne with | 0,0,_,_,h=>exact absurd rfl h | 0,1,_,_,h=>exact (by show w.heap.size+2≠w.heap.size+3;omega) | 1,0,_,_,h=>exact (by show w.heap.size+3≠w.heap.size+2;omega) | 1,1,_,_,h=>exact absurd rfl h) ?_;refine aO.az.bT ?_ (by rfl) (fun T xs wr hA=>?_) ?_
 rotate_left 1
 ·have e2:=hA.pre 2 (by kernel_rfl);simp only[eY,fD,fm] at e2;clear hA;refine⟨(by rfl),?_⟩;go_simp<;>(try with_reducible rfl)
 refine aO.az.bT ?_ (by rfl) (fun T xs wr hA=>?_) ?_
 rotate_left 1
 ·have uA:=hA.tm 0 43 (by rfl) (by rfl);have f43:xs 0=_:=hA.fa 0 (by rfl)
  (try simp (disch:=rfl) only [aO.ai] at f43)
  rw[f43] at uA;clear f43;have aP:wr.heap[w.heap.size]?=_:=(hA.bl _ gJ (fun q hq=>by match q,hq with | 0,_=>exact (by show w.heap.size+2≠w.heap.size;omega) | 1,_=>exact (by show w.heap.size+3≠w.heap.size;omega))).trans bg.out;have q0:=ae (v:=.bool true) aP 0 rfl;have q1:=ae (v:=.slice ao l c) aP 1 rfl;clear aP;clear hA;refine⟨(by rfl),?_⟩;go_simp<;>(try with_reducible rfl)
 refine aO.az.bT ?_ (by rfl) (fun T xs wr hA=>?_) ?_
 rotate_left 1
 ·have e3:=hA.pre 3 (by kernel_rfl);simp only[eY,fD,fm] at e3;clear hA;refine⟨(by rfl),?_⟩;go_simp<;>(try with_reducible rfl)
 refine aO.az.bT ?_ (by rfl) (fun T xs wr hA=>?_) ?_
 rotate_left 1
 ·have vf:=hA.tm 2 45 (by rfl) (by rfl);have f45:xs 2=_:=hA.fa 2 (by rfl)
  (try simp (disch:=rfl) only [aO.ai] at f45)
  rw[f45] at vf;clear f45;have aP:wr.heap[w.heap.size+1]?=_:=(hA.bl _ fc (fun q hq=>by match q,hq with | 0,_=>exact (by show w.heap.size+2≠w.heap.size+1;omega) | 1,_=>exact (by show w.heap.size+3≠w.heap.size+1;omega))).trans aZ.out;have q0:=ae (v:=.bool false) aP 0 rfl;have q1:=ae (v:=.slice po pl pc) aP 1 rfl;clear aP;clear hA;refine⟨(by rfl),?_⟩;go_simp<;>(try with_reducible rfl)
 refine aO.az.bT ?_ (by rfl) (fun T xs wr hA=>?_) ?_
 rotate_left 1
 ·have uz:=hA.tm 1 44 (by rfl) (by rfl);have f44:xs 1=_:=hA.fa 1 (by rfl)
  (try simp (disch:=rfl) only [aO.ai] at f44)
  rw[f44] at uz;clear f44;have tR:=hA.tm 3 46 (by rfl) (by rfl);have f46:xs 3=_:=hA.fa 3 (by rfl)
  (try simp (disch:=rfl) only [aO.ai] at f46)
  rw[f46] at tR;clear f46;clear hA;refine⟨(by rfl),?_⟩;go_simp<;>(try with_reducible rfl)
 refine aO.az.bT ?_ (by rfl) (fun T xs wr hA=>?_) ?_
 rotate_left 1
 ·have e7:=hA.pre 7 (by kernel_rfl);simp only[eY,fD,fm] at e7;clear hA;refine⟨(by rfl),?_⟩;go_simp<;>(try with_reducible rfl)
 refine aO.az.call (fun _ v w=>CI w v (sg true (m / n+1)) (k1+3)) (fun _ _ _ _ h hb=>h.below hb) (fun _ _ _ _ _ h hp=>h.keeps hp.keeps) (by rfl) (fun T xs wr hA=>?_) ?_
 ·have u_:=hA.tm 4 47 (by rfl) (by rfl);have f47:xs 4=_:=hA.fa 4 (by rfl)
  (try simp (disch:=rfl) only [aO.ai] at f47)
  rw[f47] at u_;clear f47;have Dp:=hA.tm 5 48 (by rfl) (by rfl);have f48:xs 5=_:=hA.fa 5 (by rfl)
  (try simp (disch:=rfl) only [aO.ai] at f48)
  rw[f48] at Dp;clear f48;have hkp:=gO hA.kp;have wG:=ct.trans (aT (hA.be w.heap.size kU (fun q hq=>by match q,hq with | 0,_=>exact (by show w.heap.size<=w.heap.size+2;omega) | 1,_=>exact (by show w.heap.size<=w.heap.size+3;omega))));have sq:=sq.keeps hkp;clear hA;refine⟨(by rfl),fun K hK=>?_⟩;go_simp
  refine (dh true (.slice qo _ qc) (m / n+1) (k1+3) _ sq Gd).mono ?_;rintro e wq ⟨v,rfl,c,hb⟩;exact hK.out _ _ c hb
 refine aO.az.bT ?_ (by rfl) (fun T xs wr hA=>?_) ?_
 rotate_left 1
 ·have e3:=hA.pre 3 (by kernel_rfl);simp only[eY,fD,fm] at e3;clear hA;refine⟨(by rfl),?_⟩;go_simp<;>(try with_reducible rfl)
 refine aO.az.bT ?_ (by rfl) (fun T xs wr hA=>?_) ?_
 rotate_left 1
 ·have BM:=hA.tm 7 50 (by rfl) (by rfl);have f50:xs 7=_:=hA.fa 7 (by rfl)
  (try simp (disch:=rfl) only [aO.ai] at f50)
  rw[f50] at BM;clear f50;have aP:wr.heap[w.heap.size+1]?=_:=(hA.bl _ fc (fun q hq=>by match q,hq with | 0,_=>exact (by show w.heap.size+2≠w.heap.size+1;omega) | 1,_=>exact (by show w.heap.size+3≠w.heap.size+1;omega))).trans aZ.out;have q0:=ae (v:=.bool false) aP 0 rfl;have q1:=ae (v:=.slice po pl pc) aP 1 rfl;clear aP;clear hA;refine⟨(by rfl),?_⟩;go_simp<;>(try with_reducible rfl)
 refine aO.az.bT ?_ (by rfl) (fun T xs wr hA=>?_) ?_
 rotate_left 1
 ·have e8:=hA.pre 8 (by kernel_rfl);simp only[eY,fD,fm] at e8;clear hA;refine⟨(by rfl),?_⟩;go_simp<;>(try with_reducible rfl)
 refine aO.az.call (fun _ v w=>CI w v (sg false (n - m % n)) k2) (fun _ _ _ _ h hb=>h.below hb) (fun _ _ _ _ _ h hp=>h.keeps hp.keeps) (by rfl) (fun T xs wr hA=>?_) ?_
 ·have BK:=hA.tm 8 51 (by rfl) (by rfl);have f51:xs 8=_:=hA.fa 8 (by rfl)
  (try simp (disch:=rfl) only [aO.ai] at f51)
  rw[f51] at BK;clear f51;have BJ:=hA.tm 9 52 (by rfl) (by rfl);have f52:xs 9=_:=hA.fa 9 (by rfl)
  (try simp (disch:=rfl) only [aO.ai] at f52)
  rw[f52] at BJ;clear f52;have hkp:=gO hA.kp;have wG:=ct.trans (aT (hA.be w.heap.size kU (fun q hq=>by match q,hq with | 0,_=>exact (by show w.heap.size<=w.heap.size+2;omega) | 1,_=>exact (by show w.heap.size<=w.heap.size+3;omega))));have sr:=sr.keeps hkp;clear hA;refine⟨(by rfl),fun K hK=>?_⟩;go_simp
  refine (dh false (.slice ro _ rc) (n - m % n) k2 _ sr Gc).mono ?_;rintro e wq ⟨v,rfl,c,hb⟩;exact hK.out _ _ c hb
 refine aO.az.iY 0 6 26 (by rfl) (by rfl) (by decide) (aO.jJ (by rfl)) (fun T xs wr hA qV=>?_) ?_
 ·have e4:=hA.pre 4 (by kernel_rfl);simp only[eY,fD,fm] at e4;have hB:wr.heap[w.heap.size+2]?=_:=qV.trans ck.out;clear qV;have Dn:=hA.tm 6 49 (by rfl) (by rfl);have hc:CI wr (xs 6) (sg true (m / n+1)) (k1+3):=hA.fa 6 (by rfl);obtain⟨FE,Eu,EF,EH,hv⟩:=hc.shape;clear hc;rw[hv] at Dn;have z0:=ae hB 0 rfl;have z1:=ae hB 1 rfl;have qY:=af hB 0;have qX:=af hB 1;clear hA;refine⟨(by rfl),fun K hK=>?_⟩;go_simp
  exact hK.out _ _ hv (qm hB _ _) (qh hB (by rfl) (by rfl))
 refine aO.az.iY 1 10 26 (by rfl) (by rfl) (by decide) (aO.jJ (by rfl)) (fun T xs wr hA qV=>?_) ?_
 ·have e5:=hA.pre 5 (by kernel_rfl);simp only[eY,fD,fm] at e5;have hB:wr.heap[w.heap.size+3]?=_:=qV.trans cj.out;clear qV;have qA:=hA.tm 10 53 (by rfl) (by rfl);have hc:CI wr (xs 10) (sg false (n - m % n)) k2:=hA.fa 10 (by rfl);obtain⟨FE,Eu,EF,EH,hv⟩:=hc.shape;clear hc;rw[hv] at qA;have z0:=ae hB 0 rfl;have z1:=ae hB 1 rfl;have qY:=af hB 0;have qX:=af hB 1;clear hA;refine⟨(by rfl),fun K hK=>?_⟩;go_simp
  exact hK.out _ _ hv (qm hB _ _) (qh hB (by rfl) (by rfl))
 refine aO.az.bT ?_ (by rfl) (fun T xs wr hA=>?_) ?_
 rotate_left 1
 ·clear hA;refine⟨(by rfl),?_⟩;go_simp<;>(try with_reducible rfl)
 refine aO.az.done (fun xs Gz hL=>?_);obtain⟨⟨ei,cG,gK⟩,hf,hp,hn⟩:=hL;have f0:xs 0=_:=hf 0 (by decide)
 (try simp (disch:=rfl) only [aO.ai] at f0)
 have f1:xs 1=_:=hf 1 (by decide)
 (try simp (disch:=rfl) only [aO.ai] at f1)
 have f2:xs 2=_:=hf 2 (by decide)
 (try simp (disch:=rfl) only [aO.ai] at f2)
 have f3:xs 3=_:=hf 3 (by decide)
 (try simp (disch:=rfl) only [aO.ai] at f3)
 have f4:xs 4=_:=hf 4 (by decide)
 (try simp (disch:=rfl) only [aO.ai] at f4)
 have f5:xs 5=_:=hf 5 (by decide)
 (try simp (disch:=rfl) only [aO.ai] at f5)
 have ng:CI Gz (xs 6) (sg true (m / n+1)) (k1+3):=hf 6 (by decide);have f7:xs 7=_:=hf 7 (by decide)
 (try simp (disch:=rfl) only [aO.ai] at f7)
 have f8:xs 8=_:=hf 8 (by decide)
 (try simp (disch:=rfl) only [aO.ai] at f8)
 have f9:xs 9=_:=hf 9 (by decide)
 (try simp (disch:=rfl) only [aO.ai] at f9)
 have nf:CI Gz (xs 10) (sg false (n - m % n)) k2:=hf 10 (by decide);obtain⟨cc,hv,qU⟩:=hf 11 (by decide);change xs 6=_ at hv;obtain⟨ni,mQ,mS,mU,ie⟩:=ng.shape;rw[ie] at hv;injection hv with hv;subst hv;obtain⟨cc,hv,qT⟩:=hf 12 (by decide);change xs 10=_ at hv;obtain⟨nh,mP,mR,mT,h_⟩:=nf.shape;rw[h_] at hv;injection hv with hv;subst hv;have f13:xs 13=_:=hf 13 (by decide)
 (try simp (disch:=rfl) only [aO.ai] at f13)
 clear hf hp hn;refine aO.gg ?_;rw[ie] at ng;rw[h_] at nf;simp only[aO.fill,eC,iy,gI,f0,f1,f2,f3,f4,f5,f7,f8,f9,f13,ie,h_];clear f0 f1 f2 f3 f4 f5 f7 f8 f9 f13 ie h_;clear xs;replace gK:=gO gK;replace hg:=hg.keeps gK;replace eV:=eV.keeps gK;replace sq:=sq.keeps gK;replace sr:=sr.keeps gK;replace ct:=ct.trans (aT (ei w.heap.size kU (fun q hq=>by match q,hq with | 0,_=>exact (by show w.heap.size<=w.heap.size+2;omega) | 1,_=>exact (by show w.heap.size<=w.heap.size+3;omega))));replace bg:=aa ((cG _ gJ (fun q hq=>by match q,hq with | 0,_=>exact (by show w.heap.size+2≠w.heap.size;omega) | 1,_=>exact (by show w.heap.size+3≠w.heap.size;omega))).trans bg.out)
 replace aZ:=aa ((cG _ fc (fun q hq=>by match q,hq with | 0,_=>exact (by show w.heap.size+2≠w.heap.size+1;omega) | 1,_=>exact (by show w.heap.size+3≠w.heap.size+1;omega))).trans aZ.out);replace ck:=aa (show Gz.heap[w.heap.size+2]?=some (.cells #[.bool ni,.slice mQ mS mU] 26 (0,0)) from qU);clear qU;replace cj:=aa (show Gz.heap[w.heap.size+3]?=some (.cells #[.bool nh,.slice mP mR mT] 26 (0,0)) from qT);clear qT;clear gK ei cG kU;replace vW:=ae (v:=.bool true) bg.out 0 rfl;replace vU:=ae (v:=.slice ao l c) bg.out 1 rfl;replace vT:=ae (v:=.bool false) aZ.out 0 rfl;replace vS:=ae (v:=.slice po pl pc) aZ.out 1 rfl;replace q0:=ae (v:=.bool ni) ck.out 0 rfl;replace q1:=ae (v:=.slice mQ mS mU) ck.out 1 rfl
 replace r0:=ae (v:=.bool nh) cj.out 0 rfl;replace r1:=ae (v:=.slice mP mR mT) cj.out 1 rfl;clear gJ fc kK lS;go_wp2_with fail
 exact aB (v:=.tuple #[.agg #[.bool ni,.slice mQ mS mU],.agg #[.bool nh,.slice mP mR mT],.bool true]) (by simp[results,lQ,go_sem,q0,q1,r0,r1]) rfl ⟨_,_,rfl,ng,nf,ct⟩
theorem zJ (va vb:ay) (y z:Int) (k1 k2:Nat) (w:an) (hx:GI w va y k1) (hy:GI w vb z k2) (h1:k1<=900000) (h2:k2<=900000) (h0:z≠0) :
  bf ax 63 #[va,vb] w fun e w'=>∃ q r,e=.returned (.tuple #[q,r,.bool true])/\CI w' q (Int.fdiv y z) (k1+3)/\CI w' r (Int.fmod y z) k2/\aC w.heap.size w w':=by
 obtain⟨b,ao,l,c,m,rfl,hg,rfl⟩:=hx.shape;obtain⟨d,po,pl,pc,n,rfl,eV,rfl⟩:=hy.shape
 have hn:0<n:=by
  rcases bO n with h | h
  ·subst h;exact absurd (by cases d<;>rfl) h0
  exact h
 by_cases h:b=d\/m % n=0
 ·obtain⟨e1,e2⟩:=JM (b:=b) (d:=d) hn h;rw[e1,e2];exact A6 b d _ ao po l c pl pc m n k1 k2 w hg eV h1 hn rfl h
 have hbd:b≠d:=fun e=>h (Or.inl e)
 have hr:0<m % n:=by
  rcases bO (m % n) with e | e
  ·exact absurd (Or.inr e) h
  exact e
 obtain⟨e1,e2⟩:=GV (b:=b) (d:=d) hn hbd hr;rw[e1,e2,show (b != d)=true by simpa using hbd];exact DV b d ao po l c pl pc m n k1 k2 w hg eV h1 h2 hn hbd hr
end Go.Proofs.YtoncclhbdkjhmaaGreatDoor
