/-
 Joined texts: KDiv,KPar,KWhoA,KWhoF.
-/
import Derived.Lib.ItoaMem
import Derived.Deep.RegionHeld3
import Derived.Deep.DeepCutAuto
import Derived.Test.YtoncclhbdkjhmaaGreatDoorJFactsHold1
set_option maxHeartbeats 32000000
open Array renaming size_replicate→nL,replicate→nT
open Go renaming lt_of_block→ae,World→ag,Value→aq,bodyPost_ret→aD,Calls→aW,TypeId→bn,heap_alloc_new→bT
open Go.IntWalk renaming u64_in→pB
open Go.Lib renaming hid→aa,decDigits→a_,nDigits→oO,TabIs→p7,pow10Tab→tT
open Go.Proofs.Tryz renaming prog→aj,results63→mG
open Go.RowKit renaming Below→aA
open Go.RowKit.Below renaming refl→ax,heap_alloc→z_
open Go.Value renaming int→fm
open Go.World.grownBy renaming refl→aI
open List renaming length_take→aX,setIfInBounds_toArray→aY,set_cons_succ→bD,take_length→bK,set_cons_zero→bS,length_set→bY,take_of_length_le→cw,length_drop→jh,take_append_drop→o7
open Nat renaming le_trans→ah,le_refl→ai,lt_of_lt_of_le→az,mul_le_mul_right→aV,eq_zero_or_pos→bQ,pow_le_pow_right→cf,pow_succ→cj,min_eq_left→cX,pow_pos→dj,mod_lt→dZ,div_lt_of_lt_mul→eG,mul_le_mul_left→fk,mul_comm→fN,lt_or_ge→ir,mod_eq_of_lt→iB,pow_add→jR,mul_lt_mul_of_pos_right→jS,div_add_mod→pz,lt_of_le_of_lt→qz,lt_trans→wJ,le_of_lt→wK
namespace Go.Proofs.YtoncclhbdkjhmaaGreatDoor
open Go.RowKit
set_option maxRecDepth 100000
structure Gs (B P D H p t x E:Nat):Prop where
 hp:∃ lp,P=(H*B+p)*E+lp/\lp<E
 hd:∃ ld,D=(t*B+x)*E+ld/\ld<E
 B0:0<B
 pb:p<B
 xb:x<B
 tb:t<B
 t0:0<t
 E0:0<E
 lt:P<D*B

theorem Gs.D0 {B P D H p t x E:Nat} (h:Gs B P D H p t x E):B*E<=D:=by
 obtain⟨ld,h1,h2⟩:=h.hd;rw[h1];have h3:B*E<=(t*B+x)*E:=aV _ (ah (by have:=aV B h.t0;omega) (Nat.le_add_right (t*B) x))
 omega
theorem Gs.pos {B P D H p t x E:Nat} (h:Gs B P D H p t x E):0<D:=az (Nat.mul_pos h.B0 h.E0) h.D0
theorem Gs.quo {B P D H p t x E:Nat} (h:Gs B P D H p t x E):P / D<B:=eG h.lt
theorem Gs.high {B P D H p t x E:Nat} (h:Gs B P D H p t x E):H<t*B+B:=by
 obtain⟨lp,h1,h2⟩:=h.hp;obtain⟨ld,h3,h4⟩:=h.hd;have h5:=h.lt;have hx:=h.xb;rcases ir H (t*B+B) with hh | hh
 ·exact hh
 exfalso
 have e1:(t*B+B)*(B*E)<=H*(B*E):=aV _ hh;have e2:(x+1)*(E*B)<=B*(E*B):=aV _ hx;have e3:ld*B<E*B:=jS h4 h.B0;rw[h1,h3] at h5
 grind
theorem Gs.start {B P D H p t x E:Nat} (h:Gs B P D H p t x E):P / D<=H / t:=by
 obtain⟨lp,h1,h2⟩:=h.hp;obtain⟨ld,h3,h4⟩:=h.hd;have hp:=h.pb;rw[Nat.le_div_iff_mul_le h.t0];have hq:=Nat.div_mul_le_self P D;generalize P / D=Q at *
 have e0:Q*t*(B*E)<=Q*D:=by
  rw[Nat.mul_assoc];refine fk _ ?_;rw[h3]
  grind
 have e1:P<(H+1)*(B*E):=by
  have e2:(p+1)*E<=B*E:=aV _ hp;rw[h1];grind
 have e3:Q*t*(B*E)<(H+1)*(B*E):=by omega
 exact Nat.lt_succ_iff.1 (Nat.lt_of_mul_lt_mul_right e3)
theorem Gs.down {B P D H p t x E q r:Nat} (h:Gs B P D H p t x E) (hq:q*t+r=H) (hc:r*B+p<q*x):P / D<q:=by
 obtain⟨lp,h1,h2⟩:=h.hp;obtain⟨ld,h3,h4⟩:=h.hd;refine eG ?_;have e1:(H*B+p+1)*E<=q*(t*B+x)*E:=aV _ (by rw[<-hq];grind);have e2:q*(t*B+x)*E<=q*D:=by rw[Nat.mul_assoc,h3];exact fk _ (by omega)
 rw[fN D q]
 grind
theorem Gs.stop {B P D H p t x E q r:Nat} (h:Gs B P D H p t x E) (hq:q*t+r=H) (hb:q<B) (hc:q*x<=r*B+p\/B<=r):q<=P / D+1:=by
 obtain⟨lp,h1,h2⟩:=h.hp;obtain⟨ld,h3,h4⟩:=h.hd;have hD:=h.D0;have hpos:=h.pos;have hx:=h.xb
 have key:q*D<P+D:=by
  rw[h3] at hD ⊢;rw[h1];have e3:q*ld<=q*E:=fk _ (by omega);have e4:q*E<B*E:=jS hb h.E0;rcases hc with hc | hc
  ·have e1:q*(t*B+x)*E<=(H*B+p)*E:=aV _ (by rw[<-hq];grind)
   grind
  have e5:q*x<=q*B:=fk _ (by omega);have e6:q*B<=B*B:=aV _ (by omega);have e7:B*B<=r*B:=aV _ hc;have e1:q*(t*B+x)*E<=(H*B+p)*E:=aV _ (by rw[<-hq];grind)
  grind
 rcases bQ q with h0 | h0
 ·rw[h0];exact Nat.zero_le _
 have e:(q - 1)*D<=P:=by
  have:q*D=(q - 1)*D+D:=by rw[<-Nat.succ_mul];congr 1;omega
  omega
 have:=(Nat.le_div_iff_mul_le hpos).2 e
 omega
theorem AH {xs:List Nat} {m:Nat} (dx:eV aG xs) (h:xs.length=m+2):∃ l,val aG xs=(xs.getD (m+1) 0*aG+xs.getD m 0)*aG ^ m+l/\l<aG ^ m:=by
 have h1:=dG aG xs (m+1);have h2:=dG aG xs m;have h3:=eW (dx.take m);rw[aX,cX (by omega)] at h3;refine⟨val aG (xs.take m),?_,h3⟩;rw[show m+1+1=xs.length by omega,bK] at h1;rw[h1,h2,cj]
 grind
theorem TJ {ps ds:List Nat} {m:Nat} (dp:eV aG ps) (dd:eV aG ds) (hd:ds.length=m+2) (hp:ps.length=m+3) (ht:0<ds.getD (m+1) 0) (hlt:val aG ps<val aG ds*aG) :
  Gs aG (val aG ps) (val aG ds) (gg (ps.getD (m+2) 0) (ps.getD (m+1) 0)) (ps.getD m 0) (ds.getD (m+1) 0) (ds.getD m 0) (aG ^ m) where
 hp:=by
  obtain⟨l,h1,h2⟩:=AH (m:=m+1) dp hp;have h3:=dG aG ps (m+2);have h4:=dG aG ps (m+1);have h5:=dG aG ps m;have h6:=eW (dp.take m);rw[aX,cX (by omega)] at h6;refine⟨val aG (ps.take m),?_,h6⟩;rw[show m+2+1=ps.length by omega,bK] at h3;rw[h3,h4,h5,cj,cj];unfold gg
  grind
 hd:=AH dd hd
 B0:=by decide
 pb:=dp.getD (by decide) m
 xb:=dd.getD (by decide) m
 tb:=dd.getD (by decide) _
 t0:=ht
 E0:=dj (by decide)
 lt:=hlt
set_option maxRecDepth 100000 in
theorem Av (va vb:aq) (ps ds:List Nat) (w:ag) (hx:Sl w .u32 va ps) (hy:Sl w .u32 vb ds) (dp:eV aG ps) (dd:eV aG ds) (hd:2<=ds.length) (hp:ps.length=ds.length+1)
  (ht:0<ds.getD (ds.length - 1) 0) (hlt:val aG ps<val aG ds*aG) :
  aW aj 203 #[va,vb] w fun e w'=>∃ q:Nat,e=.returned (.int .u32 (q:Int))/\q<aG/\val aG ps / val aG ds<=q/\q<=val aG ps / val aG ds+1/\aA w.heap.size w w':=by
 have G:=TJ (m:=ds.length - 2) dp dd (by omega) (by omega) (by rw[show ds.length - 2+1=ds.length - 1 by omega];exact ht) hlt;rw[show ds.length - 2+2=ds.length by omega,show ds.length - 2+1=ds.length - 1 by omega] at G;have HX:=aa hx;have HY:=aa hy;obtain⟨ao,ac,rfl,a1,a2,a3,a4⟩:=hx;obtain⟨bo,bc,rfl,b1,b2,b3,b4⟩:=hy;obtain⟨a,rfl,c1⟩:=a4 ds.length (by omega);have c2:=HX.out.at (i:=ds.length - 1) (by omega);have c3:=HX.out.at (i:=ds.length - 2) (by omega);obtain⟨b,rfl,c4⟩:=b4 (ds.length - 1) (by omega);have c5:=HY.out.at (i:=ds.length - 2) (by omega);clear a4 b4 a3 b3 hlt;have hH:=G.high;have Zz:=dp.getD (by decide) ds.length;have OH:=dp.getD (by decide) (ds.length - 1);have Hx:=dp.getD (by decide) (ds.length - 2);have Rz:=dd.getD (by decide) (ds.length - 1)
 have No:=dd.getD (by decide) (ds.length - 2);unfold nth at c1 c2 c3 c4 c5;generalize ps.getD ds.length 0=p0 at *;generalize ps.getD (ds.length - 1) 0=p1 at *;generalize ps.getD (ds.length - 2) 0=p2 at *;generalize ds.getD (ds.length - 1) 0=t at *;generalize ds.getD (ds.length - 2) 0=x at *;generalize aG ^ (ds.length - 2)=E at *;generalize val aG ps=P at *;generalize val aG ds=D at *;have Aq:=Bz (r:=p0) (x:=p1) Zz OH;have ZI:=r6 (r:=p0) (x:=p1) Zz OH;have HJ:Hid (k_ p0 p1=((gg p0 p1:Nat):Int)):=aa rfl;have hJ:gg p0 p1<18446744073709551616:=by have hL:aG=4294967296:=rfl;unfold gg;omega
 have q0:((gg p0 p1:Nat):Int) / (t:Int)=((gg p0 p1 / t:Nat):Int):=by simp
 have r0:((gg p0 p1:Nat):Int) % (t:Int)=((gg p0 p1 % t:Nat):Int):=by simp
 rw[show ((gg p0 p1:Nat):Int)=k_ p0 p1 from rfl] at q0 r0;have FR:gg p0 p1 / t<=gg p0 p1:=Nat.div_le_self _ _;have Zw:gg p0 p1 / t*t+gg p0 p1 % t=gg p0 p1:=by rw[fN];exact pz _ _
 have jT:gg p0 p1 % t<=gg p0 p1:=Nat.mod_le _ _;have hst:=G.start;have HG:=aa G;clear G;generalize hHn:gg p0 p1=H at *;generalize H / t=qs at *;generalize H % t=rs at *;generalize k_ p0 p1=HI at *;have hn:ds.length<=ps.length:=by omega
 have bO:=aa hst;have V5:=aa Zw;have HH:=aa hH;have Vz:0<=HI / (t:Int)/\HI / (t:Int)<18446744073709551616:=by rw[q0];omega
 have hrb:0<=HI % (t:Int)/\HI % (t:Int)<18446744073709551616:=by rw[r0];omega
 have Q0:=aa q0;have R0:=aa r0;clear hst Zw hH q0 r0;have hL:aG=4294967296:=rfl;have W0:IntKind.u64.wrap (p0:Int)=(p0:Int):=pB _ (by omega);have W1:IntKind.u64.wrap (p1:Int)=(p1:Int):=pB _ (by omega);have W2:IntKind.u64.wrap ((p0:Int)*4294967296)=(p0:Int)*4294967296:=pB _ (by omega);have W3:IntKind.u64.wrap (t:Int)=(t:Int):=pB _ (by omega);have W4:IntKind.u64.wrap (x:Int)=(x:Int):=pB _ (by omega);go_enter Tryz.func203,Tryz.ntmps203
 go_wp2_with fail
 go_quiet (fail)
 try simp only[W0,W1,W2,Aq]
 go_wp2_with fail
 go_quiet (fail)
 try simp only[W3,W4]
 clear W0 W1 W2 W3 W4 Aq;go_wp2_with fail
 go_quiet (fail)
 simp only[Q0.out,R0.out];clear Vz hrb;go_wp2_with fail
 go_loopw [9,10] (fun c i wr=>∃ q r:Nat,c=.int .u64 (q:Int)/\i=.int .u64 (r:Int)/\q<18446744073709551616/\r<18446744073709551616/\Hid (q*t+r=H)/\Hid (P / D<=q)/\aA w.heap.size w wr) (fun c _ _=>(intOf c).toNat)
 case atStart=>exact⟨qs,rs,rfl,rfl,by omega,by omega,V5,bO,((ij _ _ _).trans (ij _ _ _)).trans (ij _ _ _)⟩
 case round =>
  clear V5 bO jT FR Q0 R0;obtain⟨q,r,rfl,rfl,hq,hr,HQ,HP,hb⟩:=hrel;have c3':wr.cell? (a.add (ds.length - 2))=some (.int .u32 (p2:Int)):=by rw[hb.cell (cu c3)];exact c3
  clear c1 c2 c3 c4 c5;have aJm:p2<4294967296:=Hx
  by_cases hr1:4294967296<=r
  ·have SS:q<aG:=by
    rcases ir q aG with h | h
    ·exact h
    exfalso
    have e:=aV t h;have e2:=HQ.out;have e3:=HH.out;rw[fN t aG] at e3;have hL:aG=4294967296:=rfl
    omega
   have HF:=aa (HG.out.stop HQ.out SS (Or.inr hr1));have hqL:q<4294967296:=SS;go_wp2_with fail
   go_ret
   exact⟨q,rfl,SS,HP.out,HF.out,hb⟩
  by_cases hq1:4294967296<=q
  ·have Yo:=aa (show P / D<=q - 1 by have hL:aG=4294967296:=rfl;have:=HG.out.quo;omega)
   have UM:=aa (show (q - 1)*t+(r+t)=H by
    have e:q*t=(q - 1)*t+t:=by rw[<-Nat.succ_mul];congr 1;omega
    have:=HQ.out;omega)
   have qg:r+t<18446744073709551616:=by have:=UM.out;omega
   go_wp2_with fail
   go_roundw
   case rel=>exact⟨q - 1,r+t,by go_num,by go_num,by omega,qg,UM,Yo,hb⟩
   case measure=>simp[intOf];omega
  have hqx:0<=(q:Int)*(x:Int)/\(q:Int)*(x:Int)<=18446744065119617025:=by
   have:=qd (x:=q) (y:=x) (by omega) No;have e:(q:Int)*(x:Int)=((q*x:Nat):Int):=by simp
   rw[e];omega
  have Aq:=Bz (r:=r) (x:=p2) (by omega) Hx;have ZI:=r6 (r:=r) (x:=p2) (by omega) Hx
  by_cases hc:gg r p2<q*x
  ·have hP:=HG.out.down HQ.out hc;have Yo:=aa (show P / D<=q - 1 by omega)
   have FR:0<q:=by
    rcases bQ q with h | h
    ·rw[h] at hc;omega
    exact h
   have UM:=aa (show (q - 1)*t+(r+t)=H by
    have e:q*t=(q - 1)*t+t:=by rw[<-Nat.succ_mul];congr 1;omega
    have:=HQ.out;omega)
   have qg:r+t<18446744073709551616:=by have:=UM.out;omega
   have qB:k_ r p2<(q:Int)*(x:Int):=by unfold k_;exact_mod_cast hc
   clear hc hP;go_wp2_with fail
   go_roundw
   case rel=>exact⟨q - 1,r+t,by go_num,by go_num,by omega,qg,UM,Yo,hb⟩
   case measure=>simp[intOf];omega
  have HF:=aa (HG.out.stop HQ.out (Nat.lt_of_not_le hq1) (Or.inl (Nat.le_of_not_lt hc)))
  have qB:(q:Int)*(x:Int)<=k_ r p2:=by
   unfold k_;have:=Nat.le_of_not_lt hc
   exact_mod_cast this
  clear hc;have hqL:q<4294967296:=by omega
  go_wp2_with fail
  go_ret
  exact⟨q,rfl,Nat.lt_of_not_le hq1,HP.out,HF.out,hb⟩
theorem Am {B:Nat} {t ys:List Nat} {S x k c b z v b':Nat} (hy:k<ys.length) (ht:k<t.length) (h:val B t+x*val B (ys.take k)=S+(c+b)*B ^ k) (hz:z=c+x*ys.getD k 0) (hv:v+z % B+b=t.getD k 0+b'*B) :
  val B (t.set k v)+x*val B (ys.take (k+1))=S+(z / B+b')*B ^ (k+1):=by
 have h1:=kY B t k v ht;rw[gF B ys k hy,cj];have h2:=Nat.mod_add_div z B;generalize z % B=r at *;generalize z / B=q at *;generalize B ^ k=P at *;have h3:(r+B*q)*P=(c+x*ys.getD k 0)*P:=by rw[h2,hz]
 have h4:(v+r+b)*P=(t.getD k 0+b'*B)*P:=by rw[hv]
 grind
theorem An {B:Nat} {t:List Nat} {S Y k c b v b':Nat} (ht:k<t.length) (h:val B t+Y=S+(c+b)*B ^ k) (hv:v+c+b=t.getD k 0+b'*B) :
  val B (t.set k v)+Y=S+b'*B ^ (k+1):=by
 have h1:=kY B t k v ht;rw[cj];generalize B ^ k=P at *;have h4:(v+c+b)*P=(t.getD k 0+b'*B)*P:=by rw[hv]
 grind
theorem Bv (g:Nat) (pre s post ys:List Nat) (vs vb:aq) (x:Nat) (zx:Int) (w:ag) (hw:Ws w .u32 153 vs g pre s post) (hb:Sl w .u32 vb ys) (ha:ua g vb) (hl:s.length=ys.length+1)
  (hs:eV aG s) (hy:eV aG ys) (WK:zx=(x:Int)) (hx:x<4294967296) :
  aW aj 204 #[vs,vb,.int .u32 zx] w fun e w'=>∃ s' b o,e=.returned (.bool o)/\(b=0/\o=false\/b=1/\o=true)/\Ws w' .u32 153 vs g pre s' post/\w.grownBy w' (some g)/\s'.length=s.length/\eV aG s' /\
   val aG s'+x*val aG ys=val aG s+b*aG ^ (ys.length+1):=by
 subst WK;have IX:ys.length<s.length:=by omega
 have HL:=aa hl;clear hl;obtain⟨ao,cap,rfl,h1,h2,h3,h4⟩:=hw;have HB:=aa hb;obtain⟨bo,QO,rfl,k1,k2,k3,k4⟩:=hb;go_enter Tryz.func204,Tryz.ntmps204
 go_wp2
 go_loopw [7,8,13] (fun c b i wr=>∃ (k:Nat) (t:List Nat) (cc bb:Nat),i=.int .i64 k/\c=.int .u64 (cc:Int)/\b=.int .u32 (bb:Int)/\cc<4294967296/\bb<=1/\k<=ys.length/\w.grownBy wr (some g)/\Hid (t.length=s.length)/\eV 4294967296 t /\
   Fe wr .u32 153 ao g pre t post s.length/\Hid (val aG t+x*val aG (ys.take k)=val aG s+(cc+bb)*aG ^ k))
  (fun _ _ i _=>ys.length - (intOf i).toNat)
 case atStart=>exact⟨0,s,0,0,rfl,rfl,rfl,by omega,by omega,by omega,aI _ _,aa rfl,hs,h4,aa (by simp[val])⟩
 case round =>
  obtain⟨k,t,cc,bb,rfl,rfl,rfl,tj,Ig,hk,hg,Ht,rG,hB,HV⟩:=hrel
  by_cases hlt:k<ys.length
  ·obtain⟨b,rfl,hcb⟩:=k4 k hlt;obtain⟨rfl,sD⟩:=hB (by omega);have ng:k<t.length:=by have:=Ht.out;omega
   have NH:=(HB.out.grown hg ha).at hlt
   have hct:wr.cell? ⟨g,pre.length+k,none⟩=some (.int .u32 (nth t k)):=by
    rw[sD.cell (by simp;omega),nA _ _ _ _ ng]
   have hft:=sD.frozen (pre.length+k);have y1:=jq hy k;have t1:=jq rG k;have y0:=hy.getD (by decide) k;have t0:=rG.getD (by decide) k
   have hm:0<=(x:Int)*nth ys k/\(x:Int)*nth ys k<=18446744065119617025:=by
    have:=qd hx y0;have e:(x:Int)*nth ys k=((x*ys.getD k 0:Nat):Int):=by unfold nth;simp
    rw[e];omega
   have HE:=aa (show (cc:Int)+(x:Int)*nth ys k=((cc+x*ys.getD k 0:Nat):Int) by unfold nth;simp);have HZ:=aa (show cc+x*ys.getD k 0<18446744073709551616 by have:=qd hx y0;omega);obtain⟨b',e1,e2,v',e3,e4,e5⟩:=tA (t.getD k 0) ((cc+x*ys.getD k 0) % aG) bb t0 (dZ _ (by decide)) Ig;have HS:=aa (Am hlt ng HV.out rfl e5);have E1:=aa e1;have E3:=aa e3;have HM:=aa (show ((cc:Int)+(x:Int)*nth ys k) % 4294967296=(((cc+x*ys.getD k 0) % aG:Nat):Int) by rw[HE.out];rfl);clear hcb hB h4 k4 y0 t0 e1 e3 e5;go_wp2_with (go_at_call 181;refine (sU _ _ _ _ (by omega) (by omega) (by omega)).mono ?_;rintro e w' ⟨rfl,rfl⟩)
   go_roundw
   case rel =>
    have hE:=HE.out;have hz:=HZ.out;refine⟨k+1,t.set k v',(cc+x*ys.getD k 0) / aG,b',by go_num,?_,?_,?_,e2,by omega,aF hg _,aa (by rw[bY];exact Ht.out),rG.set e4,fun _=>⟨rfl,?_⟩,HS⟩
    ·rw[hE];congr 1
    ·rw[<-E1.out,HM.out];rfl
    ·exact eG (by omega)
    rw[<-nn _ _ _ _ _ ng];exact sD.set _ _ _ (by rw[HM.out,<-E3.out];rfl)
   case measure=>simp[intOf];omega
  have hkk:k=ys.length:=by omega
  subst hkk;obtain⟨rfl,sD⟩:=hB (by omega);have ng:ys.length<t.length:=by have:=Ht.out;omega
  have hft:=sD.frozen (pre.length+ys.length)
  have hct:wr.cell? ⟨g,pre.length+ys.length,none⟩=some (.int .u32 (nth t ys.length)):=by
   rw[sD.cell (by simp;omega),nA _ _ _ _ ng]
  have t1:=jq rG ys.length;have t0:=rG.getD (by decide) ys.length;obtain⟨b',e1,e2,v',e3,e4,e5⟩:=tA (t.getD ys.length 0) cc bb t0 tj Ig;have Pc:=aa (show val aG t+x*val aG ys=val aG s+(cc+bb)*aG ^ ys.length by have:=HV.out;rwa [bK] at this);have HS:=aa (An ng Pc.out e5);have E1:=aa e1;have E3:=aa e3
  have oE:∀ w2,pR w2 g .u32 153 (pre++t.set ys.length v'++post)->Ws w2 .u32 153 (.slice (some ⟨g,pre.length,none⟩) s.length cap) g pre (t.set ys.length v') post:=fun w2 h =>
   ⟨some ⟨g,pre.length,none⟩,cap,by rw[bY,Ht.out],by rw[bY,Ht.out];exact h1,h2,h3,fun _=>⟨rfl,h⟩⟩
  have Ch:=aa oE;have ZP:zN (nth t ys.length) cc bb=(b':Int):=e1;have jl:=aa ZP;clear hB h4 k4 e1 e3 e5 t0 oE HV Pc ZP;go_wp2_with (go_at_call 181;refine (sU _ _ _ _ (by omega) (by omega) (by omega)).mono ?_;rintro e w' ⟨rfl,rfl⟩)
  go_ret
  refine⟨t.set ys.length v',b',decide ((0:Int)<zN (nth t ys.length) cc bb),rfl,?_,?_,aF hg _,by rw[bY];exact Ht.out,rG.set e4,HS.out⟩
  ·rcases bQ b' with h | h
   ·exact Or.inl ⟨h,by rw[jl.out,h];rfl⟩
   exact Or.inr ⟨by omega,by rw[jl.out];simpa using h⟩
  refine Ch.out _ ?_;rw[<-nn _ _ _ _ _ ng];exact sD.set _ _ _ (by rw[<-E3.out];rfl)
theorem GJ {P D g t' b n:Nat} (hD:0<D) (h1:P / D<=g) (h2:g<=P / D+1) (h:t'+g*D=P+b*aG ^ n) (ht:t'<aG ^ n) (hb:b=0\/b=1) (hP:D<=aG ^ n) :
  b=0/\g=P / D/\t'=P % D\/b=1/\g=P / D+1/\(t'+D) % aG ^ n=P % D:=by
 have hm:=pz P D;have hr:=dZ P hD;rw[fN] at hm;generalize P / D=Q at *;generalize P % D=R at *;generalize aG ^ n=T at *;have hg:g=Q\/g=Q+1:=by omega
 rcases hg with rfl | rfl
 ·rcases hb with rfl | rfl
  ·left;exact⟨rfl,rfl,by omega⟩
  exfalso;omega
 rw[Nat.succ_mul] at h;rcases hb with rfl | rfl
 ·exfalso;omega
 right
 refine⟨rfl,rfl,?_⟩;rw[show t'+D=R+1*T by omega,Nat.add_mul_mod_self_right,iB (by omega)]
theorem Di (g:Nat) (pre s post ys:List Nat) (vs vb:aq) (w:ag) (hw:Ws w .u32 153 vs g pre s post) (hb:Sl w .u32 vb ys) (ha:ua g vb) (hl:s.length=ys.length+1) (C6:2<=ys.length)
  (hs:eV aG s) (hy:eV aG ys) (ht:0<ys.getD (ys.length - 1) 0) (hlt:val aG s<val aG ys*aG) (hg:g<w.heap.size) :
  aW aj 188 #[vs,vb] w fun e w'=>∃ (s':List Nat) (q:Nat),e=.returned (.int .u32 (q:Int))/\q=val aG s / val aG ys/\q<aG/\Ws w' .u32 153 vs g pre s' post/\w.grownBy w' (some g)/\s'.length=s.length/\eV aG s' /\
   val aG s'=val aG s % val aG ys:=by
 have hpos:0<val aG ys:=by
  rcases bQ (val aG ys) with h | h
  ·rw[h] at hlt;omega
  exact h
 have Yx:=aa hlt;have HL:=aa hl;have FO:=aa hw.sl;have HT:=aa ht;clear hlt hl ht;obtain⟨ao,cap,rfl⟩:=hw.at;go_enter Tryz.func188,Tryz.ntmps188
 go_wp2_with fail
 refine (Av _ _ s ys w FO.out hb hs hy C6 HL.out HT.out Yx.out).mono ?_;rintro e w1 ⟨x,rfl,hx,No,r7,eH⟩;have SI:=hw.below eH hg;have PX:=hb.below eH;have fg:w.grownBy w1 (some g):=zv eH;go_wp2_with fail
 refine (Bv g pre s post ys _ _ x _ w1 SI PX ha HL.out hs hy rfl hx).mono ?_;rintro e w2 ⟨t,b,o,rfl,ga,PZ,fK,KP,Ev,xj⟩;have Tp:=xm fg fK;have TD:val aG ys<=aG ^ (ys.length+1):=ah (wK (eW hy)) (cf (by decide) (by omega));have hm:=GJ (n:=ys.length+1) hpos No r7 xj (by have:=eW Ev;rw[KP,HL.out] at this;exact this) (by omega) TD;have HV:=aa xj;clear xj No r7;have hxL:x<4294967296:=hx;rcases ga with ⟨rfl,rfl⟩ | ⟨rfl,rfl⟩
 ·have hm':x=val aG s / val aG ys/\val aG t=val aG s % val aG ys:=by omega
  have HM:=aa hm';clear hm hm';have I6:=aa KP;clear KP;go_wp2_with fail
  go_ret
  exact⟨t,x,rfl,HM.out.1,hx,PZ,Tp,I6.out,Ev,HM.out.2⟩
 have hm':x=val aG s / val aG ys+1/\(val aG t+val aG ys) % aG ^ (ys.length+1)=val aG s % val aG ys:=by omega
 have HM:=aa hm';have hx0:0<x:=by rw[hm'.1];exact Nat.succ_pos _
 have I6:=aa KP;clear hm hm' KP;have Rx:=PX.grown fK ha;have hle:ys.length<=t.length:=by have:=I6.out;have:=HL.out;omega
 have aJf:Ws w2 .u32 153 (.slice ao s.length cap) g pre t post:=PZ;go_wp2_with fail
 refine (wC g pre t post ys _ _ w2 PZ Rx ha hle Ev hy).mono ?_;rintro e w3 ⟨r,rfl,hw3,LW,Et,Ie,Hw⟩;have Xn:=xm Tp LW;have Cp:=aa Hw;have V':=aa Et;clear Hw Et hle;go_wp2_with fail
 go_ret
 refine⟨r,x - 1,?_,by have:=HM.out.1;omega,qz (Nat.sub_le _ _) hx,hw3,Xn,by rw[V'.out,I6.out],Ie,?_⟩
 ·rw[show ((x - 1:Nat):Int)=(x:Int) - 1 by omega];rfl
 rw[Cp.out,I6.out,HL.out];exact HM.out.2
theorem Sw (n:Nat):n<2 ^ bl n:=by
 have h:=eW (kE (B:=2) (by decide) n)
 rwa [iW (by decide)] at h
theorem GO {Y:List Nat} {n s:Nat} (dy:eV aG Y) (hn:Y.length=n+1) (ht:0<Y.getD n 0) (hs:s+bl (Y.getD n 0)<=32) :
  (fJ aG (val aG Y*2 ^ s)).length=n+1/\0<(fJ aG (val aG Y*2 ^ s)).getD n 0/\aG ^ n*2 ^ s<=val aG Y*2 ^ s:=by
 have e:=dG aG Y n;rw[show n+1=Y.length by omega,bK] at e;have h1:=eW (dy.take n);rw[aX,cX (by omega)] at h1;have h2:=Sw (Y.getD n 0);generalize Y.getD n 0=t at *
 have hlo:aG ^ n<=val aG Y:=by
  rw[e];have:=aV (aG ^ n) ht
  omega
 have Xa:aG ^ n*2 ^ s<=val aG Y*2 ^ s:=aV _ hlo
 have WS:val aG Y*2 ^ s<aG ^ (n+1):=by
  have h3:val aG Y<(t+1)*aG ^ n:=by rw[e,Nat.succ_mul];omega
  have h4:(t+1)*aG ^ n<=2 ^ bl t*aG ^ n:=aV _ h2;have h5:val aG Y*2 ^ s<2 ^ bl t*aG ^ n*2 ^ s:=jS (az h3 h4) (dj (by decide));have h6:2 ^ bl t*aG ^ n*2 ^ s=2 ^ (s+bl t)*aG ^ n:=by rw[jR];grind
  have h7:2 ^ (s+bl t)<=2 ^ 32:=cf (by decide) hs;have h8:2 ^ (s+bl t)*aG ^ n<=2 ^ 32*aG ^ n:=aV _ h7;have h9:aG ^ (n+1)=2 ^ 32*aG ^ n:=by rw[cj,fN]
  omega
 have hge:aG ^ n<=val aG Y*2 ^ s:=ah hlo (Nat.le_mul_of_pos_right _ (dj (by decide)));generalize val aG Y*2 ^ s=D at *;have hd:=kE (B:=aG) (by decide) D;have hv:=iW (B:=aG) (by decide) D
 have hl:(fJ aG D).length=n+1:=by
  have h1:=f_ (B:=aG) (by decide) WS;rcases ir (fJ aG D).length (n+1) with h | h
  ·exfalso
   have h3:=eW hd;rw[hv] at h3;have h4:aG ^ (fJ aG D).length<=aG ^ n:=cf (by decide) (by omega)
   omega
  omega
 refine⟨hl,?_,Xa⟩;rcases bQ ((fJ aG D).getD n 0) with h | h
 ·exfalso
  have e2:=dG aG (fJ aG D) n;rw[show n+1=(fJ aG D).length by omega,bK,h,hv,Nat.zero_mul] at e2;have h3:=eW (hd.take n);rw[aX,cX (by omega)] at h3
  omega
 exact h
theorem yC {B:Nat} {R:List Nat} {j:Nat} (h:val B R<B ^ j):val B R=val B (R.take j):=by
 rcases ir R.length j with hj | hj
 ·rw[cw (by omega)]
 have h1:=jB B R j hj;rcases bQ (val B (R.drop j)) with h0 | h0
 ·rw[h0] at h1;omega
 have:=fk (B ^ j) h0
 omega
theorem Hh {B:Nat} (B0:0<B) {R Q:List Nat} {D A i n:Nat} (dr:eV B R) (hD:D<B ^ n) (hi:i+n+1<=R.length) (hA:val B R+D*val B Q=A) (hR:val B R<D*B ^ (i+1)) :
  val B ((R.drop i).take (n+1))<D*B/\∀ (s':List Nat) (q:Nat),s'.length=n+1->i<Q.length->Q.getD i 0=0->q=val B ((R.drop i).take (n+1)) / D->val B s'=val B ((R.drop i).take (n+1)) % D ->
   val B (R.take i++s'++R.drop (i+(n+1)))+D*val B (Q.set i q)=A/\val B (R.take i++s'++R.drop (i+(n+1)))<D*B ^ i:=by
 have hpos:0<D:=by
  rcases bQ D with h | h
  ·rw[h] at hR;omega
  exact h
 have hlt:val B R<B ^ (i+(n+1)):=by
  refine az hR ?_;rw[show i+(n+1)=n+(i+1) by omega,jR B n];exact aV _ (wK hD)
 have h1:=yC hlt
 have h0:val B (R.drop (i+(n+1)))=0:=by
  have h2:=jB B R (i+(n+1)) (by omega);rw[<-h1] at h2;have h3:0<B ^ (i+(n+1)):=dj B0;rcases bQ (val B (R.drop (i+(n+1)))) with h | h
  ·exact h
  have:=Nat.mul_pos h3 h;omega
 have h4:=jB B R i (by omega)
 have h5:val B (R.drop i)=val B ((R.drop i).take (n+1)):=by
  have h6:=jB B (R.drop i) (n+1) (by rw[jh];omega);rw[List.drop_drop,h0] at h6
  omega
 have h7:=eW (dr.take i);rw[aX,cX (by omega)] at h7;have hP:0<B ^ i:=dj B0;rw[h5] at h4;generalize hS:val B ((R.drop i).take (n+1))=S at *;rw[cj] at hR;refine⟨?_,?_⟩
 ·refine Nat.lt_of_mul_lt_mul_left (a:=B ^ i) ?_;have e:B ^ i*(D*B)=D*(B ^ i*B):=by grind
  rw[e];omega
 intro s' q hl qm FR hq hs
 have e1:val B (R.take i++s'++R.drop (i+(n+1)))=val B (R.take i)+B ^ i*val B s':=by
  rw[mb,mb,h0,aX,cX (by omega)]
  omega
 have e2:=kY B Q i q qm;rw[FR] at e2;have e3:=pz S D;have e4:=dZ S hpos;rw[e1,hs];rw[<-hq] at e3;generalize S % D=r at *;generalize val B (R.take i)=T at *;generalize B ^ i=P at *
 constructor
 ·rw[<-hA,h4,<-e3,show val B (Q.set i q)=val B Q+q*P by omega]
  grind
 have e5:P*(r+1)<=P*D:=fk _ e4;rw[fN D P];rw[Nat.mul_succ] at e5
 omega
theorem Pk {w:ag} {T:bn} {g i n c:Nat} {P:List Nat} (hB:pR w g .u32 T P) (hi:i+n<=P.length) (hc:n<=c) (hm:c<=9223372036854775807) :
  Ws w .u32 T (.slice (some ⟨g,i,none⟩) n c) g (P.take i) ((P.drop i).take n) (P.drop (i+n)):=by
 have e1:((P.drop i).take n).length=n:=by simp;omega
 have e2:(P.take i).length=i:=by simp;omega
 refine⟨some ⟨g,i,none⟩,c,by rw[e1],by rw[e1];omega,hm,(fun e=>by cases e),fun _=>⟨by rw[e2],?_⟩⟩
 have e3:P.take i++(P.drop i).take n++P.drop (i+n)=P:=by
  rw[List.append_assoc,<-List.drop_drop,o7,o7]
 rw[e3];exact hB
set_option maxRecDepth 100000 in
theorem Dj (va vb:aq) (X Y:List Nat) (w:ag) (hx:Sl w .u32 va X) (hy:Sl w .u32 vb Y) (dx:eV aG X) (dy:eV aG Y) (hn:2<=Y.length) (ht:0<Y.getD (Y.length - 1) 0) (hm:X.length<=900000) (hle:val aG Y<=val aG X) :
  aW aj 157 #[va,vb] w fun e w'=>∃ q r,e=.returned (.tuple #[q,r])/\Sl w' .u32 q (fJ aG (val aG X / val aG Y))/\Sl w' .u32 r (fJ aG (val aG X % val aG Y))/\aA w.heap.size w w':=by
 obtain⟨i0,hi,hz0,gV,pJ⟩:=info_parts vS;have t0:=dy.getD (by decide) (Y.length - 1);have t1:=jq dy (Y.length - 1);have aJo:bl (Y.getD (Y.length - 1) 0)<=32:=O5 t0;obtain⟨s,hs⟩:∃ s,s=32 - bl (Y.getD (Y.length - 1) 0):=⟨_,rfl⟩
 have dw:(32:Int) - (Lib.bitLen (nth Y (Y.length - 1)).toNat:Int)=(s:Int):=by
  unfold nth;rw[Int.toNat_natCast,Bf _ (wJ t0 (by decide))];omega
 have dO:gj (s:Int)=s:=by unfold gj;omega
 obtain⟨h1,h2,h3⟩:=GO (n:=Y.length - 1) (s:=s) dy (by omega) ht (by omega);rw[show Y.length - 1+1=Y.length by omega] at h1
 have hmn:Y.length<=X.length:=by
  rcases ir X.length Y.length with h | h
  ·exfalso
   have e1:=eW dx;have e2:aG ^ X.length<=aG ^ (Y.length - 1):=cf (by decide) (by omega);have e3:=Nat.le_of_mul_le_mul_right h3 (dj (by decide))
   omega
  exact h
 have ZR:val aG X*2 ^ s<aG ^ (X.length+1):=by
  rw[cj];exact Nat.mul_lt_mul_of_lt_of_le (eW dx) (show 2 ^ s<=2 ^ 32 from cf (by decide) (by omega)) (by decide)
 have hla:=f_ (B:=aG) (k:=X.length+1) (by decide) ZR
 have FR:val aG X*2 ^ s<val aG Y*2 ^ s*aG ^ (X.length - Y.length+1):=by
  have e1:aG ^ (Y.length - 1)*2 ^ s*aG ^ (X.length - Y.length+1)<=val aG Y*2 ^ s*aG ^ (X.length - Y.length+1):=aV _ h3
  have e2:aG ^ (Y.length - 1)*2 ^ s*aG ^ (X.length - Y.length+1)=aG ^ X.length*2 ^ s:=by
   rw[Nat.mul_right_comm,<-jR];congr 2;omega
  have e3:val aG X*2 ^ s<aG ^ X.length*2 ^ s:=jS (eW dx) (dj (by decide))
  omega
 have TD:val aG Y*2 ^ s<aG ^ Y.length:=by
  have:=eW (kE (B:=aG) (by decide) (val aG Y*2 ^ s))
  rwa [iW (by decide),h1] at this
 have hdiv:val aG X*2 ^ s / (val aG Y*2 ^ s)=val aG X / val aG Y:=Nat.mul_div_mul_right _ _ (dj (by decide))
 have Ep:val aG X*2 ^ s % (val aG Y*2 ^ s) / 2 ^ s=val aG X % val aG Y:=by
  rw[Nat.mul_mod_mul_right,Nat.mul_div_cancel _ (dj (by decide))]
 have aJj:s<=32:=by omega
 obtain⟨Dl,TE⟩:∃ Dl,Dl=fJ aG (val aG Y*2 ^ s):=⟨_,rfl⟩
 obtain⟨D,VF⟩:∃ D,D=val aG Y*2 ^ s:=⟨_,rfl⟩
 obtain⟨A,XL⟩:∃ A,A=val aG X*2 ^ s:=⟨_,rfl⟩
 obtain⟨R0,RG⟩:∃ R0,R0=fJ aG (val aG X*2 ^ s)++List.replicate (X.length+1 - (fJ aG (val aG X*2 ^ s)).length) 0:=⟨_,rfl⟩
 have dDl:eV aG Dl:=by rw[TE];exact kE (by decide) _
 have YW:val aG Dl=D:=by rw[TE,iW (by decide),VF]
 have dR0:eV aG R0:=by rw[RG];exact (kE (by decide) _).append (eV.replicate (by decide) _)
 have YV:val aG R0=A:=by rw[RG,mu,iW (by decide),XL]
 have Y8:R0.length=X.length+1:=by rw[RG,eY,List.length_replicate];omega
 have TC:0<D:=by
  rcases bQ D with h | h
  ·rw[VF] at h;rw[h] at FR;omega
  exact h
 rw[<-TE] at h1 h2;rw[<-VF] at FR TD hdiv Ep;rw[<-XL] at FR hdiv Ep;have Yj:=aa Y8;have Q6:=aa YV;have HVD:=aa YW;have HDl:=aa TE;have HR0:=aa RG;have HD:=aa hdiv;have HM:=aa Ep;have HC:=aa dO;have gb:=aa dw;have HT:=aa h2;have HQ0:=aa FR;have HDN:=aa TD;have Fh:=aa hla;have V_:=aa h1;clear hdiv Ep dO dw h1 h2 h3 FR TD ZR ht hle hla hs TE RG YW YV Y8 VF XL;obtain⟨ao,ac,rfl⟩:=bZ hx;have HY:=aa hy;obtain⟨bo,bc,rfl,b1,b2,b3,b4⟩:=hy;obtain⟨b,rfl,c1⟩:=b4 (Y.length - 1) (by omega);clear b4 b3;go_enter Tryz.func157,Tryz.ntmps157
 go_wp2_with fail
 refine (Tryz.bits_LeadingZeros32 _ _ (by omega) (by omega)).mono ?_;rintro e w' ⟨rfl,hw'⟩;obtain rfl:=hw'.symm;rw[gb.out];go_wp2_with fail
 refine (Fv _ Y _ _ HY.out dy (by omega)).mono ?_;rintro e w1 ⟨vd,rfl,VB,eH⟩;rw[HC.out,<-HDl.out] at VB;go_wp2_with fail
 refine (Fv _ X _ w1 (hx.below eH) dx (by omega)).mono ?_;rintro e w2 ⟨v2,rfl,Au,dI⟩;rw[HC.out] at Au;have Ev:=VB.below dI;have gD:aA _ _ w2:=eH.trans (dI.mono eH.size);obtain⟨o2,cp2,rfl⟩:=bZ Au;go_wp2_with fail
 refine (mg o2 _ cp2 _ (X.length+1) _ w2 Au Fh.out (by omega) (by omega)).mono ?_;rintro e w3 ⟨v3,rfl,Zv,kH,KG⟩;rw[<-HR0.out] at Zv;have su:aA _ _ w3:=gD.trans (kH.mono gD.size);obtain⟨o3,c3,rfl,r1,r2,r3,r4⟩:=Zv;obtain⟨rfl,RJ⟩:=r4 (by rw[Yj.out];omega);rw[List.nil_append,List.append_nil] at RJ;rw[Yj.out] at r1 r4 ⊢;have aJk:w2.heap.size<w3.heap.size:=KG (by omega);have Ie:=Ev.below kH;obtain⟨od,cd,rfl⟩:=bZ Ie;have hap:ua w2.heap.size (.slice od Dl.length cd):=p9 Ev (ai _);rw[V_.out] at hap Ie ⊢;clear KG r4 Au Ev VB;go_wp2_with (at_make;refine iO _ rfl _ _ 24 rfl 153 i0 .u32 Tryz.underlying24 hi hz0 gV _ _ _ _ (X.length - Y.length+1) rfl rfl (by omega) (by omega) (by omega) (by omega) ?_;intro w4 ZZ rN DF)
 have ZM:=Ie.below rN;have qP:aA w.heap.size w w4:=su.trans (rN.mono su.size);have TI:=RJ.below rN (by omega);have XD:ua w3.heap.size (.slice od Y.length cd):=p9 Ie (ai _);have fg:=gD.size;have fK:=su.size;clear RJ Ie
 go_loopw [10] (fun i wr=>∃ (k:Nat) (R Q:List Nat),i=.int .i64 ((k:Int) - 1)/\k<=X.length - Y.length+1/\pR wr w2.heap.size .u32 153 R/\pR wr w3.heap.size .u32 153 Q/\aA w.heap.size w wr/\Sl wr .u32 (.slice od Y.length cd) Dl/\eV aG R/\eV aG Q /\
  Hid (R.length=X.length+1)/\Hid (Q.length=X.length - Y.length+1)/\Hid (∀ j,j<k->Q.getD j 0=0)/\Hid (val aG R+D*val aG Q=A)/\Hid (val aG R<D*aG ^ k)) (fun i _=>(intOf i+1).toNat)
 case atStart=>exact⟨X.length - Y.length+1,R0,_,by go_num,ai _,TI,ZZ,qP,ZM,dR0,eV.replicate (by decide) _,Yj,aa (by simp),aa (fun j _=>uv _ _),aa (by rw[iK,Q6.out];simp),aa (by rw[Q6.out];exact HQ0.out)⟩
 case round =>
  clear TI ZZ qP ZM rN DF;obtain⟨k,R,Q,rfl,hk,VG,VH,hb,hd,dR,dQ,Bi,V8,HZ,HA,HR⟩:=hrel
  by_cases h0:0<k
  ·have Np:=Pk (i:=k - 1) (n:=Y.length+1) (c:=c3 - (k - 1)) VG (by have:=Bi.out;omega) (by omega) (by omega);have hft:=VH.frozen (k - 1);have ZT:k - 1<Q.length:=by have:=V8.out;omega
   go_wp2_with fail
   rw[show k - 1+Y.length+1 - (k - 1)=Y.length+1 by omega];have W_:=Hh (B:=aG) (by decide) (i:=k - 1) (n:=Y.length) dR HDN.out (by have:=Bi.out;omega) HA.out (by rw[show k - 1+1=k by omega];exact HR.out);refine (Di w2.heap.size _ _ _ Dl _ _ wr Np hd hap (by rw[V_.out,aX,jh,Bi.out];omega) (by rw[V_.out];omega) ((dR.drop _).take _) dDl (by rw[V_.out];exact HT.out) (by rw[HVD.out];exact W_.1) VG.lt).mono ?_;rintro e w5 ⟨r,q,rfl,hq,Vz,Nq,Xm,VA,hd5,WQ⟩;rw[HVD.out] at hq WQ;rw[aX,jh,Bi.out,cX (by omega)] at VA;have HN:=aa (W_.2 r q VA ZT (HZ.out _ (by omega)) hq WQ);have XK:=Ct Nq (by omega);have Qu:=VH.other Xm (fun e=>by injection e with e;omega);have aJs:=Qu.frozen (k - 1);have aJt:=Qu.cell ZT
   have we:=hb.trans (fP Xm fg hb.size);have Xr:=hd.grown Xm hap;have aJl:q<4294967296:=Vz;have HL5:=aa VA;clear W_ hq WQ VA Nq Np hft;go_wp2_with fail
   go_roundw
   case rel =>
    have r9:=Qu.set (k - 1) q _ rfl;refine⟨k - 1,R.take (k - 1)++r++R.drop (k - 1+(Y.length+1)),Q.set (k - 1) q,by go_num,by omega,?_,r9,fP (aF (aI _ _) _) fK we.size |> we.trans,Xr.grown (aF (aI _ _) _) XD,((dR.take _).append hd5).append (dR.drop _),dQ.set Vz,aa ?_,aa (by rw[bY];exact V8.out),aa ?_,aa HN.out.1,aa HN.out.2⟩
    ·exact XK.other (aF (aI _ (some w3.heap.size)) _) (fun e=>by injection e with e;omega)
    ·rw[eY,eY,HL5.out,aX,jh,Bi.out];omega
    intro j hj;rw[eJ,if_neg (by omega)];exact HZ.out j (by omega)
   case measure=>simp[intOf];omega
  have pe:k=0:=by omega
  subst pe;have hA:=HA.out;have hR:=HR.out;rw[Nat.pow_zero,Nat.mul_one] at hR
  have e1:val aG Q=A / D:=by
   rw[<-hA,Nat.add_mul_div_left _ _ TC,Nat.div_eq_of_lt hR,Nat.zero_add]
  have e2:val aG R=A % D:=by
   rw[<-hA,Nat.add_mul_mod_self_left,iB hR]
  rw[HD.out] at e1;have e3:val aG R / 2 ^ s=val aG X % val aG Y:=by rw[e2];exact HM.out
  have E1:=aa e1;have E3:=aa e3;have Zt:=VH.sl 0 (X.length - Y.length+1) (X.length - Y.length+1) (by rw[V8.out];omega) (ai _) (by omega);rw[List.drop_zero,cw (by rw[V8.out];omega)] at Zt;have Zs:=VG.sl 0 (X.length+1) c3 (by rw[Bi.out];omega) (by omega) (by omega);rw[List.drop_zero,cw (by rw[Bi.out];omega)] at Zs;clear e1 e2 e3 hA hR VH VG;go_wp2_with fail
  refine (jC _ Q _ Zt dQ).mono ?_;rintro e w6 ⟨v6,rfl,Zp,rfl⟩;go_wp2_with fail
  refine (MI _ R _ wr Zs dR (by rw[Bi.out];omega)).mono ?_;rintro e w7 ⟨v7,rfl,Zo,x_⟩;rw[HC.out,E3.out] at Zo;rw[E1.out] at Zp;go_wp2_with fail
  go_ret2
  exact⟨_,_,rfl,Zp.below x_,Zo,hb.trans (x_.mono hb.size)⟩
theorem PN {xs:List Nat} {B:Nat} (hB:2<=B) (dx:eV B xs) (h:nz xs=xs.length) (hp:0<xs.length):0<xs.getD (xs.length - 1) 0:=by
 rcases bQ (xs.getD (xs.length - 1) 0) with h0 | h0
 ·exfalso
  have e:=dG B xs (xs.length - 1);rw[show xs.length - 1+1=xs.length by omega,bK,h0,Nat.zero_mul,Nat.add_zero] at e;have h1:(fJ B (val B xs)).length=nz xs:=fx hB dx;have h2:=eW (dx.take (xs.length - 1));rw[<-e,aX,cX (by omega)] at h2;have h3:=f_ hB h2
  omega
 exact h0
theorem Ee {xs:List Nat} {B:Nat} (hB:2<=B) (dx:eV B xs):nz (xs.take (nz xs))=nz xs:=by
 have h1:(fJ B (val B xs)).length=nz xs:=fx hB dx;have h2:(fJ B (val B (xs.take (nz xs)))).length=nz (xs.take (nz xs)):=fx hB (dx.take _);rw[ck hB dx] at h2
 omega
theorem NY (va vb:aq) (xs ys:List Nat) (w:ag) (hx:Sl w .u32 va xs) (hy:Sl w .u32 vb ys) (dx:eV aG xs) (dy:eV aG ys) (lx:xs.length<=900000) (h0:val aG ys<=val aG xs) (h1:2<=nz ys) :
  aW aj 111 #[va,vb] w fun e w'=>∃ q r,e=.returned (.tuple #[q,r,.bool true])/\Sl w' .u32 q (fJ aG (val aG xs / val aG ys))/\Sl w' .u32 r (fJ aG (val aG xs % val aG ys))/\aA w.heap.size w w':=by
 obtain⟨ao,ac,rfl⟩:=bZ hx;obtain⟨bo,bc,rfl⟩:=bZ hy;have hly:=gT ys;have nx:=gT xs;have hx':=hx.take (nz xs) (gT xs);have hy':=hy.take (nz ys) (gT ys);have VX:=ck (B:=aG) (by decide) dx;have VY:=ck (B:=aG) (by decide) dy;have lX:(xs.take (nz xs)).length=nz xs:=by simp;omega
 have lY:(ys.take (nz ys)).length=nz ys:=by simp;omega
 have hT:=PN (B:=aG) (by decide) (dy.take (nz ys)) (by rw[Ee (B:=aG) (by decide) dy,lY]) (by omega);have hz:(((nz ys:Nat):Int)==0)=false:=by rw[beq_eq_false_iff_ne];omega
 have gV:(((nz ys:Nat):Int)==1)=false:=by rw[beq_eq_false_iff_ne];omega
 have hc:0<=nG (val aG (xs.take (nz xs))) (val aG (ys.take (nz ys))):=by
  rw[VX,VY];unfold nG;rw[if_neg (by omega)];split<;>omega
 have dX:=dx.take (nz xs);have dY:=dy.take (nz ys);have Ag:=aa hx;have UJ:=aa hy;have Dx:=aa (fun w=>eA ao xs.length ac xs w);have Q3:=aa (fun w=>eA bo ys.length bc ys w);rw[<-VX,<-VY] at h0 ⊢;clear hx hy VX VY dx dy;generalize xs.take (nz xs)=X at *;generalize ys.take (nz ys)=Y at *;generalize nz xs=m at *;generalize nz ys=n at *;have LX:=aa lX;have LY:=aa lY;have HT:=aa hT;have Fg:=aa h0;clear lX lY hT h0;go_enter Tryz.func111,Tryz.ntmps111
 go_wp2_with fail
 refine (Dx.out _ Ag.out).mono ?_;rintro e w' ⟨rfl,rfl⟩;go_wp2_with fail
 refine (Q3.out _ UJ.out).mono ?_;rintro e w' ⟨rfl,rfl⟩;go_wp2_with fail
 refine (tu _ _ _ _ _ hx' hy' dX dY).mono ?_;rintro e w1 ⟨rfl,eH⟩;go_wp2_with fail
 refine (Dj _ _ X Y w1 (hx'.below eH) (hy'.below eH) dX dY (by rw[LY.out];exact h1) HT.out (by rw[LX.out];omega) Fg.out).mono ?_;rintro e w2 ⟨q,r,rfl,hq,hr,dI⟩;go_wp2_with fail
 go_ret3
 exact⟨_,_,rfl,hq,hr,eH.trans (dI.mono eH.size)⟩
theorem NZ (va vb:aq) (xs ys:List Nat) (w:ag) (hx:Sl w .u32 va xs) (hy:Sl w .u32 vb ys) (dx:eV aG xs) (dy:eV aG ys) (lx:xs.length<=900000) (h0:0<val aG ys) :
  aW aj 111 #[va,vb] w fun e w'=>∃ q r,e=.returned (.tuple #[q,r,.bool true])/\Sl w' .u32 q (fJ aG (val aG xs / val aG ys))/\Sl w' .u32 r (fJ aG (val aG xs % val aG ys))/\aA w.heap.size w w':=by
 by_cases h:val aG xs<val aG ys
 ·refine (div_lt va vb xs ys w hx hy dx dy (by omega) h).mono ?_;rintro e w' ⟨r,rfl,hr,hb⟩;exact⟨_,_,rfl,by rw[Nat.div_eq_of_lt h,fD];exact Sl.nil _ _,by rw[iB h];exact hr,hb⟩
 by_cases h1:nz ys=1
 ·exact div_one va vb xs ys w hx hy dx dy (by omega) (by omega) h1
 exact NY va vb xs ys w hx hy dx dy lx (by omega) (by have:=AP dy h0;omega)
theorem Ub {va vb:aq} {m n k1 k2:Nat} {w:ag} (hx:GN w va m k1) (hy:GN w vb n k2) (h1:k1<=900000) (h0:0<n) :
  aW aj 111 #[va,vb] w fun e w'=>∃ q r,e=.returned (.tuple #[q,r,.bool true])/\Sl w' .u32 q (fJ aG (m / n))/\Sl w' .u32 r (fJ aG (m % n))/\aA w.heap.size w w':=by
 obtain⟨xs,hx,dx,rfl,lx⟩:=hx;obtain⟨ys,hy,dy,rfl,ly⟩:=hy;exact NZ _ _ _ _ w hx hy dx dy (by omega) h0
open Classical in
theorem QM {n:Nat} (h:0<n):0<bl n:=by rw[B_ h];omega
def dn (l:List UInt8):Nat:=l.foldl (fun n c=>10*n+(c.toNat - 48)) 0
def YP (l:List UInt8):Prop:=∀ c ∈ l,48<=c.toNat/\c.toNat<=57
theorem NX (l:List UInt8) (c:UInt8):dn (l++[c])=10*dn l+(c.toNat - 48):=by
 unfold dn;rw[List.foldl_append];rfl
theorem sH {d:Nat} (h:d<10):(UInt8.ofNat (48+d)).toNat=48+d:=by
 rw[UInt8.toNat_ofNat'];omega
theorem wB (n:Nat):YP (a_ n)/\dn (a_ n)=n/\a_ n ≠ []/\(0<n->(a_ n).getD 0 48≠48):=by
 induction n using Nat.strongRecOn with
 | ind n ih =>
  by_cases h:n<10
  ·rw[Lib.decDigits_one h];refine⟨?_,?_,by simp,?_⟩
   ·intro c hc;obtain rfl:=List.mem_singleton.1 hc;rw[sH h];omega
   ·show 10*0+((UInt8.ofNat (48+n)).toNat - 48)=n
    rw[sH h];omega
   intro h0 e;have e1:UInt8.ofNat (48+n)=48:=e;have e2:=congrArg UInt8.toNat e1;rw[sH h] at e2;have e3:(48:UInt8).toNat=48:=rfl
   omega
  obtain⟨h1,h2,h3,h4⟩:=ih (n / 10) (by omega);have hd:n % 10<10:=by omega
  rw[a_,dif_neg h];refine⟨?_,?_,by simp,?_⟩
  ·intro c hc;rcases List.mem_append.1 hc with hc | hc
   ·exact h1 c hc
   obtain rfl:=List.mem_singleton.1 hc;rw[sH hd];omega
  ·rw[NX,h2,sH hd];omega
  intro _;have h5:=h4 (by omega)
  cases hl:a_ (n / 10) with
  | nil=>exact absurd hl h3
  | cons a m=>rw[hl] at h5;simpa using h5
end Go.Proofs.YtoncclhbdkjhmaaGreatDoor
namespace Go.Proofs.YtoncclhbdkjhmaaGreatDoor
open Go.RowKit Go.Sort Go.Lib
set_option maxRecDepth 100000
theorem C2 (w:ag) (T:bn) (nd:Nat) (hs:nd<=24):Holds (fun (b:UInt8)=>fm .u8 (b.toNat:Int)) (w.alloc (.cells Lib.zeros24 T)) w.heap.size 0 (nT nd (0:UInt8)):=fun j hj=>by
 have hj':j<nd:=by simpa using hj
 refine⟨?_,World.frozen?_alloc_new _ _ _ _⟩;rw[World.cell?_alloc_new,Lib.zeros24_at _ (by omega),getElem!_pos _ j hj]
 simp
theorem Ca (w:ag) (o:Obj) (dk:Array UInt8) (k:Nat):aA w.heap.size w ((putRow (fun (b:UInt8)=>fm .u8 (b.toNat:Int)) (w.alloc o) w.heap.size 0 dk).drewN k):=by
 rw[alloc_eq_grow];obtain⟨os',_,e⟩:=putRow_grow_new (fun (b:UInt8)=>fm .u8 (b.toNat:Int)) w #[o] w.heap.size 0 dk (ai _);rw[e];exact⟨rfl,rfl,rfl,by show w.heap.size<=(w.heap++os').size;rw[Array.size_append];omega,fun i hi=>heap_grow_old w os' hi⟩
set_option maxRecDepth 100000 in
theorem TN (u : Nat) (h1 : 100 ≤ u) (hu64 : u < 18446744073709551616) (w : ag) (htab : p7 aj w "internal/strconv.uint64pow10" .u64 tT) :
  aW aj 197 #[.int .u64 u,.int .i64 10] w fun e w'=>e=.returned (.string ⟨(a_ u).toArray⟩)/\aA w.heap.size w w':=by
 have ZB:oO u<=20:=by have:=Lib.numDigits_eq u (by omega) hu64;split at this<;>omega
 have hal:Tryz.prog.arrayLen 233=24:=by simp[Program.arrayLen,Tryz.underlying233]
 have aJi:∀ W,(Instr.sliceAt 233 (.pointer (some ⟨w.heap.size,0,none⟩)) none (some (.int .i64 (oO u:Int))) none).run aj W=.ok (.slice (some ⟨w.heap.size,0,none⟩) (oO u) 24) W:=fun W=>by
  rw[run_sliceAt_array_h W 233 ⟨w.heap.size,0,none⟩ (by simp[Program.arrayLen,Program.elem,Tryz.underlying233]) .i64 (oO u:Int) (by omega) (by rw[hal];omega)];go_simp
  try omega
 have XI:=C2 w 233 (oO u) (by omega);have hfmt:=Tryz.internal_strconv_formatBase10 w.heap.size 0 24 u (nT (oO u) 0) (w.alloc (.cells Lib.zeros24 233)) XI (by rw[nL];exact Lib.lt_pow_nDigits u) hu64 (by rw[nL];omega);rw[nL] at hfmt;have HH0:=aa XI;have YG:=aa hfmt;clear XI hal hfmt;go_enter Tryz.func197,Tryz.ntmps197
 go_wp2_with fail
 refine (Tryz.internal_strconv_numDigits u (by omega) hu64 _ (Lib.tabIs_alloc htab _)).mono ?_;rintro e w' ⟨rfl,rfl⟩;go_wp2_with fail
 refine YG.out.mono ?_;rintro e w' ⟨rfl,k,v',dk,rfl,hF⟩
 have pV:(convert 99 9 (.slice (some ⟨w.heap.size,0,none⟩) (oO u) 24)).run aj ((putRow (fun (b:UInt8)=>fm .u8 (b.toNat:Int)) (w.alloc (.cells Lib.zeros24 233)) w.heap.size 0 dk).drewN k)=.ok (.string ⟨(a_ u).toArray⟩) ((putRow (fun (b:UInt8)=>fm .u8 (b.toNat:Int)) (w.alloc (.cells Lib.zeros24 233)) w.heap.size 0 dk).drewN k):=by
  have h:=run_convert_bytes_back (P:=aj) ((putRow (fun (b:UInt8)=>fm .u8 (b.toNat:Int)) (w.alloc (.cells Lib.zeros24 233)) w.heap.size 0 dk).drewN k) 99 9 5 ⟨w.heap.size,0,none⟩ 24 (a_ u) Tryz.underlying99 Tryz.underlying5 Tryz.underlying9 (fun j hj=>by
   rw[Lib.row_is_numeral hF j hj,Lib.add_plain,World.cell?_drewN]
   exact cell?_putRow (fun (b:UInt8)=>fm .u8 (b.toNat:Int)) _ w.heap.size 0 _ dk HH0.out (by rw[hF.size,nL]) j (by rw[hF.size];rw[Lib.decDigits_length] at hj;exact hj))
  rw[Lib.decDigits_length] at h;exact h
 have HB:=aa (Ca w (.cells Lib.zeros24 233) dk k);go_wp2_with fail
 go_ret
 exact⟨rfl,HB.out⟩
theorem sS {w w':ag} {name:String} {k:IntKind} {zs:List Int} (h:p7 aj w name k zs) (hb:aA w.heap.size w w'):p7 aj w' name k zs:=by
 unfold p7 World.var? at *
 cases hg:Tryz.prog.globalNamed name with
 | none=>simp[hg] at h
 | some g =>
  simp only[hg,Option.bind_some] at h ⊢
  have hlt:g<w.heap.size:=by
   rcases ir g w.heap.size with h' | h'
   ·exact h'
   rw[Array.getElem?_eq_none h'] at h;simp at h
  rw[hb.block g hlt];exact h
theorem TO (u : Nat) (hu64 : u < 18446744073709551616) (w : ag) (htab : p7 aj w "internal/strconv.uint64pow10" .u64 tT) :
  aW aj 184 #[.int .u64 u,.int .i64 10] w fun e w'=>e=.returned (.string ⟨(a_ u).toArray⟩)/\aA w.heap.size w w':=by
 by_cases h:u<100
 ·refine (Ih u _ rfl h w).mono ?_;rintro e w' ⟨rfl,rfl⟩;exact⟨rfl,ax _ _⟩
 have HF:=aa (TN u (by omega) hu64 w htab);clear h htab;go_enter Tryz.func184,Tryz.ntmps184
 go_wp2_with fail
 refine HF.out.mono ?_;rintro e w' ⟨rfl,hb⟩;go_wp2_with fail
 go_ret
 exact⟨rfl,hb⟩
theorem TM {w : ag} (htab : p7 aj w "internal/strconv.uint64pow10" .u64 tT) : Pj w (fun i => i < 18446744073709551616) :=
 fun w' i z hb hz hi=>by
  subst hz;exact TO i hi w' (sS htab hb)
theorem CB (va : aq) (xs : List Nat) (w : ag) (htab : p7 aj w "internal/strconv.uint64pow10" .u64 tT) (hx : Sl w .u32 va xs) (dx : eV aG xs) (lx : xs.length ≤ 10000) :
  aW aj 151 #[va] w fun e w'=>e=.returned (.string ⟨(a_ (val aG xs)).toArray⟩)/\aA w.heap.size w w':=
 Ji _ va xs w (TM htab) hx dx lx (fun g hg _=>by have hG:G9=1000000000:=rfl;show g<18446744073709551616;omega) (fun _ g hg=>by have hG:G9=1000000000:=rfl;show G9+g<18446744073709551616;omega)
end Go.Proofs.YtoncclhbdkjhmaaGreatDoor
namespace Go.Proofs.YtoncclhbdkjhmaaGreatDoor
open Go.RowKit
set_option maxRecDepth 100000
def sg (b:Bool) (n:Nat):Int:=if b then -(n:Int) else (n:Int)
theorem vM (b:Bool) (n:Nat):(sg b n).natAbs=n:=by cases b<;>simp[sg]
theorem Py (b:Bool) (n:Nat):decide (sg b n<0)=(b && decide (0<n)):=by
 cases b
 ·simp[sg]
 simp[sg]
def GI (w:ag) (v:aq) (z:Int) (k:Nat):Prop:=∃ b va n,v=.agg #[.bool b,va]/\GN w va n k/\z=sg b n
def CI (w:ag) (v:aq) (z:Int) (k:Nat):Prop:=∃ va,v=.agg #[.bool (decide (z<0)),va]/\Sl w .u32 va (fJ aG z.natAbs)/\z.natAbs<aG ^ k
theorem GI.below {w w':ag} {v:aq} {z:Int} {k:Nat} (h:GI w v z k) (hb:aA w.heap.size w w'):GI w' v z k:=by
 obtain⟨b,va,n,rfl,h,rfl⟩:=h;exact⟨b,va,n,rfl,h.below hb,rfl⟩
theorem CI.below {w w':ag} {v:aq} {z:Int} {k:Nat} (h:CI w v z k) (hb:aA w.heap.size w w'):CI w' v z k:=by
 obtain⟨va,rfl,h,h2⟩:=h;exact⟨va,rfl,h.below hb,h2⟩
theorem CI.gi {w:ag} {v:aq} {z:Int} {k:Nat} (h:CI w v z k):GI w v z k:=by
 obtain⟨va,rfl,h,h2⟩:=h;refine⟨_,va,_,rfl,wg h h2,?_⟩;unfold sg
 by_cases hz:z<0
 ·rw[if_pos (by simpa using hz)];omega
 rw[if_neg (by simpa using hz)];omega
theorem Uf {w:ag} {b:Bool} {n k:Nat} {va:aq} (h:Sl w .u32 va (fJ aG n)) (hn:n<aG ^ k):CI w (.agg #[.bool (b && decide (0<n)),va]) (sg b n) k:=
 ⟨va,by rw[Py],by rw[vM];exact h,by rw[vM];exact hn⟩
theorem sI {n:Nat}:0<n->0<(fJ aG n).length:=fun h=>by
 rcases bQ (fJ aG n).length with h0 | h0
 ·have:=iW (B:=aG) (by decide) n;rw[List.eq_nil_of_length_eq_zero h0] at this
  simp[val] at this;omega
 exact h0
theorem dS (b:Bool) (va:aq) (n k:Nat) (w:ag) (hs:Sl w .u32 va (fJ aG n)) (hn:n<aG ^ k) :
  aW aj 90 #[.bool b,va] w fun e w'=>∃ v,e=.returned v/\CI w' v (sg b n) k/\aA w.heap.size w w':=by
 have ZO:∀ w' B,B=(b && decide (0<n))->aA w.heap.size w w'->CI w' (.agg #[.bool B,va]) (sg b n) k:=fun w' B e hb=>by subst e;exact Uf (hs.below hb) hn
 obtain⟨ao,ac,rfl⟩:=bZ hs;have HS:=aa ZO;clear ZO hs hn
 cases b
 ·go_enter Tryz.func90,Tryz.ntmps90
  go_wp2
  exact aD (v:=.agg #[.bool false,.slice ao (fJ aG n).length ac]) (by simp[results,Tryz.results90,go_sem]) rfl ⟨_,rfl,HS.out _ _ rfl ((ax _ _).alloc (ai _) _),(ax _ _).alloc (ai _) _⟩
 by_cases h0:0<n
 ·have hl:=sI h0;have HD:=aa (show true=(true && decide (0<n)) by simp[h0]);go_enter Tryz.func90,Tryz.ntmps90
  go_wp2
  exact aD (v:=.agg #[.bool true,.slice ao (fJ aG n).length ac]) (by simp[results,Tryz.results90,go_sem]) rfl ⟨_,rfl,HS.out _ _ HD.out ((ax _ _).alloc (ai _) _),(ax _ _).alloc (ai _) _⟩
 obtain rfl:n=0:=by omega
 have HD:=aa (show false=(true && decide (0<0)) by simp);have hl:(fJ aG 0).length<=0:=by rw[fD];exact ai _
 have hd:decide (0<(fJ aG 0).length)=false:=by rw[decide_eq_false_iff_not];omega
 go_enter Tryz.func90,Tryz.ntmps90
 go_wp2
 exact aD (v:=.agg #[.bool false,.slice ao (fJ aG 0).length ac]) (by simp[results,Tryz.results90,go_sem]) rfl ⟨_,rfl,HS.out _ _ HD.out ((ax _ _).alloc (ai _) _),(ax _ _).alloc (ai _) _⟩
theorem GN.shape {w:ag} {v:aq} {n k:Nat} (h:GN w v n k):∃ ao l c,v=.slice ao l c/\l<=k:=by
 obtain⟨xs,h,_,_,hk⟩:=h;obtain⟨ao,c,rfl⟩:=bZ h;exact⟨ao,_,c,rfl,hk⟩
theorem Pq {va:aq} {n k:Nat} {w:ag} (hx:GN w va n k) (hk:k<=1000000) :
  aW aj 110 #[va] w fun e w'=>∃ v,e=.returned v/\Sl w' .u32 v (fJ aG n)/\aA w.heap.size w w':=by
 obtain⟨xs,hx,dx,rfl,lx⟩:=hx;exact (yD _ xs w hx dx (by omega)).mono fun _ _ ⟨v,he,hs,hb⟩=>⟨v,he,hs.sl,hb⟩
theorem CI.shape {w:ag} {v:aq} {z:Int} {k:Nat} (h:CI w v z k):∃ b ao l c,v=.agg #[.bool b,.slice ao l c]:=by
 obtain⟨va,rfl,h,_⟩:=h;obtain⟨ao,c,rfl⟩:=bZ h;exact⟨_,ao,_,c,rfl⟩
theorem GI.shape {w:ag} {v:aq} {z:Int} {k:Nat} (h:GI w v z k):∃ b ao l c n,v=.agg #[.bool b,.slice ao l c]/\GN w (.slice ao l c) n k/\z=sg b n:=by
 obtain⟨b,va,n,rfl,h,rfl⟩:=h;obtain⟨ao,l,c,rfl,_⟩:=h.shape;exact⟨b,ao,l,c,n,rfl,h,rfl⟩
theorem cy {w:ag} {g:Nat} {T:bn} {a b:aq} (h:w.heap[g]?=some (.cells #[a,b] T (0,0))) :
  w.cell? ⟨g,0,none⟩=some a/\w.cell? ⟨g,1,none⟩=some b/\w.frozen? ⟨g,0,none⟩=false/\w.frozen? ⟨g,1,none⟩=false:=
 ⟨by rw[cell_of_row w g 0 _ T (0,0) h];rfl,by rw[cell_of_row w g 1 _ T (0,0) h];rfl,frozen_of_row w g 0 _ T h,frozen_of_row w g 1 _ T h⟩
theorem Sl.set {w:ag} {k:IntKind} {v:aq} {xs:List Nat} (h:Sl w k v xs) {p:Addr} {u:aq} (hc:w.cell? p=some u) (hu:∀ k z,u ≠ .int k z) (x:aq):Sl (w.setCell p x) k v xs:=by
 obtain⟨ao,cap,rfl,h1,h2,h3,h4⟩:=h;refine⟨ao,cap,rfl,h1,h2,h3,fun i hi=>?_⟩;obtain⟨a,ha,hq⟩:=h4 i hi;refine⟨a,ha,?_⟩;rw[World.cell?_setCell_other w p (a.add i) x (fun e=>by rw[<-e,hc] at hq;injection hq with hq;exact hu _ _ hq)];exact hq
theorem Sl.xK {w:ag} {k:IntKind} {v:aq} {xs:List Nat} (h:Sl w k v xs) {g:Nat} {T:bn} {b0:Bool} {a0:Option Addr} {n0 c0:Nat} (hB:w.heap[g]?=some (.cells #[.bool b0,.slice a0 n0 c0] T (0,0))) (x y:aq) :
  Sl ((w.setCell ⟨g,0,none⟩ x).setCell ⟨g,1,none⟩ y) k v xs:=by
 obtain⟨q0,q1,_,_⟩:=cy hB;refine (h.set q0 (by intro k z e;cases e) x).set (u:=.slice a0 n0 c0) ?_ (by intro k z e;cases e) y;rw[World.cell?_setCell_other w _ _ x (by intro e;injection e with _ e;omega)];exact q1
theorem CI.xK {w:ag} {v:aq} {z:Int} {k:Nat} (h:CI w v z k) {g:Nat} {T:bn} {b0:Bool} {a0:Option Addr} {n0 c0:Nat} (hB:w.heap[g]?=some (.cells #[.bool b0,.slice a0 n0 c0] T (0,0))) (x y:aq) :
  CI ((w.setCell ⟨g,0,none⟩ x).setCell ⟨g,1,none⟩ y) v z k:=by
 obtain⟨va,rfl,h,h2⟩:=h;exact⟨va,rfl,h.xK hB x y,h2⟩
theorem E_ {B:Nat} {w w':ag} (h:aA B w w') (hB:B<=w.heap.size) (x y:aq):aA B w ((w'.setCell ⟨w.heap.size,0,none⟩ x).setCell ⟨w.heap.size,1,none⟩ y):=
 (h.setCell (by simpa using hB) _).setCell (by simpa using hB) _
theorem nH (b:Bool) (va:aq) (n k:Nat) (w:ag) (hx:GN w va n k) (hk:k<=1000000) :
  aW aj 58 #[.bool b,va] w fun e w'=>∃ v,e=.returned v/\CI w' v (sg b n) k/\aA w.heap.size w w':=by
 have hn:=hx.lt;have hx':=hx;obtain⟨ao,l,c,rfl,hl⟩:=hx.shape;go_enter Tryz.func58,Tryz.ntmps58
 go_wp2_with fail
 refine (Pq (hx'.below ((ax _ _).alloc (ai _) _)) hk).mono ?_;rintro e w1 ⟨v1,rfl,s1,eH⟩;have FX:=(eH.block w.heap.size (by simp)).trans (bT w _);have TB:aA w.heap.size w w1:=((ax _ _).alloc (ai _) _).trans (eH.mono (by simp));go_wp2_with fail
 refine (dS b v1 n k w1 s1 hn).mono ?_;rintro e w2 ⟨v2,rfl,c2,dI⟩;have NN:=(dI.block w.heap.size (ae FX)).trans FX;have gD:aA w.heap.size w w2:=TB.trans (dI.mono TB.size);obtain⟨bb,bo,bl,bc,rfl⟩:=c2.shape;obtain⟨q0,q1,f0,f1⟩:=cy NN;have HB:=aa NN;clear FX NN;go_wp2_with fail
 exact aD (v:=.agg #[.bool bb,.slice bo bl bc]) (by simp[results,Tryz.results58,go_sem,q0,q1]) rfl ⟨_,rfl,c2.xK HB.out _ _,E_ gD (ai _) _ _⟩
theorem Sl.keeps {w w':ag} {k:IntKind} {v:aq} {xs:List Nat} (h:Sl w k v xs) (hk:jQ w w'):Sl w' k v xs:=by
 obtain⟨ao,cap,rfl,h1,h2,h3,h4⟩:=h;refine⟨ao,cap,rfl,h1,h2,h3,fun i hi=>?_⟩;obtain⟨a,ha,hq⟩:=h4 i hi;exact⟨a,ha,hk _ _ _ hq⟩
theorem GN.keeps {w w':ag} {v:aq} {n k:Nat} (h:GN w v n k) (hk:jQ w w'):GN w' v n k:=by
 obtain⟨xs,h1,h2⟩:=h;exact⟨xs,h1.keeps hk,h2⟩
theorem CI.keeps {w w':ag} {v:aq} {z:Int} {k:Nat} (h:CI w v z k) (hk:jQ w w'):CI w' v z k:=by
 obtain⟨va,rfl,h,h2⟩:=h;exact⟨va,rfl,h.keeps hk,h2⟩
theorem Su {va vb:aq} {m n k1 k2:Nat} {w:ag} (hx:GN w va m k1) (hy:GN w vb n k2) (h1:k1<=1000000) (h2:k2<=1000000) :
  aW aj 99 #[va,vb] w fun e w'=>∃ v,e=.returned v/\Sl w' .u32 v (fJ aG (m*n))/\aA w.heap.size w w':=by
 obtain⟨xs,hx,dx,rfl,lx⟩:=hx;obtain⟨ys,hy,dy,rfl,ly⟩:=hy;exact M6 _ _ _ _ w hx hy dx dy (by omega) (by omega)
theorem Ly {va vb:aq} {m n k1 k2:Nat} {w:ag} (hx:GN w va m k1) (hy:GN w vb n k2) (h1:k1<=1000000) (h2:k2<=1000000) :
  aW aj 97 #[va,vb] w fun e w'=>∃ v,e=.returned v/\Sl w' .u32 v (fJ aG (m+n))/\aA w.heap.size w w':=by
 obtain⟨xs,hx,dx,rfl,lx⟩:=hx;obtain⟨ys,hy,dy,rfl,ly⟩:=hy;exact N5 _ _ _ _ w hx hy dx dy (by omega) (by omega)
theorem GN.drew {w:ag} {v:aq} {n k:Nat} (h:GN w v n k):GN w.drew v n k:=h
theorem GN.alloc {w:ag} {v:aq} {n k:Nat} (h:GN w v n k) (o:Obj):GN (w.alloc o) v n k:=h.below ((ax _ _).alloc (ai _) _)
theorem cm {B:Nat} {w w1:ag} (h:aA B w.drew w1):aA B w w1:=⟨h.os,h.tape,h.output,h.size,h.block⟩
theorem B9 {w w1:ag} {T1 T2:bn} {c1 c2:Array aq} (hb:aA (w.heap.size+2) ((w.alloc (.cells c1 T1)).alloc (.cells c2 T2)) w1) :
  w1.heap[w.heap.size]?=some (.cells c1 T1 (0,0))/\w1.heap[w.heap.size+1]?=some (.cells c2 T2 (0,0)):=by
 have h1:=bT (w.alloc (.cells c1 T1)) (.cells c2 T2);refine⟨(hb.block _ (by omega)).trans ?_,(hb.block _ (by omega)).trans (by simpa using h1)⟩;rw[z_ _ _ _ (by simp)];exact bT w _
theorem vk {w w1:ag} {T1 T2 T3:bn} {c1 c2 c3:Array aq} (hb:aA (w.heap.size+3) (((w.alloc (.cells c1 T1)).alloc (.cells c2 T2)).alloc (.cells c3 T3)) w1) :
  w1.heap[w.heap.size]?=some (.cells c1 T1 (0,0))/\w1.heap[w.heap.size+1]?=some (.cells c2 T2 (0,0))/\w1.heap[w.heap.size+2]?=some (.cells c3 T3 (0,0)):=by
 have h1:=bT ((w.alloc (.cells c1 T1)).alloc (.cells c2 T2)) (.cells c3 T3);obtain⟨a,b⟩:=B9 (ax (w.heap.size+2) ((w.alloc (.cells c1 T1)).alloc (.cells c2 T2)));refine⟨(hb.block _ (by omega)).trans ?_,(hb.block _ (by omega)).trans ?_,(hb.block _ (by omega)).trans (by simpa using h1)⟩
 ·rw[z_ _ _ _ (by simp;omega)];exact a
 rw[z_ _ _ _ (by simp)];exact b
theorem Ls (w:ag) (o1 o2:Obj):aA w.heap.size w ((w.alloc o1).alloc o2):=((ax _ _).alloc (ai _) _).alloc (by simp) _
theorem Fa (w:ag) (o1 o2 o3:Obj):aA w.heap.size w (((w.alloc o1).alloc o2).alloc o3):=(Ls w o1 o2).alloc (by simp;omega) _
theorem kI {B g:Nat} {w w':ag} (h:aA B w w') (hB:B<=g) (x y:aq):aA B w ((w'.setCell ⟨g,0,none⟩ x).setCell ⟨g,1,none⟩ y):=
 (h.setCell (by simpa using hB) _).setCell (by simpa using hB) _
theorem ED {w:ag} {g g' o:Nat} {x y:aq} (h:g'≠g):((w.setCell ⟨g,0,none⟩ x).setCell ⟨g,1,none⟩ y).cell? ⟨g',o,none⟩=w.cell? ⟨g',o,none⟩:=by
 rw[World.cell?_setCell_other _ _ _ _ (by intro e;injection e with e;omega),World.cell?_setCell_other _ _ _ _ (by intro e;injection e with e;omega)]
theorem Pz (a b:Bool) (m n:Nat):sg a m*sg b n=sg (a != b) (m*n):=by
 cases a<;>cases b<;>simp[sg,Int.neg_mul,Int.mul_neg]
theorem Cu (va vb:aq) (y z:Int) (k1 k2:Nat) (w:ag) (hx:GI w va y k1) (hy:GI w vb z k2) (h1:k1<=1000000) (h2:k2<=1000000) :
  aW aj 48 #[va,vb] w fun e w'=>∃ v,e=.returned v/\CI w' v (y*z) (k1+k2)/\aA w.heap.size w w':=by
 obtain⟨b,ao,l,c,m,rfl,hg,rfl⟩:=hx.shape;obtain⟨d,po,pl,pc,n,rfl,fK,rfl⟩:=hy.shape;have hn:m*n<aG ^ (k1+k2):=by rw[jR];exact Nat.mul_lt_mul'' hg.lt fK.lt
 rw[Pz];have hW:=Fa w (.cells #[.bool b,.slice ao l c] 26) (.cells #[.bool d,.slice po pl pc] 26) (.cells #[.bool false,.slice none 0 0] 26);go_enter Tryz.func48,Tryz.ntmps48
 go_wp2_with fail
 go_region_held3 (fun w'=>w'.cell? ⟨w.heap.size,0,none⟩=some (.bool b)/\w'.cell? ⟨w.heap.size,1,none⟩=some (.slice ao l c)/\w'.cell? ⟨w.heap.size+1,0,none⟩=some (.bool d)/\w'.cell? ⟨w.heap.size+1,1,none⟩=some (.slice po pl pc))
  (first | exact⟨A0,AZ,AY,Ac⟩ | exact⟨(ED (by omega)).trans A0,(ED (by omega)).trans AZ,(ED (by omega)).trans AY,(ED (by omega)).trans Ac⟩ | go_keep)
  (first
   | (go_at_call 99;refine (Su (((hg.alloc _).alloc _).alloc _).drew (((fK.alloc _).alloc _).alloc _).drew h1 h2).mono ?_;rintro e w2 ⟨v2,rfl,s2,dI⟩;have ff:=vk (cm (dI.mono (by simp)));have gD:=hW.trans (cm (dI.mono (by simp;omega)));clear dI;obtain⟨A0,AZ,_,_⟩:=cy ff.1;obtain⟨AY,Ac,_,_⟩:=cy ff.2.1)
   | (
     go_at_call 90;refine (dS _ v2 _ (k1+k2) w2 s2 hn).mono ?_;rintro e w3 ⟨v3,rfl,c3,kH⟩;obtain⟨bb,bo,bl,bc,rfl⟩:=c3.shape
     have pe:=(kH.block _ (ae ff.1)).trans ff.1;have iM:=(kH.block _ (ae ff.2.1)).trans ff.2.1;have tW:=(kH.block _ (ae ff.2.2)).trans ff.2.2;have su:=gD.trans (kH.mono gD.size);clear kH ff gD A0 AZ AY Ac
     obtain⟨A0,AZ,_,_⟩:=cy pe;obtain⟨AY,Ac,_,_⟩:=cy iM;obtain⟨q0,q1,f0,f1⟩:=cy tW;have HB:=aa tW;clear pe iM tW))
 go_wp2_with fail
 exact aD (v:=.agg #[.bool bb,.slice bo bl bc]) (by simp[results,Tryz.results48,go_sem,q0,q1]) rfl ⟨_,rfl,c3.xK HB.out _ _,kI su (by omega) _ _⟩
theorem QN {n:Nat}:bl n=0 ↔ n=0:=⟨fun h=>by rcases bQ n with h0 | h0;exact h0;exact absurd h (by have:=QM h0;omega),fun h=>by rw[h,yg]⟩
def eX (z:Int):Int:=if z=0 then 0 else if z<0 then -1 else 1
theorem gY (va:aq) (z:Int) (k:Nat) (w:ag) (hx:GI w va z k) (hk:k<=1000000) :
  aW aj 51 #[va] w fun e w'=>e=.returned (.int .i64 (eX z))/\aA w.heap.size w w':=by
 obtain⟨b,ao,l,c,n,rfl,hg,rfl⟩:=hx.shape
 by_cases h0:n=0
 ·subst h0;have HB:=aa (show eX (sg b 0)=0 by cases b<;>simp[eX,sg]);have hz:(((bl 0:Nat):Int)==0)=true:=by rw[yg];rfl
  go_enter Tryz.func51,Tryz.ntmps51
  go_wp2_with fail
  refine (EZ (hg.alloc _) hk).mono ?_;rintro e w3 ⟨rfl,rfl⟩;go_wp2_with fail
  go_ret
  exact⟨by rw[HB.out];rfl,(ax _ _).alloc (ai _) _⟩
 have hz:(((bl n:Nat):Int)==0)=false:=by rw[beq_eq_false_iff_ne];have:=mt QN.1 h0;omega
 have hp:0<n:=by omega
 cases b
 ·have HB:=aa (show eX (sg false n)=1 by unfold eX sg;simp only[Bool.false_eq_true,if_false];rw[if_neg (by omega),if_neg (by omega)]);go_enter Tryz.func51,Tryz.ntmps51
  go_wp2_with fail
  refine (EZ (hg.alloc _) hk).mono ?_;rintro e w3 ⟨rfl,rfl⟩;go_wp2_with fail
  go_ret
  exact⟨by rw[HB.out];rfl,(ax _ _).alloc (ai _) _⟩
 have HB:=aa (show eX (sg true n) = -1 by unfold eX sg;simp only[if_true];rw[if_neg (by omega),if_pos (by omega)]);go_enter Tryz.func51,Tryz.ntmps51
 go_wp2_with fail
 refine (EZ (hg.alloc _) hk).mono ?_;rintro e w3 ⟨rfl,rfl⟩;go_wp2_with fail
 go_ret
 exact⟨by rw[HB.out];rfl,(ax _ _).alloc (ai _) _⟩
theorem Ft {va vb:aq} {m n k1 k2:Nat} {w:ag} (hx:GN w va m k1) (hy:GN w vb n k2) (h1:k1<=1000000) (hle:n<=m) :
  aW aj 98 #[va,vb] w fun e w'=>∃ v,e=.returned (.tuple #[v,.bool true])/\Sl w' .u32 v (fJ aG (m - n))/\aA w.heap.size w w':=by
 obtain⟨xs,hx,dx,rfl,lx⟩:=hx;obtain⟨ys,hy,dy,rfl,ly⟩:=hy;exact Pv _ _ _ _ w hx hy dx dy (by omega) hle
theorem Pu {va vb:aq} {m n k1 k2:Nat} {w:ag} (hx:GN w va m k1) (hy:GN w vb n k2) (hlt:m<n) :
  aW aj 98 #[va,vb] w fun e w'=>e=.returned (.tuple #[.slice none 0 0,.bool false])/\aA w.heap.size w w':=by
 obtain⟨xs,hx,dx,rfl,lx⟩:=hx;obtain⟨ys,hy,dy,rfl,ly⟩:=hy;exact sub_lt _ _ _ _ w hx hy dx dy hlt
theorem eT {m k k':Nat} (h:m<aG ^ k) (hk:k<=k'):m<aG ^ k':=az h (cf (by decide) hk)
theorem PB (b:Bool) (m n:Nat):sg b m+sg b n=sg b (m+n):=by
 cases b<;>simp[sg];omega
theorem ML {b d:Bool} (h:b≠d) {m n:Nat} (hle:n<=m):sg b m+sg d n=sg b (m - n):=by
 cases b<;>cases d<;>simp[sg] at *<;>omega
theorem MK {b d:Bool} (h:b≠d) {m n:Nat} (hle:m<=n):sg b m+sg d n=sg d (n - m):=by
 cases b<;>cases d<;>simp[sg] at *<;>omega
theorem yB (va vb:aq) (y z:Int) (k1 k2:Nat) (w:ag) (hx:GI w va y k1) (hy:GI w vb z k2) (h1:k1<=1000000) (h2:k2<=1000000) :
  aW aj 47 #[va,vb] w fun e w'=>∃ v,e=.returned v/\CI w' v (y+z) (k1+k2+1)/\aA w.heap.size w w':=by
 obtain⟨b,ao,l,c,m,rfl,hg,rfl⟩:=hx.shape;obtain⟨d,po,pl,pc,n,rfl,fK,rfl⟩:=hy.shape;have hlm:=hg.lt;have hln:=fK.lt;have hW:=Fa w (.cells #[.bool b,.slice ao l c] 26) (.cells #[.bool d,.slice po pl pc] 26) (.cells #[.bool false,.slice none 0 0] 26)
 by_cases hbd:b=d
 ·subst hbd;have hn:=yS hlm hln;rw[PB];have heq:(b==b)=true:=by cases b<;>rfl
  go_enter Tryz.func47,Tryz.ntmps47
  go_wp2_with fail
  go_region_held3 (fun w'=>w'.cell? ⟨w.heap.size,0,none⟩=some (.bool b)/\w'.cell? ⟨w.heap.size,1,none⟩=some (.slice ao l c)/\w'.cell? ⟨w.heap.size+1,1,none⟩=some (.slice po pl pc))
   (first | exact⟨A0,AZ,Ac⟩ | exact⟨(ED (by omega)).trans A0,(ED (by omega)).trans AZ,(ED (by omega)).trans Ac⟩ | go_keep)
   (first
    | (go_at_call 97;refine (Ly (((hg.alloc _).alloc _).alloc _).drew (((fK.alloc _).alloc _).alloc _).drew h1 h2).mono ?_;rintro e w2 ⟨v2,rfl,s2,dI⟩;have ff:=vk (cm (dI.mono (by simp)));have gD:=hW.trans (cm (dI.mono (by simp;omega)));clear dI;obtain⟨A0,AZ,_,_⟩:=cy ff.1;obtain⟨AY,Ac,_,_⟩:=cy ff.2.1)
    | (
      go_at_call 90;refine (dS _ v2 _ (k1+k2+1) w2 s2 hn).mono ?_;rintro e w3 ⟨v3,rfl,c3,kH⟩;obtain⟨bb,bo,bl,bc,rfl⟩:=c3.shape
      have pe:=(kH.block _ (ae ff.1)).trans ff.1;have iM:=(kH.block _ (ae ff.2.1)).trans ff.2.1;have tW:=(kH.block _ (ae ff.2.2)).trans ff.2.2;have su:=gD.trans (kH.mono gD.size);clear kH ff gD A0 AZ AY Ac
      obtain⟨A0,AZ,_,_⟩:=cy pe;obtain⟨AY,Ac,_,_⟩:=cy iM;obtain⟨q0,q1,f0,f1⟩:=cy tW;have HB:=aa tW;clear pe iM tW))
  go_wp2_with fail
  exact aD (v:=.agg #[.bool bb,.slice bo bl bc]) (by simp[results,Tryz.results47,go_sem,q0,q1]) rfl ⟨_,rfl,c3.xK HB.out _ _,kI su (by omega) _ _⟩
 have heq:(b==d)=false:=by cases b<;>cases d<;>simp at hbd ⊢
 by_cases hle:n<=m
 ·have hn:m - n<aG ^ (k1+k2+1):=eT (k:=k1) (by omega) (by omega);rw[ML hbd hle];clear hbd;go_enter Tryz.func47,Tryz.ntmps47
  go_wp2_with fail
  refine (Ft (((hg.alloc _).alloc _).alloc _) (((fK.alloc _).alloc _).alloc _) h1 hle).mono ?_;rintro e w2 ⟨v2,rfl,s2,dI⟩;have ff:=vk (dI.mono (by simp));have gD:=hW.trans (dI.mono (by simp;omega));clear dI;obtain⟨A0,AZ,_,_⟩:=cy ff.1;obtain⟨AY,Ac,_,_⟩:=cy ff.2.1;have HK:=aa ff.2.2;clear ff;obtain⟨vo,vc,rfl⟩:=bZ s2;go_wp2_with fail
  refine (dS _ _ _ (k1+k2+1) w2 s2 hn).mono ?_;rintro e w3 ⟨v3,rfl,c3,kH⟩;obtain⟨bb,bo,bl,bc,rfl⟩:=c3.shape;have tW:=(kH.block _ (ae HK.out)).trans HK.out;have su:=gD.trans (kH.mono gD.size);clear kH gD A0 AZ AY Ac;obtain⟨q0,q1,f0,f1⟩:=cy tW;have HB:=aa tW;clear tW;go_wp2_with fail
  exact aD (v:=.agg #[.bool bb,.slice bo bl bc]) (by simp[results,Tryz.results47,go_sem,q0,q1]) rfl ⟨_,rfl,c3.xK HB.out _ _,kI su (by omega) _ _⟩
 have hn:n - m<aG ^ (k1+k2+1):=eT (k:=k2) (by omega) (by omega);have hlt:m<n:=by omega
 have Te:m<=n:=by omega
 rw[MK hbd Te];clear hbd hle;go_enter Tryz.func47,Tryz.ntmps47
 go_wp2_with fail
 refine (Pu (((hg.alloc _).alloc _).alloc _) (((fK.alloc _).alloc _).alloc _) hlt).mono ?_;rintro e w2 ⟨rfl,dI⟩;have ff:=vk (dI.mono (by simp));have gD:=hW.trans (dI.mono (by simp;omega));clear dI;obtain⟨A0,AZ,_,_⟩:=cy ff.1;obtain⟨AY,Ac,_,_⟩:=cy ff.2.1;have HK:=aa ff;clear ff;go_wp2_with fail
 refine (Ft (fK.below gD) (hg.below gD) h2 Te).mono ?_;rintro e w4 ⟨v4,rfl,s4,rN⟩;have pe:=(rN.block _ (ae HK.out.1)).trans HK.out.1;have iM:=(rN.block _ (ae HK.out.2.1)).trans HK.out.2.1;have ff:=(rN.block _ (ae HK.out.2.2)).trans HK.out.2.2;have qP:=gD.trans (rN.mono gD.size);clear rN A0 AZ AY Ac;obtain⟨A0,AZ,_,_⟩:=cy pe;obtain⟨AY,Ac,_,_⟩:=cy iM;have LG:=aa ff;clear pe iM ff;obtain⟨vo,vc,rfl⟩:=bZ s4;go_wp2_with fail
 refine (dS _ _ _ (k1+k2+1) w4 s4 hn).mono ?_;rintro e w3 ⟨v3,rfl,c3,kH⟩;obtain⟨bb,bo,bl,bc,rfl⟩:=c3.shape;have tW:=(kH.block _ (ae LG.out)).trans LG.out;have su:=qP.trans (kH.mono qP.size);clear kH qP gD A0 AZ AY Ac;obtain⟨q0,q1,f0,f1⟩:=cy tW;have HB:=aa tW;clear tW;go_wp2_with fail
 exact aD (v:=.agg #[.bool bb,.slice bo bl bc]) (by simp[results,Tryz.results47,go_sem,q0,q1]) rfl ⟨_,rfl,c3.xK HB.out _ _,kI su (by omega) _ _⟩
theorem GI.alloc {w:ag} {v:aq} {z:Int} {k:Nat} (h:GI w v z k) (o:Obj):GI (w.alloc o) v z k:=h.below ((ax _ _).alloc (ai _) _)
theorem TK {w:ag} {va:aq} {n k:Nat} (h:GN w va n k) (b:Bool):GI w (.agg #[.bool b,va]) (sg b n) k:=⟨b,va,n,rfl,h,rfl⟩
theorem Ja (va vb:aq) (y z:Int) (k1 k2:Nat) (w:ag) (hx:GI w va y k1) (hy:GI w vb z k2) (h1:k1<=1000000) (h2:k2<=1000000) :
  aW aj 79 #[va,vb] w fun e w'=>∃ v,e=.returned v/\CI w' v (y - z) (k1+k2+1)/\aA w.heap.size w w':=by
 obtain⟨b,ao,l,c,m,rfl,hg,rfl⟩:=hx.shape;obtain⟨d,po,pl,pc,n,rfl,fK,rfl⟩:=hy.shape;have hW:=Fa w (.cells #[.bool b,.slice ao l c] 26) (.cells #[.bool d,.slice po pl pc] 26) (.cells #[.bool false,.slice none 0 0] 26);rw[show sg b m - sg d n=sg b m+sg (!d) n by cases d<;>simp[sg]<;>omega];go_enter Tryz.func79,Tryz.ntmps79
 go_wp2_with fail
 refine (yB _ _ _ _ k1 k2 _ (((hx.alloc _).alloc _).alloc _) (TK (((fK.alloc _).alloc _).alloc _) (!d)) h1 h2).mono ?_;rintro e w3 ⟨v3,rfl,c3,kH⟩;obtain⟨bb,bo,bl,bc,rfl⟩:=c3.shape;have tW:=(vk (kH.mono (by simp))).2.2;have su:=hW.trans (kH.mono (by simp;omega));clear kH;obtain⟨q0,q1,f0,f1⟩:=cy tW;have HB:=aa tW;clear tW;go_wp2_with fail
 exact aD (v:=.agg #[.bool bb,.slice bo bl bc]) (by simp[results,Tryz.results79,go_sem,q0,q1]) rfl ⟨_,rfl,c3.xK HB.out _ _,kI su (by omega) _ _⟩
theorem Dp (a b:Int) (w:ag):aW aj 95 #[.int .i64 a,.int .i64 b] w fun e w'=>e=.returned (.int .i64 (eX (a - b)))/\w=w':=by
 have HN:∀ (x:Int) (w:ag),aW aj 143 #[.int .i64 x] w fun e w'=>e=.returned (.bool false)/\w=w':=by
  intro x w;go_enter Tryz.func143,Tryz.ntmps143
  go_wp2
  go_ret
  exact⟨by simp,rfl⟩
 rcases Int.lt_trichotomy a b with h | h | h
 ·have HS:=aa (show eX (a - b) = -1 by unfold eX;rw[if_neg (by omega),if_pos (by omega)]);have H:=aa HN;clear HN;go_enter Tryz.func95,Tryz.ntmps95
  go_wp2_with fail
  refine (H.out a _).mono ?_;rintro e w' ⟨rfl,rfl⟩;go_wp2_with fail
  refine (H.out b _).mono ?_;rintro e w' ⟨rfl,rfl⟩;go_wp2_with fail
  go_ret
  exact⟨by rw[HS.out];rfl,rfl⟩
 ·subst h;have HS:=aa (show eX (a - a)=0 by unfold eX;rw[if_pos (by omega)]);have H:=aa HN;clear HN;go_enter Tryz.func95,Tryz.ntmps95
  go_wp2_with fail
  refine (H.out a _).mono ?_;rintro e w' ⟨rfl,rfl⟩;go_wp2_with fail
  refine (H.out a _).mono ?_;rintro e w' ⟨rfl,rfl⟩;go_wp2_with fail
  go_ret
  exact⟨by rw[HS.out];rfl,rfl⟩
 have HS:=aa (show eX (a - b)=1 by unfold eX;rw[if_neg (by omega),if_neg (by omega)]);have H:=aa HN;clear HN;have h':¬ a<b:=by omega
 go_enter Tryz.func95,Tryz.ntmps95
 go_wp2_with fail
 refine (H.out a _).mono ?_;rintro e w' ⟨rfl,rfl⟩;go_wp2_with fail
 refine (H.out b _).mono ?_;rintro e w' ⟨rfl,rfl⟩;go_wp2_with fail
 go_ret
 exact⟨by rw[HS.out];rfl,rfl⟩
theorem Sn (n:Nat) (z:Int) (w:ag) (hz:z=(n:Int)) (hn:n<18446744073709551616) :
  aW aj 91 #[.int .u64 z] w fun e w'=>∃ v,e=.returned v/\Sl w' .u32 v (fJ aG n)/\n<aG ^ 2/\aA w.heap.size w w':=
 (Ed n z w hz hn).mono fun _ _ ⟨v,he,hs,hb⟩=>⟨v,he,hs,Nat.lt_of_lt_of_eq hn (by decide),hb⟩
theorem sR (z:Int) (w:ag) (h1 : -9223372036854775808<=z) (h2:z<=9223372036854775807) :
  aW aj 42 #[.int .i64 z] w fun e w'=>∃ v,e=.returned v/\CI w' v z 2/\aA w.heap.size w w':=by
 have hW:aA w.heap.size w (w.alloc (.cells #[.bool false,.slice none 0 0] 26)):=(ax _ _).alloc (ai _) _
 by_cases hz:z<0
 ·have HZ:=aa (show sg true z.natAbs=z by simp[sg];omega);go_enter Tryz.func42,Tryz.ntmps42
  go_wp2_with fail
  refine (Sn z.natAbs _ _ (by simp only[IntKind.wrap_u64];omega) (by omega)).mono ?_;rintro e w2 ⟨v2,rfl,s2,hn,dI⟩;have ff:=(dI.block w.heap.size (by simp)).trans (bT w _);have gD:=hW.trans (dI.mono (by simp));clear dI;obtain⟨vo,vc,rfl⟩:=bZ s2;go_wp2_with fail
  refine (dS _ _ _ 2 w2 s2 hn).mono ?_;rintro e w3 ⟨v3,rfl,c3,kH⟩;obtain⟨bb,bo,bl,bc,rfl⟩:=c3.shape;have tW:=(kH.block _ (ae ff)).trans ff;have su:=gD.trans (kH.mono gD.size);clear kH ff gD;obtain⟨q0,q1,f0,f1⟩:=cy tW;have HB:=aa tW;clear tW;rw[HZ.out] at c3;go_wp2_with fail
  exact aD (v:=.agg #[.bool bb,.slice bo bl bc]) (by simp[results,Tryz.results42,go_sem,q0,q1]) rfl ⟨_,rfl,c3.xK HB.out _ _,kI su (by omega) _ _⟩
 have HZ:=aa (show sg false z.natAbs=z by simp[sg];omega);go_enter Tryz.func42,Tryz.ntmps42
 go_wp2_with fail
 refine (Sn z.natAbs _ _ (by omega) (by omega)).mono ?_;rintro e w2 ⟨v2,rfl,s2,hn,dI⟩;have ff:=(dI.block w.heap.size (by simp)).trans (bT w _);have gD:=hW.trans (dI.mono (by simp));clear dI;obtain⟨vo,vc,rfl⟩:=bZ s2;go_wp2_with fail
 refine (dS _ _ _ 2 w2 s2 hn).mono ?_;rintro e w3 ⟨v3,rfl,c3,kH⟩;obtain⟨bb,bo,bl,bc,rfl⟩:=c3.shape;have tW:=(kH.block _ (ae ff)).trans ff;have su:=gD.trans (kH.mono gD.size);clear kH ff gD;obtain⟨q0,q1,f0,f1⟩:=cy tW;have HB:=aa tW;clear tW;rw[HZ.out] at c3;go_wp2_with fail
 exact aD (v:=.agg #[.bool bb,.slice bo bl bc]) (by simp[results,Tryz.results42,go_sem,q0,q1]) rfl ⟨_,rfl,c3.xK HB.out _ _,kI su (by omega) _ _⟩
theorem Fw (z:Int) : -1<=eX z/\eX z<=1:=by unfold eX;split;omega;split<;>omega
theorem GR {y z:Int} (h:eX y≠eX z):eX (eX y - eX z)=eX (y - z):=by
 unfold eX at h ⊢
 split at h<;>split at h<;>(try split at h)<;>(try split at h)<;>simp_all<;>first | omega | (rw[if_neg (by omega)];first | rw[if_pos (by omega)] | rw[if_neg (by omega)])
theorem GQ {b d:Bool} {m n:Nat} (h:eX (sg b m)=eX (sg d n)):eX (sg b m)*nG m n=eX (sg b m - sg d n):=by
 unfold eX sg nG at *
 cases b<;>cases d<;>simp at h ⊢<;>(repeat' split at h)<;>(repeat' split)<;>first | rfl | omega
theorem yA (va vb:aq) (y z:Int) (k1 k2:Nat) (w:ag) (hx:GI w va y k1) (hy:GI w vb z k2) (h1:k1<=1000000) (h2:k2<=1000000) :
  aW aj 45 #[va,vb] w fun e w'=>e=.returned (.int .i64 (eX (y - z)))/\aA w.heap.size w w':=by
 have Tl:=hx;have Xk:=hy;obtain⟨b,ao,l,c,m,rfl,hg,rfl⟩:=hx.shape;obtain⟨d,po,pl,pc,n,rfl,fK,rfl⟩:=hy.shape;have hW:=Ls w (.cells #[.bool b,.slice ao l c] 26) (.cells #[.bool d,.slice po pl pc] 26)
 by_cases hs:eX (sg b m)=eX (sg d n)
 ·have HE:=aa (GQ hs);have HS:=aa hs;have LZ:=Fw (sg b m);have rM:=Fw (sg b m - sg d n);have hne:(eX (sg d n) != eX (sg d n))=false:=by simp
  clear hs;go_enter Tryz.func45,Tryz.ntmps45
  go_wp2_with fail
  refine (gY _ _ k1 _ ((Tl.alloc _).alloc _) h1).mono ?_;rintro e w2 ⟨rfl,dI⟩;have ff:=B9 (dI.mono (by simp));have gD:=hW.trans (dI.mono (by simp;omega));clear dI;obtain⟨A0,AZ,_,_⟩:=cy ff.1;obtain⟨AY,Ac,_,_⟩:=cy ff.2;have HK:=aa ff;clear ff;rw[HS.out];go_wp2_with fail
  refine (gY _ _ k2 _ (Xk.below gD) h2).mono ?_;rintro e w4 ⟨rfl,rN⟩;have pe:=(rN.block _ (ae HK.out.1)).trans HK.out.1;have iM:=(rN.block _ (ae HK.out.2)).trans HK.out.2;have qP:=gD.trans (rN.mono gD.size);clear rN A0 AZ AY Ac;obtain⟨A0,AZ,_,_⟩:=cy pe;obtain⟨AY,Ac,_,_⟩:=cy iM;have HK0:=aa pe;have Wb:=aa iM;clear pe iM;go_wp2_with fail
  refine (Ue (hg.below qP) (fK.below qP)).mono ?_;rintro e w5 ⟨rfl,we⟩;have Qn:=qP.trans (we.mono qP.size);have HP:=aa (show eX (sg d n)*nG m n=eX (sg b m - sg d n) by rw[<-HS.out];exact HE.out);have p1 : -9223372036854775808<=eX (sg d n)*nG m n:=by rw[HP.out];omega
  have p2:eX (sg d n)*nG m n<=9223372036854775807:=by rw[HP.out];omega
  clear we;go_wp2_with fail
  go_ret
  exact⟨by rw[<-HP.out];rfl,Qn⟩
 have HD:=aa (GR hs);have hne:(eX (sg b m) != eX (sg d n))=true:=by rw[bne_iff_ne];exact hs
 clear hs;go_enter Tryz.func45,Tryz.ntmps45
 go_wp2_with fail
 refine (gY _ _ k1 _ ((Tl.alloc _).alloc _) h1).mono ?_;rintro e w2 ⟨rfl,dI⟩;have ff:=B9 (dI.mono (by simp));have gD:=hW.trans (dI.mono (by simp;omega));clear dI;obtain⟨AY,Ac,_,_⟩:=cy ff.2;have HK:=aa ff.2;clear ff;go_wp2_with fail
 refine (gY _ _ k2 _ (Xk.below gD) h2).mono ?_;rintro e w4 ⟨rfl,rN⟩;have iM:=(rN.block _ (ae HK.out)).trans HK.out;have qP:=gD.trans (rN.mono gD.size);clear rN AY Ac;obtain⟨AY,Ac,_,_⟩:=cy iM;clear iM;go_wp2_with fail
 refine (gY _ _ k2 _ (Xk.below qP) h2).mono ?_;rintro e w5 ⟨rfl,we⟩;have Qn:=qP.trans (we.mono qP.size);clear we AY Ac;go_wp2_with fail
 refine (Dp _ _ _).mono ?_;rintro e w6 ⟨rfl,rfl⟩;rw[HD.out];go_wp2_with fail
 go_ret
 exact⟨rfl,Qn⟩
def lW (z:Int):List UInt8:=if z<0 then 45::a_ z.natAbs else a_ z.natAbs
theorem Ui (l:List UInt8):((⟨#[45]⟩:ByteArray)++(⟨l.toArray⟩:ByteArray))=⟨(45::l).toArray⟩:=by
 apply ByteArray.ext
 simp[ByteArray.data_append]
theorem N0 {n k:Nat} (h:n<aG ^ k) (hk:k<=10000):(a_ n).length<=100001:=by
 have h1:aG ^ k<=10 ^ (10*k):=by rw[Nat.pow_mul];exact Nat.pow_le_pow_left (by decide) _
 have:=mD (k:=10*k+1) (az h (ah h1 (cf (by decide) (by omega)))) (by omega)
 omega
theorem AE (va : aq) (z : Int) (k : Nat) (w : ag) (htab : p7 aj w "internal/strconv.uint64pow10" .u64 tT) (hx : GI w va z k) (hk : k ≤ 10000) :
  aW aj 101 #[va] w fun e w'=>e=.returned (.string ⟨(lW z).toArray⟩)/\aA w.heap.size w w':=by
 have Tl:=hx;obtain⟨b,ao,l,c,n,rfl,hg,rfl⟩:=hx.shape;have hW:aA w.heap.size w (w.alloc (.cells #[.bool b,.slice ao l c] 26)):=(ax _ _).alloc (ai _) _;have vD:=hg;obtain⟨xs,hs,dx,rfl,lx⟩:=vD;have HN:=aa (vM b (val aG xs));have Xq:=N0 hg.lt hk
 by_cases hz:sg b (val aG xs)<0
 ·have HS:=aa (show eX (sg b (val aG xs)) = -1 by unfold eX;rw[if_neg (by omega),if_pos hz]);have HT:=aa (show lW (sg b (val aG xs))=45::a_ (val aG xs) by unfold lW;rw[if_pos hz,HN.out]);clear hz;go_enter Tryz.func101,Tryz.ntmps101
  go_wp2_with fail
  refine (gY _ _ k _ (Tl.alloc _) (by omega)).mono ?_;rintro e w2 ⟨rfl,dI⟩;have ff:=(dI.block w.heap.size (by simp)).trans (bT w _);have gD:=hW.trans (dI.mono (by simp));clear dI;obtain⟨A0,AZ,_,_⟩:=cy ff;clear ff;rw[HS.out];go_wp2_with fail
  refine (CB _ xs w2 (sS htab gD) (hs.below gD) dx (by omega)).mono ?_;rintro e w4 ⟨rfl,rN⟩;have qP:=gD.trans (rN.mono gD.size);go_wp2_with fail
  go_ret
  exact⟨by rw[HT.out,<-Ui];rfl,qP⟩
 have HS:=aa (show (0:Int)<=eX (sg b (val aG xs)) by unfold eX;rw[if_neg hz];split<;>omega);have HT:=aa (show lW (sg b (val aG xs))=a_ (val aG xs) by unfold lW;rw[if_neg hz,HN.out]);clear hz;have h0:=HS.out;go_enter Tryz.func101,Tryz.ntmps101
 go_wp2_with fail
 refine (gY _ _ k _ (Tl.alloc _) (by omega)).mono ?_;rintro e w2 ⟨rfl,dI⟩;have ff:=(dI.block w.heap.size (by simp)).trans (bT w _);have gD:=hW.trans (dI.mono (by simp));clear dI;obtain⟨A0,AZ,_,_⟩:=cy ff;clear ff;go_wp2_with fail
 refine (CB _ xs w2 (sS htab gD) (hs.below gD) dx (by omega)).mono ?_;rintro e w4 ⟨rfl,rN⟩;have qP:=gD.trans (rN.mono gD.size);go_wp2_with fail
 go_ret
 exact⟨by rw[HT.out];rfl,qP⟩
theorem Bb {va vb:aq} {m n k1 k2:Nat} {w:ag} (hx:GN w va m k1) (hy:GN w vb n k2) (h1:k1<=900000) (h0:0<n) :
  aW aj 111 #[va,vb] w fun e w'=>∃ q r,e=.returned (.tuple #[q,r,.bool true])/\Sl w' .u32 q (fJ aG (m / n))/\Sl w' .u32 r (fJ aG (m % n))/\aA w.heap.size w w':=Ub hx hy h1 h0
theorem PA {b d:Bool} {m n:Nat} (hn:0<n) (h:b=d\/m % n=0):Int.fdiv (sg b m) (sg d n)=sg (b != d) (m / n)/\Int.fmod (sg b m) (sg d n)=sg d (m % n):=by
 have hd:=pz m n;have hl:=dZ m hn;generalize m / n=q at *;generalize m % n=r at *;have hdz:(n:Int)*q+r=m:=by exact_mod_cast hd
 cases d
 ·have hp:sg false n > 0:=by simp[sg];omega
  refine (Int.fdiv_fmod_unique hp).2 ?_
  cases b<;>simp[sg,Int.mul_neg] at *<;>(try subst h)<;>omega
 have hp:sg true n<0:=by simp[sg];omega
 refine (Int.fdiv_fmod_unique' hp).2 ?_
 cases b<;>simp[sg,Int.neg_mul,Int.mul_neg] at *<;>(try subst h)<;>omega
theorem MM {b d:Bool} {m n:Nat} (hn:0<n) (h:b≠d) (hr:0<m % n):Int.fdiv (sg b m) (sg d n)=sg (b != d) (m / n+1)/\Int.fmod (sg b m) (sg d n)=sg d (n - m % n):=by
 have hd:=pz m n;have hl:=dZ m hn;generalize m / n=q at *;generalize m % n=r at *;have hdz:(n:Int)*q+r=m:=by exact_mod_cast hd
 cases d
 ·have hp:sg false n > 0:=by simp[sg];omega
  refine (Int.fdiv_fmod_unique hp).2 ?_
  cases b<;>simp[sg,Int.mul_neg,Int.mul_add] at *<;>omega
 have hp:sg true n<0:=by simp[sg];omega
 refine (Int.fdiv_fmod_unique' hp).2 ?_
 cases b<;>simp[sg,Int.neg_mul,Int.mul_neg,Int.mul_add] at *<;>omega
theorem DV (b d s:Bool) (ao po:Option Addr) (l c pl pc m n k1 k2:Nat) (w:ag) (hg:GN w (.slice ao l c) m k1) (fK:GN w (.slice po pl pc) n k2) (h1:k1<=900000) (h0:0<n) (hs:s=(b != d)) (h:b=d\/m % n=0) :
  aW aj 63 #[.agg #[.bool b,.slice ao l c],.agg #[.bool d,.slice po pl pc]] w fun e w'=>∃ q r,e=.returned (.tuple #[q,r,.bool true])/\CI w' q (sg s (m / n)) (k1+3)/\CI w' r (sg d (m % n)) k2/\aA w.heap.size w w':=by
 have xX:m / n<aG ^ (k1+3):=eT (k:=k1) (qz (Nat.div_le_self _ _) hg.lt) (by omega);have LS:m % n<aG ^ k2:=wJ (dZ _ h0) fK.lt
 cases b<;>cases d
 ·obtain rfl:s=false:=hs;clear h;have dm:=ax w.heap.size w;go_enter Tryz.func63,Tryz.ntmps63
  go_wp2_with fail
  have dK:aA w.heap.size w ((((w.alloc (.cells #[.bool false,.slice ao l c] 26)).alloc (.cells #[.bool false,.slice po pl pc] 26)).alloc (.cells #[.bool false,.slice none 0 0] 26)).alloc (.cells #[.bool false,.slice none 0 0] 26)):=(((((ax _ _).alloc (by simp) _).alloc (by simp) _).alloc (by simp;omega) _).alloc (by simp;omega) _)
  replace hg:=hg.below dK;replace fK:=fK.below dK;replace dm:=dm.trans (dK.mono dm.size);clear dK;have bu:Hid (((((w.alloc (.cells #[.bool false,.slice ao l c] 26)).alloc (.cells #[.bool false,.slice po pl pc] 26)).alloc (.cells #[.bool false,.slice none 0 0] 26)).alloc (.cells #[.bool false,.slice none 0 0] 26)).heap[w.heap.size]?=some (.cells #[.bool false,.slice ao l c] 26 (0,0))):=aa (bX (bX (bX (dh w (.cells #[.bool false,.slice ao l c] 26) _ (by first | rfl | simp)) _) _) _)
  have bj:Hid (((((w.alloc (.cells #[.bool false,.slice ao l c] 26)).alloc (.cells #[.bool false,.slice po pl pc] 26)).alloc (.cells #[.bool false,.slice none 0 0] 26)).alloc (.cells #[.bool false,.slice none 0 0] 26)).heap[w.heap.size+1]?=some (.cells #[.bool false,.slice po pl pc] 26 (0,0))):=aa (bX (bX (dh (w.alloc (.cells #[.bool false,.slice ao l c] 26)) (.cells #[.bool false,.slice po pl pc] 26) _ (by first | rfl | simp)) _) _)
  have cK:Hid (((((w.alloc (.cells #[.bool false,.slice ao l c] 26)).alloc (.cells #[.bool false,.slice po pl pc] 26)).alloc (.cells #[.bool false,.slice none 0 0] 26)).alloc (.cells #[.bool false,.slice none 0 0] 26)).heap[w.heap.size+2]?=some (.cells #[.bool false,.slice none 0 0] 26 (0,0))):=aa (bX (dh ((w.alloc (.cells #[.bool false,.slice ao l c] 26)).alloc (.cells #[.bool false,.slice po pl pc] 26)) (.cells #[.bool false,.slice none 0 0] 26) _ (by first | rfl | simp)) _)
  have cJ:Hid (((((w.alloc (.cells #[.bool false,.slice ao l c] 26)).alloc (.cells #[.bool false,.slice po pl pc] 26)).alloc (.cells #[.bool false,.slice none 0 0] 26)).alloc (.cells #[.bool false,.slice none 0 0] 26)).heap[w.heap.size+3]?=some (.cells #[.bool false,.slice none 0 0] 26 (0,0))):=aa (dh (((w.alloc (.cells #[.bool false,.slice ao l c] 26)).alloc (.cells #[.bool false,.slice po pl pc] 26)).alloc (.cells #[.bool false,.slice none 0 0] 26)) (.cells #[.bool false,.slice none 0 0] 26) _ (by first | rfl | simp));generalize ((((w.alloc (.cells #[.bool false,.slice ao l c] 26)).alloc (.cells #[.bool false,.slice po pl pc] 26)).alloc (.cells #[.bool false,.slice none 0 0] 26)).alloc (.cells #[.bool false,.slice none 0 0] 26))=wx1 at *;have yw:=af (v:=.bool false) bu.out 0 rfl;have yu:=af (v:=.slice ao l c) bu.out 1 rfl
  have yt:=af (v:=.bool false) bj.out 0 rfl;have yq:=af (v:=.slice po pl pc) bj.out 1 rfl;have q0:=af (v:=.bool false) cK.out 0 rfl;have q1:=af (v:=.slice none 0 0) cK.out 1 rfl;have r0:=af (v:=.bool false) cJ.out 0 rfl;have r1:=af (v:=.slice none 0 0) cJ.out 1 rfl;refine (Bb hg fK h1 h0).mono ?_;rintro e RW ⟨vq,vr,rfl,sq,sr,dK⟩;replace hg:=hg.below dK;replace fK:=fK.below dK;replace dm:=dm.trans (dK.mono dm.size);replace bu:=aa ((dK.block _ (ae bu.out)).trans bu.out);replace bj:=aa ((dK.block _ (ae bj.out)).trans bj.out);replace cK:=aa ((dK.block _ (ae cK.out)).trans cK.out);replace cJ:=aa ((dK.block _ (ae cJ.out)).trans cJ.out);clear dK;replace yw:=af (v:=.bool false) bu.out 0 rfl
  replace yu:=af (v:=.slice ao l c) bu.out 1 rfl;replace yt:=af (v:=.bool false) bj.out 0 rfl;replace yq:=af (v:=.slice po pl pc) bj.out 1 rfl;replace q0:=af (v:=.bool false) cK.out 0 rfl;replace q1:=af (v:=.slice none 0 0) cK.out 1 rfl;replace r0:=af (v:=.bool false) cJ.out 0 rfl;replace r1:=af (v:=.slice none 0 0) cJ.out 1 rfl;obtain⟨qo,qc,rfl⟩:=bZ sq;obtain⟨ro,rc,rfl⟩:=bZ sr;go_wp2_with fail
  have gL:=ae bu.out;have fA:=ae bj.out;have mL:=ae cK.out;have mK:=ae cJ.out;have lj:=dm.size
  refine aQ.region (by kernel_rfl) [[],[0],[],[2],[0,1,2,3],[],[0,1,2,3,4,5],[],[7],[],[0,1,2,3,4,5,6,7,8,9],[0,1,2,3,4,5,6,7,8,9,10],[0,1,2,3,4,5,6,7,8,9,10,11],[0,1,2,3,4,5,6,7,8,9,10,11,12]] [] [(11,1000),(12,1001)] (fun q=>[w.heap.size+2,w.heap.size+3].getD q 0) 2 14 (by kernel_rfl) (by kernel_rfl) (fun q hq=>by match q,hq with | 0,_=>exact mL | 1,_=>exact mK) (fun q r hq hr hne=>by match q,r,hq,hr,hne with | 0,0,_,_,h=>exact absurd rfl h | 0,1,_,_,h=>exact (by show w.heap.size+2≠w.heap.size+3;omega) | 1,0,_,_,h=>exact (by show w.heap.size+3≠w.heap.size+2;omega) | 1,1,_,_,h=>exact absurd rfl h) ?_;refine aQ.aB.da ?_ (by rfl) (fun T xs wr hA=>?_) ?_
  rotate_left 1
  ·have e2:=hA.pre 2 (by kernel_rfl);simp only[g_,iC,iz] at e2;clear hA;refine⟨(by rfl),?_⟩;go_simp<;>(try with_reducible rfl)
  refine aQ.aB.da ?_ (by rfl) (fun T xs wr hA=>?_) ?_
  rotate_left 1
  ·have tL:=hA.tm 0 43 (by rfl) (by rfl);have f43:xs 0=_:=hA.fa 0 (by rfl)
   (try simp (disch:=rfl) only [aQ.an] at f43)
   rw[f43] at tL;clear f43;have bx:wr.heap[w.heap.size]?=_:=(hA.bl _ gL (fun q hq=>by match q,hq with | 0,_=>exact (by show w.heap.size+2≠w.heap.size;omega) | 1,_=>exact (by show w.heap.size+3≠w.heap.size;omega))).trans bu.out;have q0:=af (v:=.bool false) bx 0 rfl;have q1:=af (v:=.slice ao l c) bx 1 rfl;clear bx;clear hA;refine⟨(by rfl),?_⟩;go_simp<;>(try with_reducible rfl)
  refine aQ.aB.da ?_ (by rfl) (fun T xs wr hA=>?_) ?_
  rotate_left 1
  ·have e3:=hA.pre 3 (by kernel_rfl);simp only[g_,iC,iz] at e3;clear hA;refine⟨(by rfl),?_⟩;go_simp<;>(try with_reducible rfl)
  refine aQ.aB.da ?_ (by rfl) (fun T xs wr hA=>?_) ?_
  rotate_left 1
  ·have xA:=hA.tm 2 45 (by rfl) (by rfl);have f45:xs 2=_:=hA.fa 2 (by rfl)
   (try simp (disch:=rfl) only [aQ.an] at f45)
   rw[f45] at xA;clear f45;have bx:wr.heap[w.heap.size+1]?=_:=(hA.bl _ fA (fun q hq=>by match q,hq with | 0,_=>exact (by show w.heap.size+2≠w.heap.size+1;omega) | 1,_=>exact (by show w.heap.size+3≠w.heap.size+1;omega))).trans bj.out;have q0:=af (v:=.bool false) bx 0 rfl;have q1:=af (v:=.slice po pl pc) bx 1 rfl;clear bx;clear hA;refine⟨(by rfl),?_⟩;go_simp<;>(try with_reducible rfl)
  refine aQ.aB.da ?_ (by rfl) (fun T xs wr hA=>?_) ?_
  rotate_left 1
  ·have uw:=hA.tm 1 44 (by rfl) (by rfl);have f44:xs 1=_:=hA.fa 1 (by rfl)
   (try simp (disch:=rfl) only [aQ.an] at f44)
   rw[f44] at uw;clear f44;have wA:=hA.tm 3 46 (by rfl) (by rfl);have f46:xs 3=_:=hA.fa 3 (by rfl)
   (try simp (disch:=rfl) only [aQ.an] at f46)
   rw[f46] at wA;clear f46;clear hA;refine⟨(by rfl),?_⟩;go_simp<;>(try with_reducible rfl)
  refine aQ.aB.da ?_ (by rfl) (fun T xs wr hA=>?_) ?_
  rotate_left 1
  ·have e7:=hA.pre 7 (by kernel_rfl);simp only[g_,iC,iz] at e7;clear hA;refine⟨(by rfl),?_⟩;go_simp<;>(try with_reducible rfl)
  refine aQ.aB.call (fun _ v w=>CI w v (sg false (m / n)) (k1+3)) (fun _ _ _ _ h hb=>h.below hb) (fun _ _ _ _ _ h hp=>h.keeps hp.keeps) (by rfl) (fun T xs wr hA=>?_) ?_
  ·have xz:=hA.tm 4 47 (by rfl) (by rfl);have f47:xs 4=_:=hA.fa 4 (by rfl)
   (try simp (disch:=rfl) only [aQ.an] at f47)
   rw[f47] at xz;clear f47;have Gb:=hA.tm 5 48 (by rfl) (by rfl);have f48:xs 5=_:=hA.fa 5 (by rfl)
   (try simp (disch:=rfl) only [aQ.an] at f48)
   rw[f48] at Gb;clear f48;have hkp:=gN hA.kp;have zu:=dm.trans (cm (hA.be w.heap.size lj (fun q hq=>by match q,hq with | 0,_=>exact (by show w.heap.size<=w.heap.size+2;omega) | 1,_=>exact (by show w.heap.size<=w.heap.size+3;omega))));have sq:=sq.keeps hkp;clear hA;refine⟨(by rfl),fun K hK=>?_⟩;go_simp
   refine (dS false (.slice qo _ qc) (m / n) (k1+3) _ sq xX).mono ?_;rintro e wq ⟨v,rfl,c,hb⟩;exact hK.out _ _ c hb
  refine aQ.aB.da ?_ (by rfl) (fun T xs wr hA=>?_) ?_
  rotate_left 1
  ·have e3:=hA.pre 3 (by kernel_rfl);simp only[g_,iC,iz] at e3;clear hA;refine⟨(by rfl),?_⟩;go_simp<;>(try with_reducible rfl)
  refine aQ.aB.da ?_ (by rfl) (fun T xs wr hA=>?_) ?_
  rotate_left 1
  ·have Ga:=hA.tm 7 50 (by rfl) (by rfl);have f50:xs 7=_:=hA.fa 7 (by rfl)
   (try simp (disch:=rfl) only [aQ.an] at f50)
   rw[f50] at Ga;clear f50;have bx:wr.heap[w.heap.size+1]?=_:=(hA.bl _ fA (fun q hq=>by match q,hq with | 0,_=>exact (by show w.heap.size+2≠w.heap.size+1;omega) | 1,_=>exact (by show w.heap.size+3≠w.heap.size+1;omega))).trans bj.out;have q0:=af (v:=.bool false) bx 0 rfl;have q1:=af (v:=.slice po pl pc) bx 1 rfl;clear bx;clear hA;refine⟨(by rfl),?_⟩;go_simp<;>(try with_reducible rfl)
  refine aQ.aB.da ?_ (by rfl) (fun T xs wr hA=>?_) ?_
  rotate_left 1
  ·have e8:=hA.pre 8 (by kernel_rfl);simp only[g_,iC,iz] at e8;clear hA;refine⟨(by rfl),?_⟩;go_simp<;>(try with_reducible rfl)
  refine aQ.aB.call (fun _ v w=>CI w v (sg false (m % n)) k2) (fun _ _ _ _ h hb=>h.below hb) (fun _ _ _ _ _ h hp=>h.keeps hp.keeps) (by rfl) (fun T xs wr hA=>?_) ?_
  ·have F_:=hA.tm 8 51 (by rfl) (by rfl);have f51:xs 8=_:=hA.fa 8 (by rfl)
   (try simp (disch:=rfl) only [aQ.an] at f51)
   rw[f51] at F_;clear f51;have F7:=hA.tm 9 52 (by rfl) (by rfl);have f52:xs 9=_:=hA.fa 9 (by rfl)
   (try simp (disch:=rfl) only [aQ.an] at f52)
   rw[f52] at F7;clear f52;have hkp:=gN hA.kp;have zu:=dm.trans (cm (hA.be w.heap.size lj (fun q hq=>by match q,hq with | 0,_=>exact (by show w.heap.size<=w.heap.size+2;omega) | 1,_=>exact (by show w.heap.size<=w.heap.size+3;omega))));have sr:=sr.keeps hkp;clear hA;refine⟨(by rfl),fun K hK=>?_⟩;go_simp
   refine (dS false (.slice ro _ rc) (m % n) k2 _ sr LS).mono ?_;rintro e wq ⟨v,rfl,c,hb⟩;exact hK.out _ _ c hb
  refine aQ.aB.iP 0 6 26 (by rfl) (by rfl) (by decide) (aQ.jF (by rfl)) (fun T xs wr hA sC=>?_) ?_
  ·have e4:=hA.pre 4 (by kernel_rfl);simp only[g_,iC,iz] at e4;have hB:wr.heap[w.heap.size+2]?=_:=sC.trans cK.out;clear sC;have De:=hA.tm 6 49 (by rfl) (by rfl);have hc:CI wr (xs 6) (sg false (m / n)) (k1+3):=hA.fa 6 (by rfl);obtain⟨Lt,JS,Kh,Km,hv⟩:=hc.shape;clear hc;rw[hv] at De;have z0:=af hB 0 rfl;have z1:=af hB 1 rfl;have sF:=aP hB 0;have sE:=aP hB 1;clear hA;refine⟨(by rfl),fun K hK=>?_⟩;go_simp
   exact hK.out _ _ hv (ri hB _ _) (q_ hB (by rfl) (by rfl))
  refine aQ.aB.iP 1 10 26 (by rfl) (by rfl) (by decide) (aQ.jF (by rfl)) (fun T xs wr hA sC=>?_) ?_
  ·have e5:=hA.pre 5 (by kernel_rfl);simp only[g_,iC,iz] at e5;have hB:wr.heap[w.heap.size+3]?=_:=sC.trans cJ.out;clear sC;have Is:=hA.tm 10 53 (by rfl) (by rfl);have hc:CI wr (xs 10) (sg false (m % n)) k2:=hA.fa 10 (by rfl);obtain⟨Lt,JS,Kh,Km,hv⟩:=hc.shape;clear hc;rw[hv] at Is;have z0:=af hB 0 rfl;have z1:=af hB 1 rfl;have sF:=aP hB 0;have sE:=aP hB 1;clear hA;refine⟨(by rfl),fun K hK=>?_⟩;go_simp
   exact hK.out _ _ hv (ri hB _ _) (q_ hB (by rfl) (by rfl))
  refine aQ.aB.da ?_ (by rfl) (fun T xs wr hA=>?_) ?_
  rotate_left 1
  ·clear hA;refine⟨(by rfl),?_⟩;go_simp<;>(try with_reducible rfl)
  refine aQ.aB.done (fun xs Al hL=>?_);obtain⟨⟨iY,dw,gM⟩,hf,hp,hn⟩:=hL;have f0:xs 0=_:=hf 0 (by decide)
  (try simp (disch:=rfl) only [aQ.an] at f0)
  have f1:xs 1=_:=hf 1 (by decide)
  (try simp (disch:=rfl) only [aQ.an] at f1)
  have f2:xs 2=_:=hf 2 (by decide)
  (try simp (disch:=rfl) only [aQ.an] at f2)
  have f3:xs 3=_:=hf 3 (by decide)
  (try simp (disch:=rfl) only [aQ.an] at f3)
  have f4:xs 4=_:=hf 4 (by decide)
  (try simp (disch:=rfl) only [aQ.an] at f4)
  have f5:xs 5=_:=hf 5 (by decide)
  (try simp (disch:=rfl) only [aQ.an] at f5)
  have oK:CI Al (xs 6) (sg false (m / n)) (k1+3):=hf 6 (by decide);have f7:xs 7=_:=hf 7 (by decide)
  (try simp (disch:=rfl) only [aQ.an] at f7)
  have f8:xs 8=_:=hf 8 (by decide)
  (try simp (disch:=rfl) only [aQ.an] at f8)
  have f9:xs 9=_:=hf 9 (by decide)
  (try simp (disch:=rfl) only [aQ.an] at f9)
  have oJ:CI Al (xs 10) (sg false (m % n)) k2:=hf 10 (by decide);obtain⟨cc,hv,sB⟩:=hf 11 (by decide);change xs 6=_ at hv;obtain⟨oM,oe,ow,oy,ie⟩:=oK.shape;rw[ie] at hv;injection hv with hv;subst hv;obtain⟨cc,hv,sA⟩:=hf 12 (by decide);change xs 10=_ at hv;obtain⟨oL,oa,ou,ox,h_⟩:=oJ.shape;rw[h_] at hv;injection hv with hv;subst hv;have f13:xs 13=_:=hf 13 (by decide)
  (try simp (disch:=rfl) only [aQ.an] at f13)
  clear hf hp hn;refine aQ.jE ?_;rw[ie] at oK;rw[h_] at oJ;simp only[aQ.fill,aY,bS,bD,f0,f1,f2,f3,f4,f5,f7,f8,f9,f13,ie,h_];clear f0 f1 f2 f3 f4 f5 f7 f8 f9 f13 ie h_;clear xs;replace gM:=gN gM;replace hg:=hg.keeps gM;replace fK:=fK.keeps gM;replace sq:=sq.keeps gM;replace sr:=sr.keeps gM;replace dm:=dm.trans (cm (iY w.heap.size lj (fun q hq=>by match q,hq with | 0,_=>exact (by show w.heap.size<=w.heap.size+2;omega) | 1,_=>exact (by show w.heap.size<=w.heap.size+3;omega))));replace bu:=aa ((dw _ gL (fun q hq=>by match q,hq with | 0,_=>exact (by show w.heap.size+2≠w.heap.size;omega) | 1,_=>exact (by show w.heap.size+3≠w.heap.size;omega))).trans bu.out)
  replace bj:=aa ((dw _ fA (fun q hq=>by match q,hq with | 0,_=>exact (by show w.heap.size+2≠w.heap.size+1;omega) | 1,_=>exact (by show w.heap.size+3≠w.heap.size+1;omega))).trans bj.out);replace cK:=aa (show Al.heap[w.heap.size+2]?=some (.cells #[.bool oM,.slice oe ow oy] 26 (0,0)) from sB);clear sB;replace cJ:=aa (show Al.heap[w.heap.size+3]?=some (.cells #[.bool oL,.slice oa ou ox] 26 (0,0)) from sA);clear sA;clear gM iY dw lj;replace yw:=af (v:=.bool false) bu.out 0 rfl;replace yu:=af (v:=.slice ao l c) bu.out 1 rfl;replace yt:=af (v:=.bool false) bj.out 0 rfl;replace yq:=af (v:=.slice po pl pc) bj.out 1 rfl;replace q0:=af (v:=.bool oM) cK.out 0 rfl;replace q1:=af (v:=.slice oe ow oy) cK.out 1 rfl
  replace r0:=af (v:=.bool oL) cJ.out 0 rfl;replace r1:=af (v:=.slice oa ou ox) cJ.out 1 rfl;clear gL fA mL mK;go_wp2_with fail
  exact aD (v:=.tuple #[.agg #[.bool oM,.slice oe ow oy],.agg #[.bool oL,.slice oa ou ox],.bool true]) (by simp[results,mG,go_sem,q0,q1,r0,r1]) rfl ⟨_,_,rfl,oK,oJ,dm⟩
 ·obtain rfl:s=true:=hs
  have Ck:(fJ aG (m % n)).length<=0:=by
   rcases h with h | h
   ·cases h
   rw[h,fD];exact ai _
  clear h;have dm:=ax w.heap.size w;go_enter Tryz.func63,Tryz.ntmps63
  go_wp2_with fail
  have dK:aA w.heap.size w ((((w.alloc (.cells #[.bool false,.slice ao l c] 26)).alloc (.cells #[.bool true,.slice po pl pc] 26)).alloc (.cells #[.bool false,.slice none 0 0] 26)).alloc (.cells #[.bool false,.slice none 0 0] 26)):=(((((ax _ _).alloc (by simp) _).alloc (by simp) _).alloc (by simp;omega) _).alloc (by simp;omega) _)
  replace hg:=hg.below dK;replace fK:=fK.below dK;replace dm:=dm.trans (dK.mono dm.size);clear dK;have bu:Hid (((((w.alloc (.cells #[.bool false,.slice ao l c] 26)).alloc (.cells #[.bool true,.slice po pl pc] 26)).alloc (.cells #[.bool false,.slice none 0 0] 26)).alloc (.cells #[.bool false,.slice none 0 0] 26)).heap[w.heap.size]?=some (.cells #[.bool false,.slice ao l c] 26 (0,0))):=aa (bX (bX (bX (dh w (.cells #[.bool false,.slice ao l c] 26) _ (by first | rfl | simp)) _) _) _)
  have bj:Hid (((((w.alloc (.cells #[.bool false,.slice ao l c] 26)).alloc (.cells #[.bool true,.slice po pl pc] 26)).alloc (.cells #[.bool false,.slice none 0 0] 26)).alloc (.cells #[.bool false,.slice none 0 0] 26)).heap[w.heap.size+1]?=some (.cells #[.bool true,.slice po pl pc] 26 (0,0))):=aa (bX (bX (dh (w.alloc (.cells #[.bool false,.slice ao l c] 26)) (.cells #[.bool true,.slice po pl pc] 26) _ (by first | rfl | simp)) _) _)
  have cK:Hid (((((w.alloc (.cells #[.bool false,.slice ao l c] 26)).alloc (.cells #[.bool true,.slice po pl pc] 26)).alloc (.cells #[.bool false,.slice none 0 0] 26)).alloc (.cells #[.bool false,.slice none 0 0] 26)).heap[w.heap.size+2]?=some (.cells #[.bool false,.slice none 0 0] 26 (0,0))):=aa (bX (dh ((w.alloc (.cells #[.bool false,.slice ao l c] 26)).alloc (.cells #[.bool true,.slice po pl pc] 26)) (.cells #[.bool false,.slice none 0 0] 26) _ (by first | rfl | simp)) _)
  have cJ:Hid (((((w.alloc (.cells #[.bool false,.slice ao l c] 26)).alloc (.cells #[.bool true,.slice po pl pc] 26)).alloc (.cells #[.bool false,.slice none 0 0] 26)).alloc (.cells #[.bool false,.slice none 0 0] 26)).heap[w.heap.size+3]?=some (.cells #[.bool false,.slice none 0 0] 26 (0,0))):=aa (dh (((w.alloc (.cells #[.bool false,.slice ao l c] 26)).alloc (.cells #[.bool true,.slice po pl pc] 26)).alloc (.cells #[.bool false,.slice none 0 0] 26)) (.cells #[.bool false,.slice none 0 0] 26) _ (by first | rfl | simp));generalize ((((w.alloc (.cells #[.bool false,.slice ao l c] 26)).alloc (.cells #[.bool true,.slice po pl pc] 26)).alloc (.cells #[.bool false,.slice none 0 0] 26)).alloc (.cells #[.bool false,.slice none 0 0] 26))=wx1 at *;have yw:=af (v:=.bool false) bu.out 0 rfl;have yu:=af (v:=.slice ao l c) bu.out 1 rfl
  have yt:=af (v:=.bool true) bj.out 0 rfl;have yq:=af (v:=.slice po pl pc) bj.out 1 rfl;have q0:=af (v:=.bool false) cK.out 0 rfl;have q1:=af (v:=.slice none 0 0) cK.out 1 rfl;have r0:=af (v:=.bool false) cJ.out 0 rfl;have r1:=af (v:=.slice none 0 0) cJ.out 1 rfl;refine (Bb hg fK h1 h0).mono ?_;rintro e RW ⟨vq,vr,rfl,sq,sr,dK⟩;replace hg:=hg.below dK;replace fK:=fK.below dK;replace dm:=dm.trans (dK.mono dm.size);replace bu:=aa ((dK.block _ (ae bu.out)).trans bu.out);replace bj:=aa ((dK.block _ (ae bj.out)).trans bj.out);replace cK:=aa ((dK.block _ (ae cK.out)).trans cK.out);replace cJ:=aa ((dK.block _ (ae cJ.out)).trans cJ.out);clear dK;replace yw:=af (v:=.bool false) bu.out 0 rfl
  replace yu:=af (v:=.slice ao l c) bu.out 1 rfl;replace yt:=af (v:=.bool true) bj.out 0 rfl;replace yq:=af (v:=.slice po pl pc) bj.out 1 rfl;replace q0:=af (v:=.bool false) cK.out 0 rfl;replace q1:=af (v:=.slice none 0 0) cK.out 1 rfl;replace r0:=af (v:=.bool false) cJ.out 0 rfl;replace r1:=af (v:=.slice none 0 0) cJ.out 1 rfl;obtain⟨qo,qc,rfl⟩:=bZ sq;obtain⟨ro,rc,rfl⟩:=bZ sr;go_wp2_with fail
  have gL:=ae bu.out;have fA:=ae bj.out;have mL:=ae cK.out;have mK:=ae cJ.out;have lj:=dm.size
  refine aQ.region (by kernel_rfl) [[],[0],[],[2],[0,1,2,3],[],[0,1,2,3,4,5],[],[7],[],[0,1,2,3,4,5,6,7,8,9],[0,1,2,3,4,5,6,7,8,9,10],[0,1,2,3,4,5,6,7,8,9,10,11],[0,1,2,3,4,5,6,7,8,9,10,11,12]] [] [(11,1000),(12,1001)] (fun q=>[w.heap.size+2,w.heap.size+3].getD q 0) 2 14 (by kernel_rfl) (by kernel_rfl) (fun q hq=>by match q,hq with | 0,_=>exact mL | 1,_=>exact mK) (fun q r hq hr hne=>by match q,r,hq,hr,hne with | 0,0,_,_,h=>exact absurd rfl h | 0,1,_,_,h=>exact (by show w.heap.size+2≠w.heap.size+3;omega) | 1,0,_,_,h=>exact (by show w.heap.size+3≠w.heap.size+2;omega) | 1,1,_,_,h=>exact absurd rfl h) ?_;refine aQ.aB.da ?_ (by rfl) (fun T xs wr hA=>?_) ?_
  rotate_left 1
  ·have e2:=hA.pre 2 (by kernel_rfl);simp only[g_,iC,iz] at e2;clear hA;refine⟨(by rfl),?_⟩;go_simp<;>(try with_reducible rfl)
  refine aQ.aB.da ?_ (by rfl) (fun T xs wr hA=>?_) ?_
  rotate_left 1
  ·have tL:=hA.tm 0 43 (by rfl) (by rfl);have f43:xs 0=_:=hA.fa 0 (by rfl)
   (try simp (disch:=rfl) only [aQ.an] at f43)
   rw[f43] at tL;clear f43;have bx:wr.heap[w.heap.size]?=_:=(hA.bl _ gL (fun q hq=>by match q,hq with | 0,_=>exact (by show w.heap.size+2≠w.heap.size;omega) | 1,_=>exact (by show w.heap.size+3≠w.heap.size;omega))).trans bu.out;have q0:=af (v:=.bool false) bx 0 rfl;have q1:=af (v:=.slice ao l c) bx 1 rfl;clear bx;clear hA;refine⟨(by rfl),?_⟩;go_simp<;>(try with_reducible rfl)
  refine aQ.aB.da ?_ (by rfl) (fun T xs wr hA=>?_) ?_
  rotate_left 1
  ·have e3:=hA.pre 3 (by kernel_rfl);simp only[g_,iC,iz] at e3;clear hA;refine⟨(by rfl),?_⟩;go_simp<;>(try with_reducible rfl)
  refine aQ.aB.da ?_ (by rfl) (fun T xs wr hA=>?_) ?_
  rotate_left 1
  ·have xA:=hA.tm 2 45 (by rfl) (by rfl);have f45:xs 2=_:=hA.fa 2 (by rfl)
   (try simp (disch:=rfl) only [aQ.an] at f45)
   rw[f45] at xA;clear f45;have bx:wr.heap[w.heap.size+1]?=_:=(hA.bl _ fA (fun q hq=>by match q,hq with | 0,_=>exact (by show w.heap.size+2≠w.heap.size+1;omega) | 1,_=>exact (by show w.heap.size+3≠w.heap.size+1;omega))).trans bj.out;have q0:=af (v:=.bool true) bx 0 rfl;have q1:=af (v:=.slice po pl pc) bx 1 rfl;clear bx;clear hA;refine⟨(by rfl),?_⟩;go_simp<;>(try with_reducible rfl)
  refine aQ.aB.da ?_ (by rfl) (fun T xs wr hA=>?_) ?_
  rotate_left 1
  ·have uw:=hA.tm 1 44 (by rfl) (by rfl);have f44:xs 1=_:=hA.fa 1 (by rfl)
   (try simp (disch:=rfl) only [aQ.an] at f44)
   rw[f44] at uw;clear f44;have wA:=hA.tm 3 46 (by rfl) (by rfl);have f46:xs 3=_:=hA.fa 3 (by rfl)
   (try simp (disch:=rfl) only [aQ.an] at f46)
   rw[f46] at wA;clear f46;clear hA;refine⟨(by rfl),?_⟩;go_simp<;>(try with_reducible rfl)
  refine aQ.aB.da ?_ (by rfl) (fun T xs wr hA=>?_) ?_
  rotate_left 1
  ·have e7:=hA.pre 7 (by kernel_rfl);simp only[g_,iC,iz] at e7;clear hA;refine⟨(by rfl),?_⟩;go_simp<;>(try with_reducible rfl)
  refine aQ.aB.call (fun _ v w=>CI w v (sg true (m / n)) (k1+3)) (fun _ _ _ _ h hb=>h.below hb) (fun _ _ _ _ _ h hp=>h.keeps hp.keeps) (by rfl) (fun T xs wr hA=>?_) ?_
  ·have xz:=hA.tm 4 47 (by rfl) (by rfl);have f47:xs 4=_:=hA.fa 4 (by rfl)
   (try simp (disch:=rfl) only [aQ.an] at f47)
   rw[f47] at xz;clear f47;have Gb:=hA.tm 5 48 (by rfl) (by rfl);have f48:xs 5=_:=hA.fa 5 (by rfl)
   (try simp (disch:=rfl) only [aQ.an] at f48)
   rw[f48] at Gb;clear f48;have hkp:=gN hA.kp;have zu:=dm.trans (cm (hA.be w.heap.size lj (fun q hq=>by match q,hq with | 0,_=>exact (by show w.heap.size<=w.heap.size+2;omega) | 1,_=>exact (by show w.heap.size<=w.heap.size+3;omega))));have sq:=sq.keeps hkp;clear hA;refine⟨(by rfl),fun K hK=>?_⟩;go_simp
   refine (dS true (.slice qo _ qc) (m / n) (k1+3) _ sq xX).mono ?_;rintro e wq ⟨v,rfl,c,hb⟩;exact hK.out _ _ c hb
  refine aQ.aB.da ?_ (by rfl) (fun T xs wr hA=>?_) ?_
  rotate_left 1
  ·have e3:=hA.pre 3 (by kernel_rfl);simp only[g_,iC,iz] at e3;clear hA;refine⟨(by rfl),?_⟩;go_simp<;>(try with_reducible rfl)
  refine aQ.aB.da ?_ (by rfl) (fun T xs wr hA=>?_) ?_
  rotate_left 1
  ·have Ga:=hA.tm 7 50 (by rfl) (by rfl);have f50:xs 7=_:=hA.fa 7 (by rfl)
   (try simp (disch:=rfl) only [aQ.an] at f50)
   rw[f50] at Ga;clear f50;have bx:wr.heap[w.heap.size+1]?=_:=(hA.bl _ fA (fun q hq=>by match q,hq with | 0,_=>exact (by show w.heap.size+2≠w.heap.size+1;omega) | 1,_=>exact (by show w.heap.size+3≠w.heap.size+1;omega))).trans bj.out;have q0:=af (v:=.bool true) bx 0 rfl;have q1:=af (v:=.slice po pl pc) bx 1 rfl;clear bx;clear hA;refine⟨(by rfl),?_⟩;go_simp<;>(try with_reducible rfl)
  refine aQ.aB.da ?_ (by rfl) (fun T xs wr hA=>?_) ?_
  rotate_left 1
  ·have e8:=hA.pre 8 (by kernel_rfl);simp only[g_,iC,iz] at e8;clear hA;refine⟨(by rfl),?_⟩;go_simp<;>(try with_reducible rfl)
  refine aQ.aB.call (fun _ v w=>CI w v (sg true (m % n)) k2) (fun _ _ _ _ h hb=>h.below hb) (fun _ _ _ _ _ h hp=>h.keeps hp.keeps) (by rfl) (fun T xs wr hA=>?_) ?_
  ·have F_:=hA.tm 8 51 (by rfl) (by rfl);have f51:xs 8=_:=hA.fa 8 (by rfl)
   (try simp (disch:=rfl) only [aQ.an] at f51)
   rw[f51] at F_;clear f51;have F7:=hA.tm 9 52 (by rfl) (by rfl);have f52:xs 9=_:=hA.fa 9 (by rfl)
   (try simp (disch:=rfl) only [aQ.an] at f52)
   rw[f52] at F7;clear f52;have hkp:=gN hA.kp;have zu:=dm.trans (cm (hA.be w.heap.size lj (fun q hq=>by match q,hq with | 0,_=>exact (by show w.heap.size<=w.heap.size+2;omega) | 1,_=>exact (by show w.heap.size<=w.heap.size+3;omega))));have sr:=sr.keeps hkp;clear hA;refine⟨(by rfl),fun K hK=>?_⟩;go_simp
   refine (dS true (.slice ro _ rc) (m % n) k2 _ sr LS).mono ?_;rintro e wq ⟨v,rfl,c,hb⟩;exact hK.out _ _ c hb
  refine aQ.aB.iP 0 6 26 (by rfl) (by rfl) (by decide) (aQ.jF (by rfl)) (fun T xs wr hA sC=>?_) ?_
  ·have e4:=hA.pre 4 (by kernel_rfl);simp only[g_,iC,iz] at e4;have hB:wr.heap[w.heap.size+2]?=_:=sC.trans cK.out;clear sC;have De:=hA.tm 6 49 (by rfl) (by rfl);have hc:CI wr (xs 6) (sg true (m / n)) (k1+3):=hA.fa 6 (by rfl);obtain⟨Lt,JS,Kh,Km,hv⟩:=hc.shape;clear hc;rw[hv] at De;have z0:=af hB 0 rfl;have z1:=af hB 1 rfl;have sF:=aP hB 0;have sE:=aP hB 1;clear hA;refine⟨(by rfl),fun K hK=>?_⟩;go_simp
   exact hK.out _ _ hv (ri hB _ _) (q_ hB (by rfl) (by rfl))
  refine aQ.aB.iP 1 10 26 (by rfl) (by rfl) (by decide) (aQ.jF (by rfl)) (fun T xs wr hA sC=>?_) ?_
  ·have e5:=hA.pre 5 (by kernel_rfl);simp only[g_,iC,iz] at e5;have hB:wr.heap[w.heap.size+3]?=_:=sC.trans cJ.out;clear sC;have Is:=hA.tm 10 53 (by rfl) (by rfl);have hc:CI wr (xs 10) (sg true (m % n)) k2:=hA.fa 10 (by rfl);obtain⟨Lt,JS,Kh,Km,hv⟩:=hc.shape;clear hc;rw[hv] at Is;have z0:=af hB 0 rfl;have z1:=af hB 1 rfl;have sF:=aP hB 0;have sE:=aP hB 1;clear hA;refine⟨(by rfl),fun K hK=>?_⟩;go_simp
   exact hK.out _ _ hv (ri hB _ _) (q_ hB (by rfl) (by rfl))
  refine aQ.aB.da ?_ (by rfl) (fun T xs wr hA=>?_) ?_
  rotate_left 1
  ·clear hA;refine⟨(by rfl),?_⟩;go_simp<;>(try with_reducible rfl)
  refine aQ.aB.done (fun xs Al hL=>?_);obtain⟨⟨iY,dw,gM⟩,hf,hp,hn⟩:=hL;have f0:xs 0=_:=hf 0 (by decide)
  (try simp (disch:=rfl) only [aQ.an] at f0)
  have f1:xs 1=_:=hf 1 (by decide)
  (try simp (disch:=rfl) only [aQ.an] at f1)
  have f2:xs 2=_:=hf 2 (by decide)
  (try simp (disch:=rfl) only [aQ.an] at f2)
  have f3:xs 3=_:=hf 3 (by decide)
  (try simp (disch:=rfl) only [aQ.an] at f3)
  have f4:xs 4=_:=hf 4 (by decide)
  (try simp (disch:=rfl) only [aQ.an] at f4)
  have f5:xs 5=_:=hf 5 (by decide)
  (try simp (disch:=rfl) only [aQ.an] at f5)
  have oK:CI Al (xs 6) (sg true (m / n)) (k1+3):=hf 6 (by decide);have f7:xs 7=_:=hf 7 (by decide)
  (try simp (disch:=rfl) only [aQ.an] at f7)
  have f8:xs 8=_:=hf 8 (by decide)
  (try simp (disch:=rfl) only [aQ.an] at f8)
  have f9:xs 9=_:=hf 9 (by decide)
  (try simp (disch:=rfl) only [aQ.an] at f9)
  have oJ:CI Al (xs 10) (sg true (m % n)) k2:=hf 10 (by decide);obtain⟨cc,hv,sB⟩:=hf 11 (by decide);change xs 6=_ at hv;obtain⟨oM,oe,ow,oy,ie⟩:=oK.shape;rw[ie] at hv;injection hv with hv;subst hv;obtain⟨cc,hv,sA⟩:=hf 12 (by decide);change xs 10=_ at hv;obtain⟨oL,oa,ou,ox,h_⟩:=oJ.shape;rw[h_] at hv;injection hv with hv;subst hv;have f13:xs 13=_:=hf 13 (by decide)
  (try simp (disch:=rfl) only [aQ.an] at f13)
  clear hf hp hn;refine aQ.jE ?_;rw[ie] at oK;rw[h_] at oJ;simp only[aQ.fill,aY,bS,bD,f0,f1,f2,f3,f4,f5,f7,f8,f9,f13,ie,h_];clear f0 f1 f2 f3 f4 f5 f7 f8 f9 f13 ie h_;clear xs;replace gM:=gN gM;replace hg:=hg.keeps gM;replace fK:=fK.keeps gM;replace sq:=sq.keeps gM;replace sr:=sr.keeps gM;replace dm:=dm.trans (cm (iY w.heap.size lj (fun q hq=>by match q,hq with | 0,_=>exact (by show w.heap.size<=w.heap.size+2;omega) | 1,_=>exact (by show w.heap.size<=w.heap.size+3;omega))));replace bu:=aa ((dw _ gL (fun q hq=>by match q,hq with | 0,_=>exact (by show w.heap.size+2≠w.heap.size;omega) | 1,_=>exact (by show w.heap.size+3≠w.heap.size;omega))).trans bu.out)
  replace bj:=aa ((dw _ fA (fun q hq=>by match q,hq with | 0,_=>exact (by show w.heap.size+2≠w.heap.size+1;omega) | 1,_=>exact (by show w.heap.size+3≠w.heap.size+1;omega))).trans bj.out);replace cK:=aa (show Al.heap[w.heap.size+2]?=some (.cells #[.bool oM,.slice oe ow oy] 26 (0,0)) from sB);clear sB;replace cJ:=aa (show Al.heap[w.heap.size+3]?=some (.cells #[.bool oL,.slice oa ou ox] 26 (0,0)) from sA);clear sA;clear gM iY dw lj;replace yw:=af (v:=.bool false) bu.out 0 rfl;replace yu:=af (v:=.slice ao l c) bu.out 1 rfl;replace yt:=af (v:=.bool true) bj.out 0 rfl;replace yq:=af (v:=.slice po pl pc) bj.out 1 rfl;replace q0:=af (v:=.bool oM) cK.out 0 rfl;replace q1:=af (v:=.slice oe ow oy) cK.out 1 rfl
  replace r0:=af (v:=.bool oL) cJ.out 0 rfl;replace r1:=af (v:=.slice oa ou ox) cJ.out 1 rfl;clear gL fA mL mK;go_wp2_with fail
  exact aD (v:=.tuple #[.agg #[.bool oM,.slice oe ow oy],.agg #[.bool oL,.slice oa ou ox],.bool true]) (by simp[results,mG,go_sem,q0,q1,r0,r1]) rfl ⟨_,_,rfl,oK,oJ,dm⟩
 ·obtain rfl:s=true:=hs
  have Ck:(fJ aG (m % n)).length<=0:=by
   rcases h with h | h
   ·cases h
   rw[h,fD];exact ai _
  clear h;have dm:=ax w.heap.size w;go_enter Tryz.func63,Tryz.ntmps63
  go_wp2_with fail
  have dK:aA w.heap.size w ((((w.alloc (.cells #[.bool true,.slice ao l c] 26)).alloc (.cells #[.bool false,.slice po pl pc] 26)).alloc (.cells #[.bool false,.slice none 0 0] 26)).alloc (.cells #[.bool false,.slice none 0 0] 26)):=(((((ax _ _).alloc (by simp) _).alloc (by simp) _).alloc (by simp;omega) _).alloc (by simp;omega) _)
  replace hg:=hg.below dK;replace fK:=fK.below dK;replace dm:=dm.trans (dK.mono dm.size);clear dK;have bu:Hid (((((w.alloc (.cells #[.bool true,.slice ao l c] 26)).alloc (.cells #[.bool false,.slice po pl pc] 26)).alloc (.cells #[.bool false,.slice none 0 0] 26)).alloc (.cells #[.bool false,.slice none 0 0] 26)).heap[w.heap.size]?=some (.cells #[.bool true,.slice ao l c] 26 (0,0))):=aa (bX (bX (bX (dh w (.cells #[.bool true,.slice ao l c] 26) _ (by first | rfl | simp)) _) _) _)
  have bj:Hid (((((w.alloc (.cells #[.bool true,.slice ao l c] 26)).alloc (.cells #[.bool false,.slice po pl pc] 26)).alloc (.cells #[.bool false,.slice none 0 0] 26)).alloc (.cells #[.bool false,.slice none 0 0] 26)).heap[w.heap.size+1]?=some (.cells #[.bool false,.slice po pl pc] 26 (0,0))):=aa (bX (bX (dh (w.alloc (.cells #[.bool true,.slice ao l c] 26)) (.cells #[.bool false,.slice po pl pc] 26) _ (by first | rfl | simp)) _) _)
  have cK:Hid (((((w.alloc (.cells #[.bool true,.slice ao l c] 26)).alloc (.cells #[.bool false,.slice po pl pc] 26)).alloc (.cells #[.bool false,.slice none 0 0] 26)).alloc (.cells #[.bool false,.slice none 0 0] 26)).heap[w.heap.size+2]?=some (.cells #[.bool false,.slice none 0 0] 26 (0,0))):=aa (bX (dh ((w.alloc (.cells #[.bool true,.slice ao l c] 26)).alloc (.cells #[.bool false,.slice po pl pc] 26)) (.cells #[.bool false,.slice none 0 0] 26) _ (by first | rfl | simp)) _)
  have cJ:Hid (((((w.alloc (.cells #[.bool true,.slice ao l c] 26)).alloc (.cells #[.bool false,.slice po pl pc] 26)).alloc (.cells #[.bool false,.slice none 0 0] 26)).alloc (.cells #[.bool false,.slice none 0 0] 26)).heap[w.heap.size+3]?=some (.cells #[.bool false,.slice none 0 0] 26 (0,0))):=aa (dh (((w.alloc (.cells #[.bool true,.slice ao l c] 26)).alloc (.cells #[.bool false,.slice po pl pc] 26)).alloc (.cells #[.bool false,.slice none 0 0] 26)) (.cells #[.bool false,.slice none 0 0] 26) _ (by first | rfl | simp));generalize ((((w.alloc (.cells #[.bool true,.slice ao l c] 26)).alloc (.cells #[.bool false,.slice po pl pc] 26)).alloc (.cells #[.bool false,.slice none 0 0] 26)).alloc (.cells #[.bool false,.slice none 0 0] 26))=wx1 at *;have yw:=af (v:=.bool true) bu.out 0 rfl;have yu:=af (v:=.slice ao l c) bu.out 1 rfl
  have yt:=af (v:=.bool false) bj.out 0 rfl;have yq:=af (v:=.slice po pl pc) bj.out 1 rfl;have q0:=af (v:=.bool false) cK.out 0 rfl;have q1:=af (v:=.slice none 0 0) cK.out 1 rfl;have r0:=af (v:=.bool false) cJ.out 0 rfl;have r1:=af (v:=.slice none 0 0) cJ.out 1 rfl;refine (Bb hg fK h1 h0).mono ?_;rintro e RW ⟨vq,vr,rfl,sq,sr,dK⟩;replace hg:=hg.below dK;replace fK:=fK.below dK;replace dm:=dm.trans (dK.mono dm.size);replace bu:=aa ((dK.block _ (ae bu.out)).trans bu.out);replace bj:=aa ((dK.block _ (ae bj.out)).trans bj.out);replace cK:=aa ((dK.block _ (ae cK.out)).trans cK.out);replace cJ:=aa ((dK.block _ (ae cJ.out)).trans cJ.out);clear dK;replace yw:=af (v:=.bool true) bu.out 0 rfl
  replace yu:=af (v:=.slice ao l c) bu.out 1 rfl;replace yt:=af (v:=.bool false) bj.out 0 rfl;replace yq:=af (v:=.slice po pl pc) bj.out 1 rfl;replace q0:=af (v:=.bool false) cK.out 0 rfl;replace q1:=af (v:=.slice none 0 0) cK.out 1 rfl;replace r0:=af (v:=.bool false) cJ.out 0 rfl;replace r1:=af (v:=.slice none 0 0) cJ.out 1 rfl;obtain⟨qo,qc,rfl⟩:=bZ sq;obtain⟨ro,rc,rfl⟩:=bZ sr;go_wp2_with fail
  have gL:=ae bu.out;have fA:=ae bj.out;have mL:=ae cK.out;have mK:=ae cJ.out;have lj:=dm.size
  refine aQ.region (by kernel_rfl) [[],[0],[],[2],[0,1,2,3],[],[0,1,2,3,4,5],[],[7],[],[0,1,2,3,4,5,6,7,8,9],[0,1,2,3,4,5,6,7,8,9,10],[0,1,2,3,4,5,6,7,8,9,10,11],[0,1,2,3,4,5,6,7,8,9,10,11,12]] [] [(11,1000),(12,1001)] (fun q=>[w.heap.size+2,w.heap.size+3].getD q 0) 2 14 (by kernel_rfl) (by kernel_rfl) (fun q hq=>by match q,hq with | 0,_=>exact mL | 1,_=>exact mK) (fun q r hq hr hne=>by match q,r,hq,hr,hne with | 0,0,_,_,h=>exact absurd rfl h | 0,1,_,_,h=>exact (by show w.heap.size+2≠w.heap.size+3;omega) | 1,0,_,_,h=>exact (by show w.heap.size+3≠w.heap.size+2;omega) | 1,1,_,_,h=>exact absurd rfl h) ?_;refine aQ.aB.da ?_ (by rfl) (fun T xs wr hA=>?_) ?_
  rotate_left 1
  ·have e2:=hA.pre 2 (by kernel_rfl);simp only[g_,iC,iz] at e2;clear hA;refine⟨(by rfl),?_⟩;go_simp<;>(try with_reducible rfl)
  refine aQ.aB.da ?_ (by rfl) (fun T xs wr hA=>?_) ?_
  rotate_left 1
  ·have tL:=hA.tm 0 43 (by rfl) (by rfl);have f43:xs 0=_:=hA.fa 0 (by rfl)
   (try simp (disch:=rfl) only [aQ.an] at f43)
   rw[f43] at tL;clear f43;have bx:wr.heap[w.heap.size]?=_:=(hA.bl _ gL (fun q hq=>by match q,hq with | 0,_=>exact (by show w.heap.size+2≠w.heap.size;omega) | 1,_=>exact (by show w.heap.size+3≠w.heap.size;omega))).trans bu.out;have q0:=af (v:=.bool true) bx 0 rfl;have q1:=af (v:=.slice ao l c) bx 1 rfl;clear bx;clear hA;refine⟨(by rfl),?_⟩;go_simp<;>(try with_reducible rfl)
  refine aQ.aB.da ?_ (by rfl) (fun T xs wr hA=>?_) ?_
  rotate_left 1
  ·have e3:=hA.pre 3 (by kernel_rfl);simp only[g_,iC,iz] at e3;clear hA;refine⟨(by rfl),?_⟩;go_simp<;>(try with_reducible rfl)
  refine aQ.aB.da ?_ (by rfl) (fun T xs wr hA=>?_) ?_
  rotate_left 1
  ·have xA:=hA.tm 2 45 (by rfl) (by rfl);have f45:xs 2=_:=hA.fa 2 (by rfl)
   (try simp (disch:=rfl) only [aQ.an] at f45)
   rw[f45] at xA;clear f45;have bx:wr.heap[w.heap.size+1]?=_:=(hA.bl _ fA (fun q hq=>by match q,hq with | 0,_=>exact (by show w.heap.size+2≠w.heap.size+1;omega) | 1,_=>exact (by show w.heap.size+3≠w.heap.size+1;omega))).trans bj.out;have q0:=af (v:=.bool false) bx 0 rfl;have q1:=af (v:=.slice po pl pc) bx 1 rfl;clear bx;clear hA;refine⟨(by rfl),?_⟩;go_simp<;>(try with_reducible rfl)
  refine aQ.aB.da ?_ (by rfl) (fun T xs wr hA=>?_) ?_
  rotate_left 1
  ·have uw:=hA.tm 1 44 (by rfl) (by rfl);have f44:xs 1=_:=hA.fa 1 (by rfl)
   (try simp (disch:=rfl) only [aQ.an] at f44)
   rw[f44] at uw;clear f44;have wA:=hA.tm 3 46 (by rfl) (by rfl);have f46:xs 3=_:=hA.fa 3 (by rfl)
   (try simp (disch:=rfl) only [aQ.an] at f46)
   rw[f46] at wA;clear f46;clear hA;refine⟨(by rfl),?_⟩;go_simp<;>(try with_reducible rfl)
  refine aQ.aB.da ?_ (by rfl) (fun T xs wr hA=>?_) ?_
  rotate_left 1
  ·have e7:=hA.pre 7 (by kernel_rfl);simp only[g_,iC,iz] at e7;clear hA;refine⟨(by rfl),?_⟩;go_simp<;>(try with_reducible rfl)
  refine aQ.aB.call (fun _ v w=>CI w v (sg true (m / n)) (k1+3)) (fun _ _ _ _ h hb=>h.below hb) (fun _ _ _ _ _ h hp=>h.keeps hp.keeps) (by rfl) (fun T xs wr hA=>?_) ?_
  ·have xz:=hA.tm 4 47 (by rfl) (by rfl);have f47:xs 4=_:=hA.fa 4 (by rfl)
   (try simp (disch:=rfl) only [aQ.an] at f47)
   rw[f47] at xz;clear f47;have Gb:=hA.tm 5 48 (by rfl) (by rfl);have f48:xs 5=_:=hA.fa 5 (by rfl)
   (try simp (disch:=rfl) only [aQ.an] at f48)
   rw[f48] at Gb;clear f48;have hkp:=gN hA.kp;have zu:=dm.trans (cm (hA.be w.heap.size lj (fun q hq=>by match q,hq with | 0,_=>exact (by show w.heap.size<=w.heap.size+2;omega) | 1,_=>exact (by show w.heap.size<=w.heap.size+3;omega))));have sq:=sq.keeps hkp;clear hA;refine⟨(by rfl),fun K hK=>?_⟩;go_simp
   refine (dS true (.slice qo _ qc) (m / n) (k1+3) _ sq xX).mono ?_;rintro e wq ⟨v,rfl,c,hb⟩;exact hK.out _ _ c hb
  refine aQ.aB.da ?_ (by rfl) (fun T xs wr hA=>?_) ?_
  rotate_left 1
  ·have e3:=hA.pre 3 (by kernel_rfl);simp only[g_,iC,iz] at e3;clear hA;refine⟨(by rfl),?_⟩;go_simp<;>(try with_reducible rfl)
  refine aQ.aB.da ?_ (by rfl) (fun T xs wr hA=>?_) ?_
  rotate_left 1
  ·have Ga:=hA.tm 7 50 (by rfl) (by rfl);have f50:xs 7=_:=hA.fa 7 (by rfl)
   (try simp (disch:=rfl) only [aQ.an] at f50)
   rw[f50] at Ga;clear f50;have bx:wr.heap[w.heap.size+1]?=_:=(hA.bl _ fA (fun q hq=>by match q,hq with | 0,_=>exact (by show w.heap.size+2≠w.heap.size+1;omega) | 1,_=>exact (by show w.heap.size+3≠w.heap.size+1;omega))).trans bj.out;have q0:=af (v:=.bool false) bx 0 rfl;have q1:=af (v:=.slice po pl pc) bx 1 rfl;clear bx;clear hA;refine⟨(by rfl),?_⟩;go_simp<;>(try with_reducible rfl)
  refine aQ.aB.da ?_ (by rfl) (fun T xs wr hA=>?_) ?_
  rotate_left 1
  ·have e8:=hA.pre 8 (by kernel_rfl);simp only[g_,iC,iz] at e8;clear hA;refine⟨(by rfl),?_⟩;go_simp<;>(try with_reducible rfl)
  refine aQ.aB.call (fun _ v w=>CI w v (sg false (m % n)) k2) (fun _ _ _ _ h hb=>h.below hb) (fun _ _ _ _ _ h hp=>h.keeps hp.keeps) (by rfl) (fun T xs wr hA=>?_) ?_
  ·have F_:=hA.tm 8 51 (by rfl) (by rfl);have f51:xs 8=_:=hA.fa 8 (by rfl)
   (try simp (disch:=rfl) only [aQ.an] at f51)
   rw[f51] at F_;clear f51;have F7:=hA.tm 9 52 (by rfl) (by rfl);have f52:xs 9=_:=hA.fa 9 (by rfl)
   (try simp (disch:=rfl) only [aQ.an] at f52)
   rw[f52] at F7;clear f52;have hkp:=gN hA.kp;have zu:=dm.trans (cm (hA.be w.heap.size lj (fun q hq=>by match q,hq with | 0,_=>exact (by show w.heap.size<=w.heap.size+2;omega) | 1,_=>exact (by show w.heap.size<=w.heap.size+3;omega))));have sr:=sr.keeps hkp;clear hA;refine⟨(by rfl),fun K hK=>?_⟩;go_simp
   refine (dS false (.slice ro _ rc) (m % n) k2 _ sr LS).mono ?_;rintro e wq ⟨v,rfl,c,hb⟩;exact hK.out _ _ c hb
  refine aQ.aB.iP 0 6 26 (by rfl) (by rfl) (by decide) (aQ.jF (by rfl)) (fun T xs wr hA sC=>?_) ?_
  ·have e4:=hA.pre 4 (by kernel_rfl);simp only[g_,iC,iz] at e4;have hB:wr.heap[w.heap.size+2]?=_:=sC.trans cK.out;clear sC;have De:=hA.tm 6 49 (by rfl) (by rfl);have hc:CI wr (xs 6) (sg true (m / n)) (k1+3):=hA.fa 6 (by rfl);obtain⟨Lt,JS,Kh,Km,hv⟩:=hc.shape;clear hc;rw[hv] at De;have z0:=af hB 0 rfl;have z1:=af hB 1 rfl;have sF:=aP hB 0;have sE:=aP hB 1;clear hA;refine⟨(by rfl),fun K hK=>?_⟩;go_simp
   exact hK.out _ _ hv (ri hB _ _) (q_ hB (by rfl) (by rfl))
  refine aQ.aB.iP 1 10 26 (by rfl) (by rfl) (by decide) (aQ.jF (by rfl)) (fun T xs wr hA sC=>?_) ?_
  ·have e5:=hA.pre 5 (by kernel_rfl);simp only[g_,iC,iz] at e5;have hB:wr.heap[w.heap.size+3]?=_:=sC.trans cJ.out;clear sC;have Is:=hA.tm 10 53 (by rfl) (by rfl);have hc:CI wr (xs 10) (sg false (m % n)) k2:=hA.fa 10 (by rfl);obtain⟨Lt,JS,Kh,Km,hv⟩:=hc.shape;clear hc;rw[hv] at Is;have z0:=af hB 0 rfl;have z1:=af hB 1 rfl;have sF:=aP hB 0;have sE:=aP hB 1;clear hA;refine⟨(by rfl),fun K hK=>?_⟩;go_simp
   exact hK.out _ _ hv (ri hB _ _) (q_ hB (by rfl) (by rfl))
  refine aQ.aB.da ?_ (by rfl) (fun T xs wr hA=>?_) ?_
  rotate_left 1
  ·clear hA;refine⟨(by rfl),?_⟩;go_simp<;>(try with_reducible rfl)
  refine aQ.aB.done (fun xs Al hL=>?_);obtain⟨⟨iY,dw,gM⟩,hf,hp,hn⟩:=hL;have f0:xs 0=_:=hf 0 (by decide)
  (try simp (disch:=rfl) only [aQ.an] at f0)
  have f1:xs 1=_:=hf 1 (by decide)
  (try simp (disch:=rfl) only [aQ.an] at f1)
  have f2:xs 2=_:=hf 2 (by decide)
  (try simp (disch:=rfl) only [aQ.an] at f2)
  have f3:xs 3=_:=hf 3 (by decide)
  (try simp (disch:=rfl) only [aQ.an] at f3)
  have f4:xs 4=_:=hf 4 (by decide)
  (try simp (disch:=rfl) only [aQ.an] at f4)
  have f5:xs 5=_:=hf 5 (by decide)
  (try simp (disch:=rfl) only [aQ.an] at f5)
  have oK:CI Al (xs 6) (sg true (m / n)) (k1+3):=hf 6 (by decide);have f7:xs 7=_:=hf 7 (by decide)
  (try simp (disch:=rfl) only [aQ.an] at f7)
  have f8:xs 8=_:=hf 8 (by decide)
  (try simp (disch:=rfl) only [aQ.an] at f8)
  have f9:xs 9=_:=hf 9 (by decide)
  (try simp (disch:=rfl) only [aQ.an] at f9)
  have oJ:CI Al (xs 10) (sg false (m % n)) k2:=hf 10 (by decide);obtain⟨cc,hv,sB⟩:=hf 11 (by decide);change xs 6=_ at hv;obtain⟨oM,oe,ow,oy,ie⟩:=oK.shape;rw[ie] at hv;injection hv with hv;subst hv;obtain⟨cc,hv,sA⟩:=hf 12 (by decide);change xs 10=_ at hv;obtain⟨oL,oa,ou,ox,h_⟩:=oJ.shape;rw[h_] at hv;injection hv with hv;subst hv;have f13:xs 13=_:=hf 13 (by decide)
  (try simp (disch:=rfl) only [aQ.an] at f13)
  clear hf hp hn;refine aQ.jE ?_;rw[ie] at oK;rw[h_] at oJ;simp only[aQ.fill,aY,bS,bD,f0,f1,f2,f3,f4,f5,f7,f8,f9,f13,ie,h_];clear f0 f1 f2 f3 f4 f5 f7 f8 f9 f13 ie h_;clear xs;replace gM:=gN gM;replace hg:=hg.keeps gM;replace fK:=fK.keeps gM;replace sq:=sq.keeps gM;replace sr:=sr.keeps gM;replace dm:=dm.trans (cm (iY w.heap.size lj (fun q hq=>by match q,hq with | 0,_=>exact (by show w.heap.size<=w.heap.size+2;omega) | 1,_=>exact (by show w.heap.size<=w.heap.size+3;omega))));replace bu:=aa ((dw _ gL (fun q hq=>by match q,hq with | 0,_=>exact (by show w.heap.size+2≠w.heap.size;omega) | 1,_=>exact (by show w.heap.size+3≠w.heap.size;omega))).trans bu.out)
  replace bj:=aa ((dw _ fA (fun q hq=>by match q,hq with | 0,_=>exact (by show w.heap.size+2≠w.heap.size+1;omega) | 1,_=>exact (by show w.heap.size+3≠w.heap.size+1;omega))).trans bj.out);replace cK:=aa (show Al.heap[w.heap.size+2]?=some (.cells #[.bool oM,.slice oe ow oy] 26 (0,0)) from sB);clear sB;replace cJ:=aa (show Al.heap[w.heap.size+3]?=some (.cells #[.bool oL,.slice oa ou ox] 26 (0,0)) from sA);clear sA;clear gM iY dw lj;replace yw:=af (v:=.bool true) bu.out 0 rfl;replace yu:=af (v:=.slice ao l c) bu.out 1 rfl;replace yt:=af (v:=.bool false) bj.out 0 rfl;replace yq:=af (v:=.slice po pl pc) bj.out 1 rfl;replace q0:=af (v:=.bool oM) cK.out 0 rfl;replace q1:=af (v:=.slice oe ow oy) cK.out 1 rfl
  replace r0:=af (v:=.bool oL) cJ.out 0 rfl;replace r1:=af (v:=.slice oa ou ox) cJ.out 1 rfl;clear gL fA mL mK;go_wp2_with fail
  exact aD (v:=.tuple #[.agg #[.bool oM,.slice oe ow oy],.agg #[.bool oL,.slice oa ou ox],.bool true]) (by simp[results,mG,go_sem,q0,q1,r0,r1]) rfl ⟨_,_,rfl,oK,oJ,dm⟩
 obtain rfl:s=false:=hs;clear h;have dm:=ax w.heap.size w;go_enter Tryz.func63,Tryz.ntmps63
 go_wp2_with fail
 have dK:aA w.heap.size w ((((w.alloc (.cells #[.bool true,.slice ao l c] 26)).alloc (.cells #[.bool true,.slice po pl pc] 26)).alloc (.cells #[.bool false,.slice none 0 0] 26)).alloc (.cells #[.bool false,.slice none 0 0] 26)):=(((((ax _ _).alloc (by simp) _).alloc (by simp) _).alloc (by simp;omega) _).alloc (by simp;omega) _)
 replace hg:=hg.below dK;replace fK:=fK.below dK;replace dm:=dm.trans (dK.mono dm.size);clear dK;have bu:Hid (((((w.alloc (.cells #[.bool true,.slice ao l c] 26)).alloc (.cells #[.bool true,.slice po pl pc] 26)).alloc (.cells #[.bool false,.slice none 0 0] 26)).alloc (.cells #[.bool false,.slice none 0 0] 26)).heap[w.heap.size]?=some (.cells #[.bool true,.slice ao l c] 26 (0,0))):=aa (bX (bX (bX (dh w (.cells #[.bool true,.slice ao l c] 26) _ (by first | rfl | simp)) _) _) _)
 have bj:Hid (((((w.alloc (.cells #[.bool true,.slice ao l c] 26)).alloc (.cells #[.bool true,.slice po pl pc] 26)).alloc (.cells #[.bool false,.slice none 0 0] 26)).alloc (.cells #[.bool false,.slice none 0 0] 26)).heap[w.heap.size+1]?=some (.cells #[.bool true,.slice po pl pc] 26 (0,0))):=aa (bX (bX (dh (w.alloc (.cells #[.bool true,.slice ao l c] 26)) (.cells #[.bool true,.slice po pl pc] 26) _ (by first | rfl | simp)) _) _)
 have cK:Hid (((((w.alloc (.cells #[.bool true,.slice ao l c] 26)).alloc (.cells #[.bool true,.slice po pl pc] 26)).alloc (.cells #[.bool false,.slice none 0 0] 26)).alloc (.cells #[.bool false,.slice none 0 0] 26)).heap[w.heap.size+2]?=some (.cells #[.bool false,.slice none 0 0] 26 (0,0))):=aa (bX (dh ((w.alloc (.cells #[.bool true,.slice ao l c] 26)).alloc (.cells #[.bool true,.slice po pl pc] 26)) (.cells #[.bool false,.slice none 0 0] 26) _ (by first | rfl | simp)) _)
 have cJ:Hid (((((w.alloc (.cells #[.bool true,.slice ao l c] 26)).alloc (.cells #[.bool true,.slice po pl pc] 26)).alloc (.cells #[.bool false,.slice none 0 0] 26)).alloc (.cells #[.bool false,.slice none 0 0] 26)).heap[w.heap.size+3]?=some (.cells #[.bool false,.slice none 0 0] 26 (0,0))):=aa (dh (((w.alloc (.cells #[.bool true,.slice ao l c] 26)).alloc (.cells #[.bool true,.slice po pl pc] 26)).alloc (.cells #[.bool false,.slice none 0 0] 26)) (.cells #[.bool false,.slice none 0 0] 26) _ (by first | rfl | simp));generalize ((((w.alloc (.cells #[.bool true,.slice ao l c] 26)).alloc (.cells #[.bool true,.slice po pl pc] 26)).alloc (.cells #[.bool false,.slice none 0 0] 26)).alloc (.cells #[.bool false,.slice none 0 0] 26))=wx1 at *;have yw:=af (v:=.bool true) bu.out 0 rfl;have yu:=af (v:=.slice ao l c) bu.out 1 rfl
 have yt:=af (v:=.bool true) bj.out 0 rfl;have yq:=af (v:=.slice po pl pc) bj.out 1 rfl;have q0:=af (v:=.bool false) cK.out 0 rfl;have q1:=af (v:=.slice none 0 0) cK.out 1 rfl;have r0:=af (v:=.bool false) cJ.out 0 rfl;have r1:=af (v:=.slice none 0 0) cJ.out 1 rfl;refine (Bb hg fK h1 h0).mono ?_;rintro e RW ⟨vq,vr,rfl,sq,sr,dK⟩;replace hg:=hg.below dK;replace fK:=fK.below dK;replace dm:=dm.trans (dK.mono dm.size);replace bu:=aa ((dK.block _ (ae bu.out)).trans bu.out);replace bj:=aa ((dK.block _ (ae bj.out)).trans bj.out);replace cK:=aa ((dK.block _ (ae cK.out)).trans cK.out);replace cJ:=aa ((dK.block _ (ae cJ.out)).trans cJ.out);clear dK;replace yw:=af (v:=.bool true) bu.out 0 rfl
 replace yu:=af (v:=.slice ao l c) bu.out 1 rfl;replace yt:=af (v:=.bool true) bj.out 0 rfl;replace yq:=af (v:=.slice po pl pc) bj.out 1 rfl;replace q0:=af (v:=.bool false) cK.out 0 rfl;replace q1:=af (v:=.slice none 0 0) cK.out 1 rfl;replace r0:=af (v:=.bool false) cJ.out 0 rfl;replace r1:=af (v:=.slice none 0 0) cJ.out 1 rfl;obtain⟨qo,qc,rfl⟩:=bZ sq;obtain⟨ro,rc,rfl⟩:=bZ sr;go_wp2_with fail
 have gL:=ae bu.out;have fA:=ae bj.out;have mL:=ae cK.out;have mK:=ae cJ.out;have lj:=dm.size
 refine aQ.region (by kernel_rfl) [[],[0],[],[2],[0,1,2,3],[],[0,1,2,3,4,5],[],[7],[],[0,1,2,3,4,5,6,7,8,9],[0,1,2,3,4,5,6,7,8,9,10],[0,1,2,3,4,5,6,7,8,9,10,11],[0,1,2,3,4,5,6,7,8,9,10,11,12]] [] [(11,1000),(12,1001)] (fun q=>[w.heap.size+2,w.heap.size+3].getD q 0) 2 14 (by kernel_rfl) (by kernel_rfl) (fun q hq=>by match q,hq with | 0,_=>exact mL | 1,_=>exact mK) (fun q r hq hr hne=>by match q,r,hq,hr,hne with | 0,0,_,_,h=>exact absurd rfl h | 0,1,_,_,h=>exact (by show w.heap.size+2≠w.heap.size+3;omega) | 1,0,_,_,h=>exact (by show w.heap.size+3≠w.heap.size+2;omega) | 1,1,_,_,h=>exact absurd rfl h) ?_;refine aQ.aB.da ?_ (by rfl) (fun T xs wr hA=>?_) ?_
 rotate_left 1
 ·have e2:=hA.pre 2 (by kernel_rfl);simp only[g_,iC,iz] at e2;clear hA;refine⟨(by rfl),?_⟩;go_simp<;>(try with_reducible rfl)
 refine aQ.aB.da ?_ (by rfl) (fun T xs wr hA=>?_) ?_
 rotate_left 1
 ·have tL:=hA.tm 0 43 (by rfl) (by rfl);have f43:xs 0=_:=hA.fa 0 (by rfl)
  (try simp (disch:=rfl) only [aQ.an] at f43)
  rw[f43] at tL;clear f43;have bx:wr.heap[w.heap.size]?=_:=(hA.bl _ gL (fun q hq=>by match q,hq with | 0,_=>exact (by show w.heap.size+2≠w.heap.size;omega) | 1,_=>exact (by show w.heap.size+3≠w.heap.size;omega))).trans bu.out;have q0:=af (v:=.bool true) bx 0 rfl;have q1:=af (v:=.slice ao l c) bx 1 rfl;clear bx;clear hA;refine⟨(by rfl),?_⟩;go_simp<;>(try with_reducible rfl)
 refine aQ.aB.da ?_ (by rfl) (fun T xs wr hA=>?_) ?_
 rotate_left 1
 ·have e3:=hA.pre 3 (by kernel_rfl);simp only[g_,iC,iz] at e3;clear hA;refine⟨(by rfl),?_⟩;go_simp<;>(try with_reducible rfl)
 refine aQ.aB.da ?_ (by rfl) (fun T xs wr hA=>?_) ?_
 rotate_left 1
 ·have xA:=hA.tm 2 45 (by rfl) (by rfl);have f45:xs 2=_:=hA.fa 2 (by rfl)
  (try simp (disch:=rfl) only [aQ.an] at f45)
  rw[f45] at xA;clear f45;have bx:wr.heap[w.heap.size+1]?=_:=(hA.bl _ fA (fun q hq=>by match q,hq with | 0,_=>exact (by show w.heap.size+2≠w.heap.size+1;omega) | 1,_=>exact (by show w.heap.size+3≠w.heap.size+1;omega))).trans bj.out;have q0:=af (v:=.bool true) bx 0 rfl;have q1:=af (v:=.slice po pl pc) bx 1 rfl;clear bx;clear hA;refine⟨(by rfl),?_⟩;go_simp<;>(try with_reducible rfl)
 refine aQ.aB.da ?_ (by rfl) (fun T xs wr hA=>?_) ?_
 rotate_left 1
 ·have uw:=hA.tm 1 44 (by rfl) (by rfl);have f44:xs 1=_:=hA.fa 1 (by rfl)
  (try simp (disch:=rfl) only [aQ.an] at f44)
  rw[f44] at uw;clear f44;have wA:=hA.tm 3 46 (by rfl) (by rfl);have f46:xs 3=_:=hA.fa 3 (by rfl)
  (try simp (disch:=rfl) only [aQ.an] at f46)
  rw[f46] at wA;clear f46;clear hA;refine⟨(by rfl),?_⟩;go_simp<;>(try with_reducible rfl)
 refine aQ.aB.da ?_ (by rfl) (fun T xs wr hA=>?_) ?_
 rotate_left 1
 ·have e7:=hA.pre 7 (by kernel_rfl);simp only[g_,iC,iz] at e7;clear hA;refine⟨(by rfl),?_⟩;go_simp<;>(try with_reducible rfl)
 refine aQ.aB.call (fun _ v w=>CI w v (sg false (m / n)) (k1+3)) (fun _ _ _ _ h hb=>h.below hb) (fun _ _ _ _ _ h hp=>h.keeps hp.keeps) (by rfl) (fun T xs wr hA=>?_) ?_
 ·have xz:=hA.tm 4 47 (by rfl) (by rfl);have f47:xs 4=_:=hA.fa 4 (by rfl)
  (try simp (disch:=rfl) only [aQ.an] at f47)
  rw[f47] at xz;clear f47;have Gb:=hA.tm 5 48 (by rfl) (by rfl);have f48:xs 5=_:=hA.fa 5 (by rfl)
  (try simp (disch:=rfl) only [aQ.an] at f48)
  rw[f48] at Gb;clear f48;have hkp:=gN hA.kp;have zu:=dm.trans (cm (hA.be w.heap.size lj (fun q hq=>by match q,hq with | 0,_=>exact (by show w.heap.size<=w.heap.size+2;omega) | 1,_=>exact (by show w.heap.size<=w.heap.size+3;omega))));have sq:=sq.keeps hkp;clear hA;refine⟨(by rfl),fun K hK=>?_⟩;go_simp
  refine (dS false (.slice qo _ qc) (m / n) (k1+3) _ sq xX).mono ?_;rintro e wq ⟨v,rfl,c,hb⟩;exact hK.out _ _ c hb
 refine aQ.aB.da ?_ (by rfl) (fun T xs wr hA=>?_) ?_
 rotate_left 1
 ·have e3:=hA.pre 3 (by kernel_rfl);simp only[g_,iC,iz] at e3;clear hA;refine⟨(by rfl),?_⟩;go_simp<;>(try with_reducible rfl)
 refine aQ.aB.da ?_ (by rfl) (fun T xs wr hA=>?_) ?_
 rotate_left 1
 ·have Ga:=hA.tm 7 50 (by rfl) (by rfl);have f50:xs 7=_:=hA.fa 7 (by rfl)
  (try simp (disch:=rfl) only [aQ.an] at f50)
  rw[f50] at Ga;clear f50;have bx:wr.heap[w.heap.size+1]?=_:=(hA.bl _ fA (fun q hq=>by match q,hq with | 0,_=>exact (by show w.heap.size+2≠w.heap.size+1;omega) | 1,_=>exact (by show w.heap.size+3≠w.heap.size+1;omega))).trans bj.out;have q0:=af (v:=.bool true) bx 0 rfl;have q1:=af (v:=.slice po pl pc) bx 1 rfl;clear bx;clear hA;refine⟨(by rfl),?_⟩;go_simp<;>(try with_reducible rfl)
 refine aQ.aB.da ?_ (by rfl) (fun T xs wr hA=>?_) ?_
 rotate_left 1
 ·have e8:=hA.pre 8 (by kernel_rfl);simp only[g_,iC,iz] at e8;clear hA;refine⟨(by rfl),?_⟩;go_simp<;>(try with_reducible rfl)
 refine aQ.aB.call (fun _ v w=>CI w v (sg true (m % n)) k2) (fun _ _ _ _ h hb=>h.below hb) (fun _ _ _ _ _ h hp=>h.keeps hp.keeps) (by rfl) (fun T xs wr hA=>?_) ?_
 ·have F_:=hA.tm 8 51 (by rfl) (by rfl);have f51:xs 8=_:=hA.fa 8 (by rfl)
  (try simp (disch:=rfl) only [aQ.an] at f51)
  rw[f51] at F_;clear f51;have F7:=hA.tm 9 52 (by rfl) (by rfl);have f52:xs 9=_:=hA.fa 9 (by rfl)
  (try simp (disch:=rfl) only [aQ.an] at f52)
  rw[f52] at F7;clear f52;have hkp:=gN hA.kp;have zu:=dm.trans (cm (hA.be w.heap.size lj (fun q hq=>by match q,hq with | 0,_=>exact (by show w.heap.size<=w.heap.size+2;omega) | 1,_=>exact (by show w.heap.size<=w.heap.size+3;omega))));have sr:=sr.keeps hkp;clear hA;refine⟨(by rfl),fun K hK=>?_⟩;go_simp
  refine (dS true (.slice ro _ rc) (m % n) k2 _ sr LS).mono ?_;rintro e wq ⟨v,rfl,c,hb⟩;exact hK.out _ _ c hb
 refine aQ.aB.iP 0 6 26 (by rfl) (by rfl) (by decide) (aQ.jF (by rfl)) (fun T xs wr hA sC=>?_) ?_
 ·have e4:=hA.pre 4 (by kernel_rfl);simp only[g_,iC,iz] at e4;have hB:wr.heap[w.heap.size+2]?=_:=sC.trans cK.out;clear sC;have De:=hA.tm 6 49 (by rfl) (by rfl);have hc:CI wr (xs 6) (sg false (m / n)) (k1+3):=hA.fa 6 (by rfl);obtain⟨Lt,JS,Kh,Km,hv⟩:=hc.shape;clear hc;rw[hv] at De;have z0:=af hB 0 rfl;have z1:=af hB 1 rfl;have sF:=aP hB 0;have sE:=aP hB 1;clear hA;refine⟨(by rfl),fun K hK=>?_⟩;go_simp
  exact hK.out _ _ hv (ri hB _ _) (q_ hB (by rfl) (by rfl))
 refine aQ.aB.iP 1 10 26 (by rfl) (by rfl) (by decide) (aQ.jF (by rfl)) (fun T xs wr hA sC=>?_) ?_
 ·have e5:=hA.pre 5 (by kernel_rfl);simp only[g_,iC,iz] at e5;have hB:wr.heap[w.heap.size+3]?=_:=sC.trans cJ.out;clear sC;have Is:=hA.tm 10 53 (by rfl) (by rfl);have hc:CI wr (xs 10) (sg true (m % n)) k2:=hA.fa 10 (by rfl);obtain⟨Lt,JS,Kh,Km,hv⟩:=hc.shape;clear hc;rw[hv] at Is;have z0:=af hB 0 rfl;have z1:=af hB 1 rfl;have sF:=aP hB 0;have sE:=aP hB 1;clear hA;refine⟨(by rfl),fun K hK=>?_⟩;go_simp
  exact hK.out _ _ hv (ri hB _ _) (q_ hB (by rfl) (by rfl))
 refine aQ.aB.da ?_ (by rfl) (fun T xs wr hA=>?_) ?_
 rotate_left 1
 ·clear hA;refine⟨(by rfl),?_⟩;go_simp<;>(try with_reducible rfl)
 refine aQ.aB.done (fun xs Al hL=>?_);obtain⟨⟨iY,dw,gM⟩,hf,hp,hn⟩:=hL;have f0:xs 0=_:=hf 0 (by decide)
 (try simp (disch:=rfl) only [aQ.an] at f0)
 have f1:xs 1=_:=hf 1 (by decide)
 (try simp (disch:=rfl) only [aQ.an] at f1)
 have f2:xs 2=_:=hf 2 (by decide)
 (try simp (disch:=rfl) only [aQ.an] at f2)
 have f3:xs 3=_:=hf 3 (by decide)
 (try simp (disch:=rfl) only [aQ.an] at f3)
 have f4:xs 4=_:=hf 4 (by decide)
 (try simp (disch:=rfl) only [aQ.an] at f4)
 have f5:xs 5=_:=hf 5 (by decide)
 (try simp (disch:=rfl) only [aQ.an] at f5)
 have oK:CI Al (xs 6) (sg false (m / n)) (k1+3):=hf 6 (by decide);have f7:xs 7=_:=hf 7 (by decide)
 (try simp (disch:=rfl) only [aQ.an] at f7)
 have f8:xs 8=_:=hf 8 (by decide)
 (try simp (disch:=rfl) only [aQ.an] at f8)
 have f9:xs 9=_:=hf 9 (by decide)
 (try simp (disch:=rfl) only [aQ.an] at f9)
 have oJ:CI Al (xs 10) (sg true (m % n)) k2:=hf 10 (by decide);obtain⟨cc,hv,sB⟩:=hf 11 (by decide);change xs 6=_ at hv;obtain⟨oM,oe,ow,oy,ie⟩:=oK.shape;rw[ie] at hv;injection hv with hv;subst hv;obtain⟨cc,hv,sA⟩:=hf 12 (by decide);change xs 10=_ at hv;obtain⟨oL,oa,ou,ox,h_⟩:=oJ.shape;rw[h_] at hv;injection hv with hv;subst hv;have f13:xs 13=_:=hf 13 (by decide)
 (try simp (disch:=rfl) only [aQ.an] at f13)
 clear hf hp hn;refine aQ.jE ?_;rw[ie] at oK;rw[h_] at oJ;simp only[aQ.fill,aY,bS,bD,f0,f1,f2,f3,f4,f5,f7,f8,f9,f13,ie,h_];clear f0 f1 f2 f3 f4 f5 f7 f8 f9 f13 ie h_;clear xs;replace gM:=gN gM;replace hg:=hg.keeps gM;replace fK:=fK.keeps gM;replace sq:=sq.keeps gM;replace sr:=sr.keeps gM;replace dm:=dm.trans (cm (iY w.heap.size lj (fun q hq=>by match q,hq with | 0,_=>exact (by show w.heap.size<=w.heap.size+2;omega) | 1,_=>exact (by show w.heap.size<=w.heap.size+3;omega))));replace bu:=aa ((dw _ gL (fun q hq=>by match q,hq with | 0,_=>exact (by show w.heap.size+2≠w.heap.size;omega) | 1,_=>exact (by show w.heap.size+3≠w.heap.size;omega))).trans bu.out)
 replace bj:=aa ((dw _ fA (fun q hq=>by match q,hq with | 0,_=>exact (by show w.heap.size+2≠w.heap.size+1;omega) | 1,_=>exact (by show w.heap.size+3≠w.heap.size+1;omega))).trans bj.out);replace cK:=aa (show Al.heap[w.heap.size+2]?=some (.cells #[.bool oM,.slice oe ow oy] 26 (0,0)) from sB);clear sB;replace cJ:=aa (show Al.heap[w.heap.size+3]?=some (.cells #[.bool oL,.slice oa ou ox] 26 (0,0)) from sA);clear sA;clear gM iY dw lj;replace yw:=af (v:=.bool true) bu.out 0 rfl;replace yu:=af (v:=.slice ao l c) bu.out 1 rfl;replace yt:=af (v:=.bool true) bj.out 0 rfl;replace yq:=af (v:=.slice po pl pc) bj.out 1 rfl;replace q0:=af (v:=.bool oM) cK.out 0 rfl;replace q1:=af (v:=.slice oe ow oy) cK.out 1 rfl
 replace r0:=af (v:=.bool oL) cJ.out 0 rfl;replace r1:=af (v:=.slice oa ou ox) cJ.out 1 rfl;clear gL fA mL mK;go_wp2_with fail
 exact aD (v:=.tuple #[.agg #[.bool oM,.slice oe ow oy],.agg #[.bool oL,.slice oa ou ox],.bool true]) (by simp[results,mG,go_sem,q0,q1,r0,r1]) rfl ⟨_,_,rfl,oK,oJ,dm⟩
theorem Jc (b d:Bool) (ao po:Option Addr) (l c pl pc m n k1 k2:Nat) (w:ag) (hg:GN w (.slice ao l c) m k1) (fK:GN w (.slice po pl pc) n k2) (h1:k1<=900000) (h2:k2<=900000) (h0:0<n) (h:b≠d) (hr:0<m % n) :
  aW aj 63 #[.agg #[.bool b,.slice ao l c],.agg #[.bool d,.slice po pl pc]] w fun e w'=>∃ q r,e=.returned (.tuple #[q,r,.bool true])/\CI w' q (sg true (m / n+1)) (k1+3)/\CI w' r (sg d (n - m % n)) k2/\aA w.heap.size w w':=by
 have P_:m / n<aG ^ k1:=qz (Nat.div_le_self _ _) hg.lt
 have xX:m / n+1<aG ^ (k1+3):=by
  have h3:1<aG ^ 2:=by decide
  have:=yS P_ h3;exact eT this (by omega)
 have SP:m % n<aG ^ k2:=wJ (dZ _ h0) fK.lt;have hle:m % n<=n:=wK (dZ _ h0);have LS:n - m % n<aG ^ k2:=qz (Nat.sub_le _ _) fK.lt;have IX:=sI hr;have OW:k2<=1000000:=by omega
 cases b<;>cases d
 ·exact absurd rfl h
 rotate_left 2
 ·exact absurd rfl h
 all_goals clear h
 ·have dm:=ax w.heap.size w;go_enter Tryz.func63,Tryz.ntmps63
  go_wp2_with fail
  have dK:aA w.heap.size w ((((w.alloc (.cells #[.bool false,.slice ao l c] 26)).alloc (.cells #[.bool true,.slice po pl pc] 26)).alloc (.cells #[.bool false,.slice none 0 0] 26)).alloc (.cells #[.bool false,.slice none 0 0] 26)):=(((((ax _ _).alloc (by simp) _).alloc (by simp) _).alloc (by simp;omega) _).alloc (by simp;omega) _)
  replace hg:=hg.below dK;replace fK:=fK.below dK;replace dm:=dm.trans (dK.mono dm.size);clear dK;have bu:Hid (((((w.alloc (.cells #[.bool false,.slice ao l c] 26)).alloc (.cells #[.bool true,.slice po pl pc] 26)).alloc (.cells #[.bool false,.slice none 0 0] 26)).alloc (.cells #[.bool false,.slice none 0 0] 26)).heap[w.heap.size]?=some (.cells #[.bool false,.slice ao l c] 26 (0,0))):=aa (bX (bX (bX (dh w (.cells #[.bool false,.slice ao l c] 26) _ (by first | rfl | simp)) _) _) _)
  have bj:Hid (((((w.alloc (.cells #[.bool false,.slice ao l c] 26)).alloc (.cells #[.bool true,.slice po pl pc] 26)).alloc (.cells #[.bool false,.slice none 0 0] 26)).alloc (.cells #[.bool false,.slice none 0 0] 26)).heap[w.heap.size+1]?=some (.cells #[.bool true,.slice po pl pc] 26 (0,0))):=aa (bX (bX (dh (w.alloc (.cells #[.bool false,.slice ao l c] 26)) (.cells #[.bool true,.slice po pl pc] 26) _ (by first | rfl | simp)) _) _)
  have cK:Hid (((((w.alloc (.cells #[.bool false,.slice ao l c] 26)).alloc (.cells #[.bool true,.slice po pl pc] 26)).alloc (.cells #[.bool false,.slice none 0 0] 26)).alloc (.cells #[.bool false,.slice none 0 0] 26)).heap[w.heap.size+2]?=some (.cells #[.bool false,.slice none 0 0] 26 (0,0))):=aa (bX (dh ((w.alloc (.cells #[.bool false,.slice ao l c] 26)).alloc (.cells #[.bool true,.slice po pl pc] 26)) (.cells #[.bool false,.slice none 0 0] 26) _ (by first | rfl | simp)) _)
  have cJ:Hid (((((w.alloc (.cells #[.bool false,.slice ao l c] 26)).alloc (.cells #[.bool true,.slice po pl pc] 26)).alloc (.cells #[.bool false,.slice none 0 0] 26)).alloc (.cells #[.bool false,.slice none 0 0] 26)).heap[w.heap.size+3]?=some (.cells #[.bool false,.slice none 0 0] 26 (0,0))):=aa (dh (((w.alloc (.cells #[.bool false,.slice ao l c] 26)).alloc (.cells #[.bool true,.slice po pl pc] 26)).alloc (.cells #[.bool false,.slice none 0 0] 26)) (.cells #[.bool false,.slice none 0 0] 26) _ (by first | rfl | simp));generalize ((((w.alloc (.cells #[.bool false,.slice ao l c] 26)).alloc (.cells #[.bool true,.slice po pl pc] 26)).alloc (.cells #[.bool false,.slice none 0 0] 26)).alloc (.cells #[.bool false,.slice none 0 0] 26))=wx1 at *;have yw:=af (v:=.bool false) bu.out 0 rfl;have yu:=af (v:=.slice ao l c) bu.out 1 rfl
  have yt:=af (v:=.bool true) bj.out 0 rfl;have yq:=af (v:=.slice po pl pc) bj.out 1 rfl;have q0:=af (v:=.bool false) cK.out 0 rfl;have q1:=af (v:=.slice none 0 0) cK.out 1 rfl;have r0:=af (v:=.bool false) cJ.out 0 rfl;have r1:=af (v:=.slice none 0 0) cJ.out 1 rfl;refine (Bb hg fK h1 h0).mono ?_;rintro e RW ⟨vq,vr,rfl,sq,sr,dK⟩;replace hg:=hg.below dK;replace fK:=fK.below dK;replace dm:=dm.trans (dK.mono dm.size);replace bu:=aa ((dK.block _ (ae bu.out)).trans bu.out);replace bj:=aa ((dK.block _ (ae bj.out)).trans bj.out);replace cK:=aa ((dK.block _ (ae cK.out)).trans cK.out);replace cJ:=aa ((dK.block _ (ae cJ.out)).trans cJ.out);clear dK;replace yw:=af (v:=.bool false) bu.out 0 rfl
  replace yu:=af (v:=.slice ao l c) bu.out 1 rfl;replace yt:=af (v:=.bool true) bj.out 0 rfl;replace yq:=af (v:=.slice po pl pc) bj.out 1 rfl;replace q0:=af (v:=.bool false) cK.out 0 rfl;replace q1:=af (v:=.slice none 0 0) cK.out 1 rfl;replace r0:=af (v:=.bool false) cJ.out 0 rfl;replace r1:=af (v:=.slice none 0 0) cJ.out 1 rfl;obtain⟨qo0,qc0,rfl⟩:=bZ sq;obtain⟨ro0,rc0,rfl⟩:=bZ sr;have gq:=wg sq P_;have gr:=wg sr SP;clear sq sr;go_wp2_with fail
  refine (Sj 1 _ _ rfl (by decide)).mono ?_;rintro e Al ⟨v7,rfl,g7,dK⟩;replace hg:=hg.below dK;replace fK:=fK.below dK;replace gq:=gq.below dK;replace gr:=gr.below dK;replace dm:=dm.trans (dK.mono dm.size);replace bu:=aa ((dK.block _ (ae bu.out)).trans bu.out);replace bj:=aa ((dK.block _ (ae bj.out)).trans bj.out);replace cK:=aa ((dK.block _ (ae cK.out)).trans cK.out);replace cJ:=aa ((dK.block _ (ae cJ.out)).trans cJ.out);clear dK;replace yw:=af (v:=.bool false) bu.out 0 rfl;replace yu:=af (v:=.slice ao l c) bu.out 1 rfl;replace yt:=af (v:=.bool true) bj.out 0 rfl;replace yq:=af (v:=.slice po pl pc) bj.out 1 rfl;replace q0:=af (v:=.bool false) cK.out 0 rfl
  replace q1:=af (v:=.slice none 0 0) cK.out 1 rfl;replace r0:=af (v:=.bool false) cJ.out 0 rfl;replace r1:=af (v:=.slice none 0 0) cJ.out 1 rfl;go_wp2_with fail
  refine (Ly gq g7 (by omega) (by omega)).mono ?_;rintro e wx4 ⟨v8,rfl,sq,dK⟩;replace hg:=hg.below dK;replace fK:=fK.below dK;replace gq:=gq.below dK;replace gr:=gr.below dK;replace g7:=g7.below dK;replace dm:=dm.trans (dK.mono dm.size);replace bu:=aa ((dK.block _ (ae bu.out)).trans bu.out);replace bj:=aa ((dK.block _ (ae bj.out)).trans bj.out);replace cK:=aa ((dK.block _ (ae cK.out)).trans cK.out);replace cJ:=aa ((dK.block _ (ae cJ.out)).trans cJ.out);clear dK;replace yw:=af (v:=.bool false) bu.out 0 rfl;replace yu:=af (v:=.slice ao l c) bu.out 1 rfl;replace yt:=af (v:=.bool true) bj.out 0 rfl;replace yq:=af (v:=.slice po pl pc) bj.out 1 rfl;replace q0:=af (v:=.bool false) cK.out 0 rfl
  replace q1:=af (v:=.slice none 0 0) cK.out 1 rfl;replace r0:=af (v:=.bool false) cJ.out 0 rfl;replace r1:=af (v:=.slice none 0 0) cJ.out 1 rfl;obtain⟨qo,qc,rfl⟩:=bZ sq;go_wp2_with fail
  refine (Ft fK gr OW hle).mono ?_;rintro e wx5 ⟨v9,rfl,sr,dK⟩;replace hg:=hg.below dK;replace fK:=fK.below dK;replace gq:=gq.below dK;replace gr:=gr.below dK;replace g7:=g7.below dK;replace sq:=sq.below dK;replace dm:=dm.trans (dK.mono dm.size);replace bu:=aa ((dK.block _ (ae bu.out)).trans bu.out);replace bj:=aa ((dK.block _ (ae bj.out)).trans bj.out);replace cK:=aa ((dK.block _ (ae cK.out)).trans cK.out);replace cJ:=aa ((dK.block _ (ae cJ.out)).trans cJ.out);clear dK;replace yw:=af (v:=.bool false) bu.out 0 rfl;replace yu:=af (v:=.slice ao l c) bu.out 1 rfl;replace yt:=af (v:=.bool true) bj.out 0 rfl;replace yq:=af (v:=.slice po pl pc) bj.out 1 rfl
  replace q0:=af (v:=.bool false) cK.out 0 rfl;replace q1:=af (v:=.slice none 0 0) cK.out 1 rfl;replace r0:=af (v:=.bool false) cJ.out 0 rfl;replace r1:=af (v:=.slice none 0 0) cJ.out 1 rfl;obtain⟨ro,rc,rfl⟩:=bZ sr;clear IX g7 gq gr;go_wp2_with fail
  have gL:=ae bu.out;have fA:=ae bj.out;have mL:=ae cK.out;have mK:=ae cJ.out;have lj:=dm.size
  refine aQ.region (by kernel_rfl) [[],[0],[],[2],[0,1,2,3],[],[0,1,2,3,4,5],[],[7],[],[0,1,2,3,4,5,6,7,8,9],[0,1,2,3,4,5,6,7,8,9,10],[0,1,2,3,4,5,6,7,8,9,10,11],[0,1,2,3,4,5,6,7,8,9,10,11,12]] [] [(11,1000),(12,1001)] (fun q=>[w.heap.size+2,w.heap.size+3].getD q 0) 2 14 (by kernel_rfl) (by kernel_rfl) (fun q hq=>by match q,hq with | 0,_=>exact mL | 1,_=>exact mK) (fun q r hq hr hne=>by match q,r,hq,hr,hne with | 0,0,_,_,h=>exact absurd rfl h | 0,1,_,_,h=>exact (by show w.heap.size+2≠w.heap.size+3;omega) | 1,0,_,_,h=>exact (by show w.heap.size+3≠w.heap.size+2;omega) | 1,1,_,_,h=>exact absurd rfl h) ?_;refine aQ.aB.da ?_ (by rfl) (fun T xs wr hA=>?_) ?_
  rotate_left 1
  ·have e2:=hA.pre 2 (by kernel_rfl);simp only[g_,iC,iz] at e2;clear hA;refine⟨(by rfl),?_⟩;go_simp<;>(try with_reducible rfl)
  refine aQ.aB.da ?_ (by rfl) (fun T xs wr hA=>?_) ?_
  rotate_left 1
  ·have tL:=hA.tm 0 43 (by rfl) (by rfl);have f43:xs 0=_:=hA.fa 0 (by rfl)
   (try simp (disch:=rfl) only [aQ.an] at f43)
   rw[f43] at tL;clear f43;have bx:wr.heap[w.heap.size]?=_:=(hA.bl _ gL (fun q hq=>by match q,hq with | 0,_=>exact (by show w.heap.size+2≠w.heap.size;omega) | 1,_=>exact (by show w.heap.size+3≠w.heap.size;omega))).trans bu.out;have q0:=af (v:=.bool false) bx 0 rfl;have q1:=af (v:=.slice ao l c) bx 1 rfl;clear bx;clear hA;refine⟨(by rfl),?_⟩;go_simp<;>(try with_reducible rfl)
  refine aQ.aB.da ?_ (by rfl) (fun T xs wr hA=>?_) ?_
  rotate_left 1
  ·have e3:=hA.pre 3 (by kernel_rfl);simp only[g_,iC,iz] at e3;clear hA;refine⟨(by rfl),?_⟩;go_simp<;>(try with_reducible rfl)
  refine aQ.aB.da ?_ (by rfl) (fun T xs wr hA=>?_) ?_
  rotate_left 1
  ·have xA:=hA.tm 2 45 (by rfl) (by rfl);have f45:xs 2=_:=hA.fa 2 (by rfl)
   (try simp (disch:=rfl) only [aQ.an] at f45)
   rw[f45] at xA;clear f45;have bx:wr.heap[w.heap.size+1]?=_:=(hA.bl _ fA (fun q hq=>by match q,hq with | 0,_=>exact (by show w.heap.size+2≠w.heap.size+1;omega) | 1,_=>exact (by show w.heap.size+3≠w.heap.size+1;omega))).trans bj.out;have q0:=af (v:=.bool true) bx 0 rfl;have q1:=af (v:=.slice po pl pc) bx 1 rfl;clear bx;clear hA;refine⟨(by rfl),?_⟩;go_simp<;>(try with_reducible rfl)
  refine aQ.aB.da ?_ (by rfl) (fun T xs wr hA=>?_) ?_
  rotate_left 1
  ·have uw:=hA.tm 1 44 (by rfl) (by rfl);have f44:xs 1=_:=hA.fa 1 (by rfl)
   (try simp (disch:=rfl) only [aQ.an] at f44)
   rw[f44] at uw;clear f44;have wA:=hA.tm 3 46 (by rfl) (by rfl);have f46:xs 3=_:=hA.fa 3 (by rfl)
   (try simp (disch:=rfl) only [aQ.an] at f46)
   rw[f46] at wA;clear f46;clear hA;refine⟨(by rfl),?_⟩;go_simp<;>(try with_reducible rfl)
  refine aQ.aB.da ?_ (by rfl) (fun T xs wr hA=>?_) ?_
  rotate_left 1
  ·have e7:=hA.pre 7 (by kernel_rfl);simp only[g_,iC,iz] at e7;clear hA;refine⟨(by rfl),?_⟩;go_simp<;>(try with_reducible rfl)
  refine aQ.aB.call (fun _ v w=>CI w v (sg true (m / n+1)) (k1+3)) (fun _ _ _ _ h hb=>h.below hb) (fun _ _ _ _ _ h hp=>h.keeps hp.keeps) (by rfl) (fun T xs wr hA=>?_) ?_
  ·have xz:=hA.tm 4 47 (by rfl) (by rfl);have f47:xs 4=_:=hA.fa 4 (by rfl)
   (try simp (disch:=rfl) only [aQ.an] at f47)
   rw[f47] at xz;clear f47;have Gb:=hA.tm 5 48 (by rfl) (by rfl);have f48:xs 5=_:=hA.fa 5 (by rfl)
   (try simp (disch:=rfl) only [aQ.an] at f48)
   rw[f48] at Gb;clear f48;have hkp:=gN hA.kp;have zu:=dm.trans (cm (hA.be w.heap.size lj (fun q hq=>by match q,hq with | 0,_=>exact (by show w.heap.size<=w.heap.size+2;omega) | 1,_=>exact (by show w.heap.size<=w.heap.size+3;omega))));have sq:=sq.keeps hkp;clear hA;refine⟨(by rfl),fun K hK=>?_⟩;go_simp
   refine (dS true (.slice qo _ qc) (m / n+1) (k1+3) _ sq xX).mono ?_;rintro e wq ⟨v,rfl,c,hb⟩;exact hK.out _ _ c hb
  refine aQ.aB.da ?_ (by rfl) (fun T xs wr hA=>?_) ?_
  rotate_left 1
  ·have e3:=hA.pre 3 (by kernel_rfl);simp only[g_,iC,iz] at e3;clear hA;refine⟨(by rfl),?_⟩;go_simp<;>(try with_reducible rfl)
  refine aQ.aB.da ?_ (by rfl) (fun T xs wr hA=>?_) ?_
  rotate_left 1
  ·have Ga:=hA.tm 7 50 (by rfl) (by rfl);have f50:xs 7=_:=hA.fa 7 (by rfl)
   (try simp (disch:=rfl) only [aQ.an] at f50)
   rw[f50] at Ga;clear f50;have bx:wr.heap[w.heap.size+1]?=_:=(hA.bl _ fA (fun q hq=>by match q,hq with | 0,_=>exact (by show w.heap.size+2≠w.heap.size+1;omega) | 1,_=>exact (by show w.heap.size+3≠w.heap.size+1;omega))).trans bj.out;have q0:=af (v:=.bool true) bx 0 rfl;have q1:=af (v:=.slice po pl pc) bx 1 rfl;clear bx;clear hA;refine⟨(by rfl),?_⟩;go_simp<;>(try with_reducible rfl)
  refine aQ.aB.da ?_ (by rfl) (fun T xs wr hA=>?_) ?_
  rotate_left 1
  ·have e8:=hA.pre 8 (by kernel_rfl);simp only[g_,iC,iz] at e8;clear hA;refine⟨(by rfl),?_⟩;go_simp<;>(try with_reducible rfl)
  refine aQ.aB.call (fun _ v w=>CI w v (sg true (n - m % n)) k2) (fun _ _ _ _ h hb=>h.below hb) (fun _ _ _ _ _ h hp=>h.keeps hp.keeps) (by rfl) (fun T xs wr hA=>?_) ?_
  ·have F_:=hA.tm 8 51 (by rfl) (by rfl);have f51:xs 8=_:=hA.fa 8 (by rfl)
   (try simp (disch:=rfl) only [aQ.an] at f51)
   rw[f51] at F_;clear f51;have F7:=hA.tm 9 52 (by rfl) (by rfl);have f52:xs 9=_:=hA.fa 9 (by rfl)
   (try simp (disch:=rfl) only [aQ.an] at f52)
   rw[f52] at F7;clear f52;have hkp:=gN hA.kp;have zu:=dm.trans (cm (hA.be w.heap.size lj (fun q hq=>by match q,hq with | 0,_=>exact (by show w.heap.size<=w.heap.size+2;omega) | 1,_=>exact (by show w.heap.size<=w.heap.size+3;omega))));have sr:=sr.keeps hkp;clear hA;refine⟨(by rfl),fun K hK=>?_⟩;go_simp
   refine (dS true (.slice ro _ rc) (n - m % n) k2 _ sr LS).mono ?_;rintro e wq ⟨v,rfl,c,hb⟩;exact hK.out _ _ c hb
  refine aQ.aB.iP 0 6 26 (by rfl) (by rfl) (by decide) (aQ.jF (by rfl)) (fun T xs wr hA sC=>?_) ?_
  ·have e4:=hA.pre 4 (by kernel_rfl);simp only[g_,iC,iz] at e4;have hB:wr.heap[w.heap.size+2]?=_:=sC.trans cK.out;clear sC;have De:=hA.tm 6 49 (by rfl) (by rfl);have hc:CI wr (xs 6) (sg true (m / n+1)) (k1+3):=hA.fa 6 (by rfl);obtain⟨Lt,JS,Kh,Km,hv⟩:=hc.shape;clear hc;rw[hv] at De;have z0:=af hB 0 rfl;have z1:=af hB 1 rfl;have sF:=aP hB 0;have sE:=aP hB 1;clear hA;refine⟨(by rfl),fun K hK=>?_⟩;go_simp
   exact hK.out _ _ hv (ri hB _ _) (q_ hB (by rfl) (by rfl))
  refine aQ.aB.iP 1 10 26 (by rfl) (by rfl) (by decide) (aQ.jF (by rfl)) (fun T xs wr hA sC=>?_) ?_
  ·have e5:=hA.pre 5 (by kernel_rfl);simp only[g_,iC,iz] at e5;have hB:wr.heap[w.heap.size+3]?=_:=sC.trans cJ.out;clear sC;have Is:=hA.tm 10 53 (by rfl) (by rfl);have hc:CI wr (xs 10) (sg true (n - m % n)) k2:=hA.fa 10 (by rfl);obtain⟨Lt,JS,Kh,Km,hv⟩:=hc.shape;clear hc;rw[hv] at Is;have z0:=af hB 0 rfl;have z1:=af hB 1 rfl;have sF:=aP hB 0;have sE:=aP hB 1;clear hA;refine⟨(by rfl),fun K hK=>?_⟩;go_simp
   exact hK.out _ _ hv (ri hB _ _) (q_ hB (by rfl) (by rfl))
  refine aQ.aB.da ?_ (by rfl) (fun T xs wr hA=>?_) ?_
  rotate_left 1
  ·clear hA;refine⟨(by rfl),?_⟩;go_simp<;>(try with_reducible rfl)
  refine aQ.aB.done (fun xs Mn hL=>?_);obtain⟨⟨iY,dw,gM⟩,hf,hp,hn⟩:=hL;have f0:xs 0=_:=hf 0 (by decide)
  (try simp (disch:=rfl) only [aQ.an] at f0)
  have f1:xs 1=_:=hf 1 (by decide)
  (try simp (disch:=rfl) only [aQ.an] at f1)
  have f2:xs 2=_:=hf 2 (by decide)
  (try simp (disch:=rfl) only [aQ.an] at f2)
  have f3:xs 3=_:=hf 3 (by decide)
  (try simp (disch:=rfl) only [aQ.an] at f3)
  have f4:xs 4=_:=hf 4 (by decide)
  (try simp (disch:=rfl) only [aQ.an] at f4)
  have f5:xs 5=_:=hf 5 (by decide)
  (try simp (disch:=rfl) only [aQ.an] at f5)
  have oK:CI Mn (xs 6) (sg true (m / n+1)) (k1+3):=hf 6 (by decide);have f7:xs 7=_:=hf 7 (by decide)
  (try simp (disch:=rfl) only [aQ.an] at f7)
  have f8:xs 8=_:=hf 8 (by decide)
  (try simp (disch:=rfl) only [aQ.an] at f8)
  have f9:xs 9=_:=hf 9 (by decide)
  (try simp (disch:=rfl) only [aQ.an] at f9)
  have oJ:CI Mn (xs 10) (sg true (n - m % n)) k2:=hf 10 (by decide);obtain⟨cc,hv,sB⟩:=hf 11 (by decide);change xs 6=_ at hv;obtain⟨oM,oe,ow,oy,ie⟩:=oK.shape;rw[ie] at hv;injection hv with hv;subst hv;obtain⟨cc,hv,sA⟩:=hf 12 (by decide);change xs 10=_ at hv;obtain⟨oL,oa,ou,ox,h_⟩:=oJ.shape;rw[h_] at hv;injection hv with hv;subst hv;have f13:xs 13=_:=hf 13 (by decide)
  (try simp (disch:=rfl) only [aQ.an] at f13)
  clear hf hp hn;refine aQ.jE ?_;rw[ie] at oK;rw[h_] at oJ;simp only[aQ.fill,aY,bS,bD,f0,f1,f2,f3,f4,f5,f7,f8,f9,f13,ie,h_];clear f0 f1 f2 f3 f4 f5 f7 f8 f9 f13 ie h_;clear xs;replace gM:=gN gM;replace hg:=hg.keeps gM;replace fK:=fK.keeps gM;replace sq:=sq.keeps gM;replace sr:=sr.keeps gM;replace dm:=dm.trans (cm (iY w.heap.size lj (fun q hq=>by match q,hq with | 0,_=>exact (by show w.heap.size<=w.heap.size+2;omega) | 1,_=>exact (by show w.heap.size<=w.heap.size+3;omega))));replace bu:=aa ((dw _ gL (fun q hq=>by match q,hq with | 0,_=>exact (by show w.heap.size+2≠w.heap.size;omega) | 1,_=>exact (by show w.heap.size+3≠w.heap.size;omega))).trans bu.out)
  replace bj:=aa ((dw _ fA (fun q hq=>by match q,hq with | 0,_=>exact (by show w.heap.size+2≠w.heap.size+1;omega) | 1,_=>exact (by show w.heap.size+3≠w.heap.size+1;omega))).trans bj.out);replace cK:=aa (show Mn.heap[w.heap.size+2]?=some (.cells #[.bool oM,.slice oe ow oy] 26 (0,0)) from sB);clear sB;replace cJ:=aa (show Mn.heap[w.heap.size+3]?=some (.cells #[.bool oL,.slice oa ou ox] 26 (0,0)) from sA);clear sA;clear gM iY dw lj;replace yw:=af (v:=.bool false) bu.out 0 rfl;replace yu:=af (v:=.slice ao l c) bu.out 1 rfl;replace yt:=af (v:=.bool true) bj.out 0 rfl;replace yq:=af (v:=.slice po pl pc) bj.out 1 rfl;replace q0:=af (v:=.bool oM) cK.out 0 rfl;replace q1:=af (v:=.slice oe ow oy) cK.out 1 rfl
  replace r0:=af (v:=.bool oL) cJ.out 0 rfl;replace r1:=af (v:=.slice oa ou ox) cJ.out 1 rfl;clear gL fA mL mK;go_wp2_with fail
  exact aD (v:=.tuple #[.agg #[.bool oM,.slice oe ow oy],.agg #[.bool oL,.slice oa ou ox],.bool true]) (by simp[results,mG,go_sem,q0,q1,r0,r1]) rfl ⟨_,_,rfl,oK,oJ,dm⟩
 have dm:=ax w.heap.size w;go_enter Tryz.func63,Tryz.ntmps63
 go_wp2_with fail
 have dK:aA w.heap.size w ((((w.alloc (.cells #[.bool true,.slice ao l c] 26)).alloc (.cells #[.bool false,.slice po pl pc] 26)).alloc (.cells #[.bool false,.slice none 0 0] 26)).alloc (.cells #[.bool false,.slice none 0 0] 26)):=(((((ax _ _).alloc (by simp) _).alloc (by simp) _).alloc (by simp;omega) _).alloc (by simp;omega) _)
 replace hg:=hg.below dK;replace fK:=fK.below dK;replace dm:=dm.trans (dK.mono dm.size);clear dK;have bu:Hid (((((w.alloc (.cells #[.bool true,.slice ao l c] 26)).alloc (.cells #[.bool false,.slice po pl pc] 26)).alloc (.cells #[.bool false,.slice none 0 0] 26)).alloc (.cells #[.bool false,.slice none 0 0] 26)).heap[w.heap.size]?=some (.cells #[.bool true,.slice ao l c] 26 (0,0))):=aa (bX (bX (bX (dh w (.cells #[.bool true,.slice ao l c] 26) _ (by first | rfl | simp)) _) _) _)
 have bj:Hid (((((w.alloc (.cells #[.bool true,.slice ao l c] 26)).alloc (.cells #[.bool false,.slice po pl pc] 26)).alloc (.cells #[.bool false,.slice none 0 0] 26)).alloc (.cells #[.bool false,.slice none 0 0] 26)).heap[w.heap.size+1]?=some (.cells #[.bool false,.slice po pl pc] 26 (0,0))):=aa (bX (bX (dh (w.alloc (.cells #[.bool true,.slice ao l c] 26)) (.cells #[.bool false,.slice po pl pc] 26) _ (by first | rfl | simp)) _) _)
 have cK:Hid (((((w.alloc (.cells #[.bool true,.slice ao l c] 26)).alloc (.cells #[.bool false,.slice po pl pc] 26)).alloc (.cells #[.bool false,.slice none 0 0] 26)).alloc (.cells #[.bool false,.slice none 0 0] 26)).heap[w.heap.size+2]?=some (.cells #[.bool false,.slice none 0 0] 26 (0,0))):=aa (bX (dh ((w.alloc (.cells #[.bool true,.slice ao l c] 26)).alloc (.cells #[.bool false,.slice po pl pc] 26)) (.cells #[.bool false,.slice none 0 0] 26) _ (by first | rfl | simp)) _)
 have cJ:Hid (((((w.alloc (.cells #[.bool true,.slice ao l c] 26)).alloc (.cells #[.bool false,.slice po pl pc] 26)).alloc (.cells #[.bool false,.slice none 0 0] 26)).alloc (.cells #[.bool false,.slice none 0 0] 26)).heap[w.heap.size+3]?=some (.cells #[.bool false,.slice none 0 0] 26 (0,0))):=aa (dh (((w.alloc (.cells #[.bool true,.slice ao l c] 26)).alloc (.cells #[.bool false,.slice po pl pc] 26)).alloc (.cells #[.bool false,.slice none 0 0] 26)) (.cells #[.bool false,.slice none 0 0] 26) _ (by first | rfl | simp));generalize ((((w.alloc (.cells #[.bool true,.slice ao l c] 26)).alloc (.cells #[.bool false,.slice po pl pc] 26)).alloc (.cells #[.bool false,.slice none 0 0] 26)).alloc (.cells #[.bool false,.slice none 0 0] 26))=wx1 at *;have yw:=af (v:=.bool true) bu.out 0 rfl;have yu:=af (v:=.slice ao l c) bu.out 1 rfl
 have yt:=af (v:=.bool false) bj.out 0 rfl;have yq:=af (v:=.slice po pl pc) bj.out 1 rfl;have q0:=af (v:=.bool false) cK.out 0 rfl;have q1:=af (v:=.slice none 0 0) cK.out 1 rfl;have r0:=af (v:=.bool false) cJ.out 0 rfl;have r1:=af (v:=.slice none 0 0) cJ.out 1 rfl;refine (Bb hg fK h1 h0).mono ?_;rintro e RW ⟨vq,vr,rfl,sq,sr,dK⟩;replace hg:=hg.below dK;replace fK:=fK.below dK;replace dm:=dm.trans (dK.mono dm.size);replace bu:=aa ((dK.block _ (ae bu.out)).trans bu.out);replace bj:=aa ((dK.block _ (ae bj.out)).trans bj.out);replace cK:=aa ((dK.block _ (ae cK.out)).trans cK.out);replace cJ:=aa ((dK.block _ (ae cJ.out)).trans cJ.out);clear dK;replace yw:=af (v:=.bool true) bu.out 0 rfl
 replace yu:=af (v:=.slice ao l c) bu.out 1 rfl;replace yt:=af (v:=.bool false) bj.out 0 rfl;replace yq:=af (v:=.slice po pl pc) bj.out 1 rfl;replace q0:=af (v:=.bool false) cK.out 0 rfl;replace q1:=af (v:=.slice none 0 0) cK.out 1 rfl;replace r0:=af (v:=.bool false) cJ.out 0 rfl;replace r1:=af (v:=.slice none 0 0) cJ.out 1 rfl;obtain⟨qo0,qc0,rfl⟩:=bZ sq;obtain⟨ro0,rc0,rfl⟩:=bZ sr;have gq:=wg sq P_;have gr:=wg sr SP;clear sq sr;go_wp2_with fail
 refine (Sj 1 _ _ rfl (by decide)).mono ?_;rintro e Al ⟨v7,rfl,g7,dK⟩;replace hg:=hg.below dK;replace fK:=fK.below dK;replace gq:=gq.below dK;replace gr:=gr.below dK;replace dm:=dm.trans (dK.mono dm.size);replace bu:=aa ((dK.block _ (ae bu.out)).trans bu.out);replace bj:=aa ((dK.block _ (ae bj.out)).trans bj.out);replace cK:=aa ((dK.block _ (ae cK.out)).trans cK.out);replace cJ:=aa ((dK.block _ (ae cJ.out)).trans cJ.out);clear dK;replace yw:=af (v:=.bool true) bu.out 0 rfl;replace yu:=af (v:=.slice ao l c) bu.out 1 rfl;replace yt:=af (v:=.bool false) bj.out 0 rfl;replace yq:=af (v:=.slice po pl pc) bj.out 1 rfl;replace q0:=af (v:=.bool false) cK.out 0 rfl
 replace q1:=af (v:=.slice none 0 0) cK.out 1 rfl;replace r0:=af (v:=.bool false) cJ.out 0 rfl;replace r1:=af (v:=.slice none 0 0) cJ.out 1 rfl;go_wp2_with fail
 refine (Ly gq g7 (by omega) (by omega)).mono ?_;rintro e wx4 ⟨v8,rfl,sq,dK⟩;replace hg:=hg.below dK;replace fK:=fK.below dK;replace gq:=gq.below dK;replace gr:=gr.below dK;replace g7:=g7.below dK;replace dm:=dm.trans (dK.mono dm.size);replace bu:=aa ((dK.block _ (ae bu.out)).trans bu.out);replace bj:=aa ((dK.block _ (ae bj.out)).trans bj.out);replace cK:=aa ((dK.block _ (ae cK.out)).trans cK.out);replace cJ:=aa ((dK.block _ (ae cJ.out)).trans cJ.out);clear dK;replace yw:=af (v:=.bool true) bu.out 0 rfl;replace yu:=af (v:=.slice ao l c) bu.out 1 rfl;replace yt:=af (v:=.bool false) bj.out 0 rfl;replace yq:=af (v:=.slice po pl pc) bj.out 1 rfl;replace q0:=af (v:=.bool false) cK.out 0 rfl
 replace q1:=af (v:=.slice none 0 0) cK.out 1 rfl;replace r0:=af (v:=.bool false) cJ.out 0 rfl;replace r1:=af (v:=.slice none 0 0) cJ.out 1 rfl;obtain⟨qo,qc,rfl⟩:=bZ sq;go_wp2_with fail
 refine (Ft fK gr OW hle).mono ?_;rintro e wx5 ⟨v9,rfl,sr,dK⟩;replace hg:=hg.below dK;replace fK:=fK.below dK;replace gq:=gq.below dK;replace gr:=gr.below dK;replace g7:=g7.below dK;replace sq:=sq.below dK;replace dm:=dm.trans (dK.mono dm.size);replace bu:=aa ((dK.block _ (ae bu.out)).trans bu.out);replace bj:=aa ((dK.block _ (ae bj.out)).trans bj.out);replace cK:=aa ((dK.block _ (ae cK.out)).trans cK.out);replace cJ:=aa ((dK.block _ (ae cJ.out)).trans cJ.out);clear dK;replace yw:=af (v:=.bool true) bu.out 0 rfl;replace yu:=af (v:=.slice ao l c) bu.out 1 rfl;replace yt:=af (v:=.bool false) bj.out 0 rfl;replace yq:=af (v:=.slice po pl pc) bj.out 1 rfl
 replace q0:=af (v:=.bool false) cK.out 0 rfl;replace q1:=af (v:=.slice none 0 0) cK.out 1 rfl;replace r0:=af (v:=.bool false) cJ.out 0 rfl;replace r1:=af (v:=.slice none 0 0) cJ.out 1 rfl;obtain⟨ro,rc,rfl⟩:=bZ sr;clear IX g7 gq gr;go_wp2_with fail
 have gL:=ae bu.out;have fA:=ae bj.out;have mL:=ae cK.out;have mK:=ae cJ.out;have lj:=dm.size
 refine aQ.region (by kernel_rfl) [[],[0],[],[2],[0,1,2,3],[],[0,1,2,3,4,5],[],[7],[],[0,1,2,3,4,5,6,7,8,9],[0,1,2,3,4,5,6,7,8,9,10],[0,1,2,3,4,5,6,7,8,9,10,11],[0,1,2,3,4,5,6,7,8,9,10,11,12]] [] [(11,1000),(12,1001)] (fun q=>[w.heap.size+2,w.heap.size+3].getD q 0) 2 14 (by kernel_rfl) (by kernel_rfl) (fun q hq=>by match q,hq with | 0,_=>exact mL | 1,_=>exact mK) (fun q r hq hr hne=>by match q,r,hq,hr,hne with | 0,0,_,_,h=>exact absurd rfl h | 0,1,_,_,h=>exact (by show w.heap.size+2≠w.heap.size+3;omega) | 1,0,_,_,h=>exact (by show w.heap.size+3≠w.heap.size+2;omega) | 1,1,_,_,h=>exact absurd rfl h) ?_;refine aQ.aB.da ?_ (by rfl) (fun T xs wr hA=>?_) ?_
 rotate_left 1
 ·have e2:=hA.pre 2 (by kernel_rfl);simp only[g_,iC,iz] at e2;clear hA;refine⟨(by rfl),?_⟩;go_simp<;>(try with_reducible rfl)
 refine aQ.aB.da ?_ (by rfl) (fun T xs wr hA=>?_) ?_
 rotate_left 1
 ·have tL:=hA.tm 0 43 (by rfl) (by rfl);have f43:xs 0=_:=hA.fa 0 (by rfl)
  (try simp (disch:=rfl) only [aQ.an] at f43)
  rw[f43] at tL;clear f43;have bx:wr.heap[w.heap.size]?=_:=(hA.bl _ gL (fun q hq=>by match q,hq with | 0,_=>exact (by show w.heap.size+2≠w.heap.size;omega) | 1,_=>exact (by show w.heap.size+3≠w.heap.size;omega))).trans bu.out;have q0:=af (v:=.bool true) bx 0 rfl;have q1:=af (v:=.slice ao l c) bx 1 rfl;clear bx;clear hA;refine⟨(by rfl),?_⟩;go_simp<;>(try with_reducible rfl)
 refine aQ.aB.da ?_ (by rfl) (fun T xs wr hA=>?_) ?_
 rotate_left 1
 ·have e3:=hA.pre 3 (by kernel_rfl);simp only[g_,iC,iz] at e3;clear hA;refine⟨(by rfl),?_⟩;go_simp<;>(try with_reducible rfl)
 refine aQ.aB.da ?_ (by rfl) (fun T xs wr hA=>?_) ?_
 rotate_left 1
 ·have xA:=hA.tm 2 45 (by rfl) (by rfl);have f45:xs 2=_:=hA.fa 2 (by rfl)
  (try simp (disch:=rfl) only [aQ.an] at f45)
  rw[f45] at xA;clear f45;have bx:wr.heap[w.heap.size+1]?=_:=(hA.bl _ fA (fun q hq=>by match q,hq with | 0,_=>exact (by show w.heap.size+2≠w.heap.size+1;omega) | 1,_=>exact (by show w.heap.size+3≠w.heap.size+1;omega))).trans bj.out;have q0:=af (v:=.bool false) bx 0 rfl;have q1:=af (v:=.slice po pl pc) bx 1 rfl;clear bx;clear hA;refine⟨(by rfl),?_⟩;go_simp<;>(try with_reducible rfl)
 refine aQ.aB.da ?_ (by rfl) (fun T xs wr hA=>?_) ?_
 rotate_left 1
 ·have uw:=hA.tm 1 44 (by rfl) (by rfl);have f44:xs 1=_:=hA.fa 1 (by rfl)
  (try simp (disch:=rfl) only [aQ.an] at f44)
  rw[f44] at uw;clear f44;have wA:=hA.tm 3 46 (by rfl) (by rfl);have f46:xs 3=_:=hA.fa 3 (by rfl)
  (try simp (disch:=rfl) only [aQ.an] at f46)
  rw[f46] at wA;clear f46;clear hA;refine⟨(by rfl),?_⟩;go_simp<;>(try with_reducible rfl)
 refine aQ.aB.da ?_ (by rfl) (fun T xs wr hA=>?_) ?_
 rotate_left 1
 ·have e7:=hA.pre 7 (by kernel_rfl);simp only[g_,iC,iz] at e7;clear hA;refine⟨(by rfl),?_⟩;go_simp<;>(try with_reducible rfl)
 refine aQ.aB.call (fun _ v w=>CI w v (sg true (m / n+1)) (k1+3)) (fun _ _ _ _ h hb=>h.below hb) (fun _ _ _ _ _ h hp=>h.keeps hp.keeps) (by rfl) (fun T xs wr hA=>?_) ?_
 ·have xz:=hA.tm 4 47 (by rfl) (by rfl);have f47:xs 4=_:=hA.fa 4 (by rfl)
  (try simp (disch:=rfl) only [aQ.an] at f47)
  rw[f47] at xz;clear f47;have Gb:=hA.tm 5 48 (by rfl) (by rfl);have f48:xs 5=_:=hA.fa 5 (by rfl)
  (try simp (disch:=rfl) only [aQ.an] at f48)
  rw[f48] at Gb;clear f48;have hkp:=gN hA.kp;have zu:=dm.trans (cm (hA.be w.heap.size lj (fun q hq=>by match q,hq with | 0,_=>exact (by show w.heap.size<=w.heap.size+2;omega) | 1,_=>exact (by show w.heap.size<=w.heap.size+3;omega))));have sq:=sq.keeps hkp;clear hA;refine⟨(by rfl),fun K hK=>?_⟩;go_simp
  refine (dS true (.slice qo _ qc) (m / n+1) (k1+3) _ sq xX).mono ?_;rintro e wq ⟨v,rfl,c,hb⟩;exact hK.out _ _ c hb
 refine aQ.aB.da ?_ (by rfl) (fun T xs wr hA=>?_) ?_
 rotate_left 1
 ·have e3:=hA.pre 3 (by kernel_rfl);simp only[g_,iC,iz] at e3;clear hA;refine⟨(by rfl),?_⟩;go_simp<;>(try with_reducible rfl)
 refine aQ.aB.da ?_ (by rfl) (fun T xs wr hA=>?_) ?_
 rotate_left 1
 ·have Ga:=hA.tm 7 50 (by rfl) (by rfl);have f50:xs 7=_:=hA.fa 7 (by rfl)
  (try simp (disch:=rfl) only [aQ.an] at f50)
  rw[f50] at Ga;clear f50;have bx:wr.heap[w.heap.size+1]?=_:=(hA.bl _ fA (fun q hq=>by match q,hq with | 0,_=>exact (by show w.heap.size+2≠w.heap.size+1;omega) | 1,_=>exact (by show w.heap.size+3≠w.heap.size+1;omega))).trans bj.out;have q0:=af (v:=.bool false) bx 0 rfl;have q1:=af (v:=.slice po pl pc) bx 1 rfl;clear bx;clear hA;refine⟨(by rfl),?_⟩;go_simp<;>(try with_reducible rfl)
 refine aQ.aB.da ?_ (by rfl) (fun T xs wr hA=>?_) ?_
 rotate_left 1
 ·have e8:=hA.pre 8 (by kernel_rfl);simp only[g_,iC,iz] at e8;clear hA;refine⟨(by rfl),?_⟩;go_simp<;>(try with_reducible rfl)
 refine aQ.aB.call (fun _ v w=>CI w v (sg false (n - m % n)) k2) (fun _ _ _ _ h hb=>h.below hb) (fun _ _ _ _ _ h hp=>h.keeps hp.keeps) (by rfl) (fun T xs wr hA=>?_) ?_
 ·have F_:=hA.tm 8 51 (by rfl) (by rfl);have f51:xs 8=_:=hA.fa 8 (by rfl)
  (try simp (disch:=rfl) only [aQ.an] at f51)
  rw[f51] at F_;clear f51;have F7:=hA.tm 9 52 (by rfl) (by rfl);have f52:xs 9=_:=hA.fa 9 (by rfl)
  (try simp (disch:=rfl) only [aQ.an] at f52)
  rw[f52] at F7;clear f52;have hkp:=gN hA.kp;have zu:=dm.trans (cm (hA.be w.heap.size lj (fun q hq=>by match q,hq with | 0,_=>exact (by show w.heap.size<=w.heap.size+2;omega) | 1,_=>exact (by show w.heap.size<=w.heap.size+3;omega))));have sr:=sr.keeps hkp;clear hA;refine⟨(by rfl),fun K hK=>?_⟩;go_simp
  refine (dS false (.slice ro _ rc) (n - m % n) k2 _ sr LS).mono ?_;rintro e wq ⟨v,rfl,c,hb⟩;exact hK.out _ _ c hb
 refine aQ.aB.iP 0 6 26 (by rfl) (by rfl) (by decide) (aQ.jF (by rfl)) (fun T xs wr hA sC=>?_) ?_
 ·have e4:=hA.pre 4 (by kernel_rfl);simp only[g_,iC,iz] at e4;have hB:wr.heap[w.heap.size+2]?=_:=sC.trans cK.out;clear sC;have De:=hA.tm 6 49 (by rfl) (by rfl);have hc:CI wr (xs 6) (sg true (m / n+1)) (k1+3):=hA.fa 6 (by rfl);obtain⟨Lt,JS,Kh,Km,hv⟩:=hc.shape;clear hc;rw[hv] at De;have z0:=af hB 0 rfl;have z1:=af hB 1 rfl;have sF:=aP hB 0;have sE:=aP hB 1;clear hA;refine⟨(by rfl),fun K hK=>?_⟩;go_simp
  exact hK.out _ _ hv (ri hB _ _) (q_ hB (by rfl) (by rfl))
 refine aQ.aB.iP 1 10 26 (by rfl) (by rfl) (by decide) (aQ.jF (by rfl)) (fun T xs wr hA sC=>?_) ?_
 ·have e5:=hA.pre 5 (by kernel_rfl);simp only[g_,iC,iz] at e5;have hB:wr.heap[w.heap.size+3]?=_:=sC.trans cJ.out;clear sC;have Is:=hA.tm 10 53 (by rfl) (by rfl);have hc:CI wr (xs 10) (sg false (n - m % n)) k2:=hA.fa 10 (by rfl);obtain⟨Lt,JS,Kh,Km,hv⟩:=hc.shape;clear hc;rw[hv] at Is;have z0:=af hB 0 rfl;have z1:=af hB 1 rfl;have sF:=aP hB 0;have sE:=aP hB 1;clear hA;refine⟨(by rfl),fun K hK=>?_⟩;go_simp
  exact hK.out _ _ hv (ri hB _ _) (q_ hB (by rfl) (by rfl))
 refine aQ.aB.da ?_ (by rfl) (fun T xs wr hA=>?_) ?_
 rotate_left 1
 ·clear hA;refine⟨(by rfl),?_⟩;go_simp<;>(try with_reducible rfl)
 refine aQ.aB.done (fun xs Mn hL=>?_);obtain⟨⟨iY,dw,gM⟩,hf,hp,hn⟩:=hL;have f0:xs 0=_:=hf 0 (by decide)
 (try simp (disch:=rfl) only [aQ.an] at f0)
 have f1:xs 1=_:=hf 1 (by decide)
 (try simp (disch:=rfl) only [aQ.an] at f1)
 have f2:xs 2=_:=hf 2 (by decide)
 (try simp (disch:=rfl) only [aQ.an] at f2)
 have f3:xs 3=_:=hf 3 (by decide)
 (try simp (disch:=rfl) only [aQ.an] at f3)
 have f4:xs 4=_:=hf 4 (by decide)
 (try simp (disch:=rfl) only [aQ.an] at f4)
 have f5:xs 5=_:=hf 5 (by decide)
 (try simp (disch:=rfl) only [aQ.an] at f5)
 have oK:CI Mn (xs 6) (sg true (m / n+1)) (k1+3):=hf 6 (by decide);have f7:xs 7=_:=hf 7 (by decide)
 (try simp (disch:=rfl) only [aQ.an] at f7)
 have f8:xs 8=_:=hf 8 (by decide)
 (try simp (disch:=rfl) only [aQ.an] at f8)
 have f9:xs 9=_:=hf 9 (by decide)
 (try simp (disch:=rfl) only [aQ.an] at f9)
 have oJ:CI Mn (xs 10) (sg false (n - m % n)) k2:=hf 10 (by decide);obtain⟨cc,hv,sB⟩:=hf 11 (by decide);change xs 6=_ at hv;obtain⟨oM,oe,ow,oy,ie⟩:=oK.shape;rw[ie] at hv;injection hv with hv;subst hv;obtain⟨cc,hv,sA⟩:=hf 12 (by decide);change xs 10=_ at hv;obtain⟨oL,oa,ou,ox,h_⟩:=oJ.shape;rw[h_] at hv;injection hv with hv;subst hv;have f13:xs 13=_:=hf 13 (by decide)
 (try simp (disch:=rfl) only [aQ.an] at f13)
 clear hf hp hn;refine aQ.jE ?_;rw[ie] at oK;rw[h_] at oJ;simp only[aQ.fill,aY,bS,bD,f0,f1,f2,f3,f4,f5,f7,f8,f9,f13,ie,h_];clear f0 f1 f2 f3 f4 f5 f7 f8 f9 f13 ie h_;clear xs;replace gM:=gN gM;replace hg:=hg.keeps gM;replace fK:=fK.keeps gM;replace sq:=sq.keeps gM;replace sr:=sr.keeps gM;replace dm:=dm.trans (cm (iY w.heap.size lj (fun q hq=>by match q,hq with | 0,_=>exact (by show w.heap.size<=w.heap.size+2;omega) | 1,_=>exact (by show w.heap.size<=w.heap.size+3;omega))));replace bu:=aa ((dw _ gL (fun q hq=>by match q,hq with | 0,_=>exact (by show w.heap.size+2≠w.heap.size;omega) | 1,_=>exact (by show w.heap.size+3≠w.heap.size;omega))).trans bu.out)
 replace bj:=aa ((dw _ fA (fun q hq=>by match q,hq with | 0,_=>exact (by show w.heap.size+2≠w.heap.size+1;omega) | 1,_=>exact (by show w.heap.size+3≠w.heap.size+1;omega))).trans bj.out);replace cK:=aa (show Mn.heap[w.heap.size+2]?=some (.cells #[.bool oM,.slice oe ow oy] 26 (0,0)) from sB);clear sB;replace cJ:=aa (show Mn.heap[w.heap.size+3]?=some (.cells #[.bool oL,.slice oa ou ox] 26 (0,0)) from sA);clear sA;clear gM iY dw lj;replace yw:=af (v:=.bool true) bu.out 0 rfl;replace yu:=af (v:=.slice ao l c) bu.out 1 rfl;replace yt:=af (v:=.bool false) bj.out 0 rfl;replace yq:=af (v:=.slice po pl pc) bj.out 1 rfl;replace q0:=af (v:=.bool oM) cK.out 0 rfl;replace q1:=af (v:=.slice oe ow oy) cK.out 1 rfl
 replace r0:=af (v:=.bool oL) cJ.out 0 rfl;replace r1:=af (v:=.slice oa ou ox) cJ.out 1 rfl;clear gL fA mL mK;go_wp2_with fail
 exact aD (v:=.tuple #[.agg #[.bool oM,.slice oe ow oy],.agg #[.bool oL,.slice oa ou ox],.bool true]) (by simp[results,mG,go_sem,q0,q1,r0,r1]) rfl ⟨_,_,rfl,oK,oJ,dm⟩
theorem Jb (va vb:aq) (y z:Int) (k1 k2:Nat) (w:ag) (hx:GI w va y k1) (hy:GI w vb z k2) (h1:k1<=900000) (h2:k2<=900000) (h0:z≠0) :
  aW aj 63 #[va,vb] w fun e w'=>∃ q r,e=.returned (.tuple #[q,r,.bool true])/\CI w' q (Int.fdiv y z) (k1+3)/\CI w' r (Int.fmod y z) k2/\aA w.heap.size w w':=by
 obtain⟨b,ao,l,c,m,rfl,hg,rfl⟩:=hx.shape;obtain⟨d,po,pl,pc,n,rfl,fK,rfl⟩:=hy.shape
 have hn:0<n:=by
  rcases bQ n with h | h
  ·subst h;exact absurd (by cases d<;>rfl) h0
  exact h
 by_cases h:b=d\/m % n=0
 ·obtain⟨e1,e2⟩:=PA (b:=b) (d:=d) hn h;rw[e1,e2];exact DV b d _ ao po l c pl pc m n k1 k2 w hg fK h1 hn rfl h
 have hbd:b≠d:=fun e=>h (Or.inl e)
 have hr:0<m % n:=by
  rcases bQ (m % n) with e | e
  ·exact absurd (Or.inr e) h
  exact e
 obtain⟨e1,e2⟩:=MM (b:=b) (d:=d) hn hbd hr;rw[e1,e2,show (b != d)=true by simpa using hbd];exact Jc b d ao po l c pl pc m n k1 k2 w hg fK h1 h2 hn hbd hr
end Go.Proofs.YtoncclhbdkjhmaaGreatDoor
