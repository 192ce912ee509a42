/-
 Joined texts: ScT,PtK,SmA,SmB,SmC,PpLaw,PpDoor.
-/
import Derived.Test.YtkocdbgmckdcpaaGreatDoorCards
import Derived.Test.YtkocdbgmckdcpaaGreatDoorTie
import Derived.ProofKit
import Derived.OpenShut
import Derived.ShutString
import Derived.ChangeOld
import Derived.Deep.DeepHandedRow
import Derived.LaidMore
import Derived.LaidHandle
import Derived.LaidSub
import Derived.Lib.LaidTab
import Derived.Test.YtkocdbgmckdcpaaGreatDoorJParsePrints5
import Derived.Test.YtkocdbgmckdcpaaGreatDoorJParsePrints7
import Derived.Test.YtkocdbgmckdcpaaGreatDoorJParsePrints8
set_option maxHeartbeats 32000000
namespace Go.Proofs.YtkocdbgmckdcpaaGreatDoor
open Go.RowKit
set_option maxRecDepth 100000
def arW (k:Nat):Int:=if k=24 then -1 else (ar k:Int)
def ArT (w:World):Prop:=∀ i,i<29->w.cell? ⟨2,i,none⟩=some (.int .i64 (arW i))
theorem ArT.below {w w':World} (h:ArT w) (hb:Below w.heap.size w w'):ArT w':=fun i hi=>by rw[hb.cell (cell_lt (h i hi))];exact h i hi
theorem arityW_ok (k:Nat) (z:Int) (hk:k<29) (hz:arW k=z) (w:World) (ht:ArT w) :
  Calls Tryz.prog 104 #[.int .i64 (k:Nat)] w fun e w'=>e=.returned (.int .i64 z)/\w=w':=by
 have c:=ht k hk;rw[hz] at c;clear hz ht;go_enter Tryz.func104,Tryz.ntmps104
 go_wp2
 go_ret
 exact⟨rfl,rfl⟩

theorem isNatW (ao:Option Addr) (n c z:Nat) (w:World) (h:Sl w .u32 (.slice ao n c) (dig L32 z)) :
  Calls Tryz.prog 105 #[.agg #[.bool false,.slice ao n c]] w fun e w'=>e=.returned (.bool true)/\Below w.heap.size w w':=by
 obtain⟨ao',cap,e,h1,h2,h3,h4⟩:=h;injection e with e1 e2 e3;subst e1 e3 e2
 by_cases h0:(dig L32 z).length=0
 ·have hz:(((dig L32 z).length:Int)==0)=true:=by rw[h0];rfl
  have H0:=h_ h0;clear h0 h4;go_enter Tryz.func105,Tryz.ntmps105
  go_wp2
  go_ret
  exact⟨rfl,(Below.refl _ _).alloc (Nat.le_refl _) _⟩
 obtain⟨a,rfl,hc⟩:=h4 ((dig L32 z).length - 1) (by omega);have hl:=dig_last (B:=L32) (n:=z) (by decide) (by omega);have hd:=(Dig_dig (B:=L32) (by decide) z).getD (by decide) ((dig L32 z).length - 1);have hp:nth (dig L32 z) ((dig L32 z).length - 1)≠0:=by unfold nth;omega
 have hn:((nth (dig L32 z) ((dig L32 z).length - 1)) != 0)=true:=by simpa using hp
 have hca:(w.alloc (.cells #[.bool false,.slice (some a) (dig L32 z).length c] 44)).cell? (a.add ((dig L32 z).length - 1))=some (.int .u32 (nth (dig L32 z) ((dig L32 z).length - 1))):=by
  rw[World.cell?_alloc_lt _ _ _ (cell_lt hc)];exact hc
 have hz:(((dig L32 z).length:Int)==0)=false:=by rw[beq_eq_false_iff_ne];omega
 have hp1:1<=(dig L32 z).length:=by omega
 clear h4 hc hl hd hp h0;generalize nth (dig L32 z) ((dig L32 z).length - 1)=q at *;generalize (dig L32 z).length=n at *;go_enter Tryz.func105,Tryz.ntmps105
 go_wp2
 go_ret
 exact⟨rfl,(Below.refl _ _).alloc (Nat.le_refl _) _⟩
theorem arW_ne (n:Nat):(((n:Nat):Int) != -1)=true:=by simp
theorem right_p (d:Nat) (hd:d<=4000000000000000000) (x:X) (u:U) (w:World) (S:Nat->Prop) (ht:ArT w) (h:Um w S x u) (hB:Bnd u) (ho:ud u<=d) :
  Calls Tryz.prog 72 #[xv x] w fun e w'=>e=.returned (.bool true)/\Below w.heap.size w w':=by
 induction d generalizing x u w with
 | zero=>obtain⟨k,nm,ot,z,ln,cl,ks⟩:=u;rw[ud] at ho;omega
 | succ d ih =>
  obtain⟨k,nm,ot,z,ln,cl,ks⟩:=u;rw[Um] at h;rw[Bnd] at hB;obtain⟨⟨hk,ha⟩,-,-,hks⟩:=hB;obtain⟨⟨e1,e2,e3,e4,e5,e6⟩,⟨h2,h3⟩,⟨h4,h5,h6⟩,h7⟩:=h;obtain⟨xk,xnm,xot,xb,xao,xn,xc,xko,xkn,xkc,xln,xcl⟩:=x;simp only at e1 e2 e3 e4 e5 e6 h2 h3 h4 h5 h6 h7;have HK:=h_ (fun j (hj:j<ks.length)=>ums_get 0 j h7 hj);have HKS:=h_ (fun j (hj:j<ks.length)=>bnds_mem hks (List.getElem_mem hj));have HKD:=h_ (fun j (hj:j<ks.length)=>uds_mem (List.getElem_mem hj));clear h7 hks;subst e1 e2 e3 e4 e5 e6;subst h4;rw[ud] at ho;have hkl:ks.length<=9223372036854775807:=Nat.le_trans h5.1 h5.2;have HS:=h_ h2;have HT:=h_ ht;have IH:=h_ ih;have hdd:uds ks<=d:=by omega
  have AR:∃ r:Int,arW k=r/\((r = -1)\/r=(ks.length:Int)):=by
   refine⟨_,rfl,?_⟩;unfold arW
   split
   ·exact .inl rfl
   rcases ha with ha | ha
   ·exact absurd ha (by assumption)
   exact .inr (by rw[ha])
  obtain⟨r,hr,hr2⟩:=AR;have HR:=h_ hr;clear h2 h3 h5 h6 ih ha ht hr ho;simp only[xv]
  by_cases hk0:k=0
  ·subst hk0;have hr0:r=0:=by rw[<-HR.out];rfl
   have hl0:ks.length=0:=by
    rcases hr2 with e | e
    ·rw[hr0] at e;exact absurd e (by decide)
    rw[hr0] at e;omega
   have hks0:ks=[]:=List.eq_nil_of_length_eq_zero hl0;subst hr0;clear hr2 hl0;subst hks0;clear HK HKS HKD;simp only[lsn];go_enter Tryz.func72,Tryz.ntmps72
   go_wp2_with fail
   refine (arityW_ok 0 0 hk HR.out _ (HT.out.below ((Below.refl _ _).alloc (Nat.le_refl _) _))).mono ?_;rintro e w1 ⟨rfl,rfl⟩;go_wp2_with fail
   refine (isNatW xao xn xc z _ (HS.out.below ((Below.refl _ _).alloc (Nat.le_refl _) _))).mono ?_;rintro e w1 ⟨rfl,hb1⟩
   have hcell:w1.cell? ⟨w.heap.size,5,none⟩=some (.slice xko 0 xkc):=by
    rw[hb1.cell (by simp)];exact cell_of_row _ _ 5 _ _ (0,0) (made_at w _ _ rfl)
   have HB0:=h_ (((Below.refl w.heap.size w).alloc (Nat.le_refl _) _).trans (hb1.mono (by simp)));clear hb1;go_wp2_with fail
   go_loopw [30] (fun i wr=>i=.int .i64 0/\Below w.heap.size w wr) (fun i _=>0)
   case atStart=>exact⟨rfl,HB0.out⟩
   case round =>
    obtain⟨rfl,hb⟩:=hrel;have HB:=h_ hb;clear hb;go_wp2_with fail
    go_ret
    exact⟨rfl,HB.out⟩
  have hkz:(((k:Nat):Int)==0)=false:=by rw[beq_eq_false_iff_ne];omega
  have hne:=arW_ne ks.length;have HB0:=h_ ((Below.refl w.heap.size w).alloc (Nat.le_refl _) (.cells #[.int .i64 (k:Nat),.string ⟨nm.toArray⟩,.string ⟨ot.toArray⟩,.bool false,.slice xao xn xc,.slice xko ks.length xkc,.int .i64 (ln:Nat),.int .i64 (cl:Nat)] 46));rcases hr2 with rfl | rfl
  ·go_enter Tryz.func72,Tryz.ntmps72
   go_wp2_with fail
   refine (arityW_ok k (-1) hk HR.out _ (HT.out.below ((Below.refl _ _).alloc (Nat.le_refl _) _))).mono ?_;rintro e w1 ⟨rfl,rfl⟩;go_wp2_with fail
   go_loopw [30] (fun i wr=>∃ j:Nat,i=.int .i64 (j:Nat)/\j<=ks.length/\Below w.heap.size w wr) (fun i _=>ks.length - (intOf i).toNat)
   case atStart=>exact⟨0,rfl,Nat.zero_le _,HB0.out⟩
   case round =>
    obtain⟨j,rfl,hj,hb⟩:=hrel
    by_cases hlt:j<ks.length
    ·obtain⟨y,hA,hT⟩:=HK.out j hlt;rw[Nat.zero_add] at hA;have hT':=hT.below hb;have hTb:=HT.out.below hb;obtain⟨a,rfl,hc⟩:=hA.keep fun a ha=>hb.block _ (hA.lt a ha)
     obtain⟨c0,c1,c2,c3,c4,c5,c6,c7⟩:=cells8 hc;have HB:=h_ hb;have HTr:=h_ hT';have HTb:=h_ hTb;clear hc hA hT hT' hb hTb;go_wp2_with fail
     refine (IH.out (by omega) y _ _ (HTb.out.below ((Below.refl _ _).alloc (Nat.le_refl _) _)) (HTr.out.below ((Below.refl _ _).alloc (Nat.le_refl _) _)) (HKS.out j hlt) (Nat.le_trans (HKD.out j hlt) hdd)).mono ?_;rintro e w2 ⟨rfl,hb2⟩;have HB2:=h_ hb2;clear hb2 c0 c1 c2 c3 c4 c5 c6 c7;go_wp2_with fail
     go_roundw
     case rel=>exact⟨j+1,by go_num,by omega,(HB.out.alloc HB.out.size _).trans (HB2.out.mono (by have:=HB.out.size;simp;omega))⟩
     case measure=>simp[intOf];omega
    have e:j=ks.length:=by omega
    subst e;have HB:=h_ hb;clear hb;go_wp2_with fail
    go_ret
    exact⟨rfl,HB.out⟩
  go_enter Tryz.func72,Tryz.ntmps72
  go_wp2_with fail
  refine (arityW_ok k _ hk HR.out _ (HT.out.below ((Below.refl _ _).alloc (Nat.le_refl _) _))).mono ?_;rintro e w1 ⟨rfl,rfl⟩;go_wp2_with fail
  go_loopw [30] (fun i wr=>∃ j:Nat,i=.int .i64 (j:Nat)/\j<=ks.length/\Below w.heap.size w wr) (fun i _=>ks.length - (intOf i).toNat)
  case atStart=>exact⟨0,rfl,Nat.zero_le _,HB0.out⟩
  case round =>
   obtain⟨j,rfl,hj,hb⟩:=hrel
   by_cases hlt:j<ks.length
   ·obtain⟨y,hA,hT⟩:=HK.out j hlt;rw[Nat.zero_add] at hA;have hT':=hT.below hb;have hTb:=HT.out.below hb;obtain⟨a,rfl,hc⟩:=hA.keep fun a ha=>hb.block _ (hA.lt a ha)
    obtain⟨c0,c1,c2,c3,c4,c5,c6,c7⟩:=cells8 hc;have HB:=h_ hb;have HTr:=h_ hT';have HTb:=h_ hTb;clear hc hA hT hT' hb hTb;go_wp2_with fail
    refine (IH.out (by omega) y _ _ (HTb.out.below ((Below.refl _ _).alloc (Nat.le_refl _) _)) (HTr.out.below ((Below.refl _ _).alloc (Nat.le_refl _) _)) (HKS.out j hlt) (Nat.le_trans (HKD.out j hlt) hdd)).mono ?_;rintro e w2 ⟨rfl,hb2⟩;have HB2:=h_ hb2;clear hb2 c0 c1 c2 c3 c4 c5 c6 c7;go_wp2_with fail
    go_roundw
    case rel=>exact⟨j+1,by go_num,by omega,(HB.out.alloc HB.out.size _).trans (HB2.out.mono (by have:=HB.out.size;simp;omega))⟩
    case measure=>simp[intOf];omega
   have e:j=ks.length:=by omega
   subst e;have HB:=h_ hb;clear hb;go_wp2_with fail
   go_ret
   exact⟨rfl,HB.out⟩
set_option linter.unusedVariables false
theorem stUs_len (us:List U):(stUs us).length=us.length:=by
 induction us with
 | nil=>rw[stUs];rfl
 | cons u us ih=>rw[stUs,lsc,lsc,ih]
theorem stUs_get:∀ (us:List U) (i:Nat) (h:i<us.length) (h2:i<(stUs us).length),(stUs us)[i]=stU us[i]
 | [],_,h,_=>by cases h
 | u::us,0,_,h2=>by simp only[stUs,List.getElem_cons_zero]
 | u::us,i+1,h,h2=>by
  simp only[stUs,List.getElem_cons_succ];exact stUs_get us i (by simpa using h) (by rw[stUs_len];simpa using h)
theorem stUs_mem {us:List U} {t:T} (h:t ∈ stUs us):∃ i,∃ hi:i<us.length,t=stU us[i]:=by
 obtain⟨i,hi,rfl⟩:=List.getElem_of_mem h;have hi2:i<us.length:=by rwa [stUs_len] at hi
 exact⟨i,hi2,stUs_get us i hi2 hi⟩
theorem Um.tr {w:World} {S:Nat->Prop}:∀ (d:Nat) {x:X} {u:U},ud u<=d->Um w S x u->Tr w (fun _=>True) d x (stU u)
 | 0,_,.node k nm ot z ln cl ks,h,_=>by rw[ud] at h;omega
 | d+1,x,.node k nm ot z ln cl ks,h,hu=>by
  rw[Um] at hu;rw[ud] at h;obtain⟨⟨e1,e2,e3,e4,e5,e6⟩,⟨h2,h3⟩,⟨h4,h5,h6⟩,h7⟩:=hu;rw[stU];refine⟨⟨e1,e2,e3,e4⟩,⟨h2,fun _ _ _=>trivial⟩,⟨by rw[stUs_len];exact h4,h5.1,fun _ _ _=>trivial⟩,fun i hi=>?_⟩;have hi2:i<ks.length:=by rwa [stUs_len] at hi
  obtain⟨y,hA,hY⟩:=ums_get 0 i h7 hi2;rw[Nat.zero_add] at hA;refine⟨y,hA,?_⟩;rw[stUs_get ks i hi2 hi];exact hY.tr d (by have:=uds_mem (List.getElem_mem hi2);omega)
theorem dec_lt {z:Nat} (h:(Lib.decDigits z).length<=300):z<4294967296 ^ 40:=by
 obtain⟨h1,h2,-,-⟩:=dn_dec z;have h3:=dn_lt h1;rw[h2] at h3
 calc z<10 ^ (Lib.decDigits z).length:=h3
  _<=10 ^ (9*34):=Nat.pow_le_pow_right (by decide) (by omega)
  _=(10 ^ 9) ^ 34:=Nat.pow_mul 10 9 34
  _<=4294967296 ^ 34:=Nat.pow_le_pow_left (by decide) 34
  _<=4294967296 ^ 40:=Nat.pow_le_pow_right (by decide) (by decide)
theorem wf_ud:∀ {d:Nat} {u:U},Wf d u->ud u<=d
 | 0,_,h=>by rw[Wf] at h;exact h.elim
 | d+1,.node k nm ot z ln cl ks,h=>by
  rw[Wf] at h;obtain⟨-,-,-,-,-,-,-,-,h⟩:=h;rw[ud]
  have:∀ (us:List U),(∀ u ∈ us,Wf d u)->uds us<=d:=by
   intro us hu
   induction us with
   | nil=>rw[uds];omega
   | cons v us ih=>rw[uds];have:=wf_ud (hu v (by simp));have:=ih (fun q hq=>hu q (by simp[hq]));omega
  have:=this ks h
  omega
theorem og_of {w:World} {S:Nat->Prop}:∀ {d:Nat} {u:U} {x:X},Wf d u->Um w S x u->Og d (stU u)
 | 0,_,_,h,_=>by rw[Wf] at h;exact h.elim
 | d+1,.node k nm ot z ln cl ks,x,h,hu=>by
  rw[Wf] at h;obtain⟨hk,w1,w2,w3,w4,w5,w6,w7,w8⟩:=h;rw[Um] at hu;obtain⟨-,-,⟨h4,h5,-⟩,h7⟩:=hu;rw[stU]
  have hn:nm.length<=40:=by
   by_cases h3:k=3
   ·rcases w2 h3 with rfl | h
    ·decide
    exact h.2.2.2
   by_cases h24:k=24\/k=26\/k=27
   ·exact (w3 h24).2.2.2
   rw[w5 h3 (by omega)];decide
  have ho:ot.length<=40:=by
   by_cases h27:k=27
   ·exact (w4 h27).2.2.2
   rw[w6 h27];decide
  refine⟨hk,⟨fun h3=>?_,hn⟩,ho,dec_lt w1.2,by rw[stUs_len];exact w7,by rw[stUs_len,<-h4];have:=h5.2;unfold maxLen at this;omega,fun t ht=>?_⟩
  ·rcases w2 h3 with rfl | h
   ·decide
   obtain⟨-,⟨c,r,rfl,-⟩,-⟩:=h;rw[lsc];omega
  obtain⟨i,hi,rfl⟩:=stUs_mem ht;obtain⟨y,-,hY⟩:=ums_get 0 i h7 hi;exact og_of (w8 _ (List.getElem_mem hi)) hY
theorem vok_of {w:World} {S:Nat->Prop} {x:X} {u:U} (ht:ArT w) (hu:Um w S x u) (hw:WD u) (hb:Bnd u):VOk w x (stU u):=by
 obtain⟨⟨d,h1⟩,h2⟩:=hw;exact⟨⟨d,hu.tr d (wf_ud h1),og_of h1 hu⟩,fun w' hb'=>right_p 60 (by decide) x u w' S (ht.below hb') (hu.below hb') hb h2⟩
def pmP (u:PmU) (x:X):Pm × Bs × Bs:=(⟨⟨u.nm.toArray⟩,(u.b:Int),u.kn,x,(u.ln:Int),(u.cl:Int)⟩,u.nm,baT u)
theorem pm_of {w:World} {S:Nat->Prop} {x:X} {u:PmU} (ht:ArT w) (hu:Um w S x u.ref) (hw:RfW u) (hb:PmB u):PmOk w (pmP u x).1 (pmP u x).2.1 (pmP u x).2.2:=by
 obtain⟨h1,h2,h3⟩:=hw;refine⟨rfl,trivial,u.b,by omega,rfl,?_⟩
 show (u.kn=false/\baT u=bsW u.b)\/(u.kn=true/\∃ t,VOk w x t/\baT u=bsW u.b++[123]++tx t++[125])
 unfold baT
 by_cases hk:u.kn=true
 ·rw[if_pos hk];refine .inr ⟨hk,stU u.ref,vok_of ht hu (h2 hk) hb.2.2.2.2,?_⟩;rw[List.append_assoc,List.append_assoc,List.append_assoc];rfl
 rw[if_neg hk,List.append_nil];exact .inl ⟨by simpa using hk,rfl⟩
theorem pms_of {w:World} {S:Nat->Prop} {v:Value} {ps:List PmU} (ht:ArT w) (h:PmsAt w S v ps) (hw:∀ p ∈ ps,RfW p) (hb:∀ p ∈ ps,PmB p):∃ ko kc pl,v=.slice ko pl.length kc/\pl.length<=9223372036854775807/\PsAt w ko pl/\pl.map ptxW=ps.map pmT:=by
 obtain⟨qs,hq,ko,kc,hv,h1,h2,h3⟩:=h;refine⟨ko,kc,qs.map (fun q=>pmP q.1 q.2),by rw[List.length_map];exact hv,by rw[List.length_map];have:=h1.1;have:=h1.2;unfold maxLen at this;omega,fun i hi=>?_,?_⟩
 ·rw[List.length_map] at hi;rw[List.getElem_map];obtain⟨a1,a2⟩:=h3 i hi;have hm:qs[i].1 ∈ ps:=by rw[<-hq];exact List.mem_map.2 ⟨_,List.getElem_mem hi,rfl⟩
  exact⟨a1,pm_of ht a2 (hw _ hm) (hb _ hm)⟩
 rw[List.map_map,<-hq,List.map_map];refine List.map_congr_left fun q _=>?_
 rfl
theorem choose_list {α β:Type} {R:α->β->Prop}:∀ (l:List α),(∀ a ∈ l,∃ b,R a b)->∃ m:List β,m.length=l.length/\∀ i (h:i<l.length) (h2:i<m.length),R l[i] m[i]
 | [],_=>⟨[],rfl,fun i h=>by cases h⟩
 | a::l,h=>by
  obtain⟨b,hb⟩:=h a (by simp);obtain⟨m,h1,h2⟩:=choose_list l (fun x hx=>h x (by simp[hx]));refine⟨b::m,by simp[h1],fun i hi hi2=>?_⟩
  cases i with
  | zero=>exact hb
  | succ i=>exact h2 i (by simpa using hi) (by simpa using hi2)
theorem flat_eq {α β:Type} {f:α->Bs} {g:β->Bs}:∀ (l:List α) (m:List β),m.length=l.length->(∀ i (h:i<l.length) (h2:i<m.length),f l[i]=g m[i])->l.flatMap f=m.flatMap g
 | [],[],_,_=>rfl
 | [],b::m,h,_=>by simp at h
 | a::l,[],h,_=>by simp at h
 | a::l,b::m,h,hh=>by
  rw[List.flatMap_cons,List.flatMap_cons,show f a=g b from hh 0 (by simp) (by simp),flat_eq l m (by simpa using h) (fun i h1 h2=>by
   have:=hh (i+1) (by simpa using h1) (by simpa using h2);simp only[List.getElem_cons_succ] at this
   exact this)]
theorem qp_of {w:World} {S:Nat->Prop} {a:Qd} (ht:ArT w) (h:qlE.R w S a) (hw:QlW a.q) (hb:QlB a.q):∃ q:Qp,qc q=qlE.f a/\QOk w q/\qT q=qlT a.q:=by
 obtain⟨h1,h2,h3⟩:=h;obtain⟨hn,⟨p,ps,hps,⟨hv,hp⟩,hA⟩,hl,hwd⟩:=hw
 obtain⟨ko,kc,pl,e,hm,hP,hT⟩:=pms_of ht h3 (fun r hr=>by
  rw[hps] at hr;rcases List.mem_cons.1 hr with rfl | hr
  ·exact hp.rf
  exact (hA r hr).2.rf) hb.2.1
 refine⟨⟨a.q.nm,ko,kc,pl,a.x,stU a.q.body,(a.q.ln:Int),(a.q.cl:Int)⟩,?_,⟨hm,hP,vok_of ht h2 hwd hb.2.2.1⟩,?_⟩
 ·show _=if a.v.oneCell' then qlC a.q a.v a.x else _
  rw[if_pos h1,e];rfl
 show [113,117,97,108,105,102,32]++hdW a.q.nm pl++tx (stU a.q.body)++[10]=_
 unfold hdW qlT hdT;rw[hT]
theorem fp_of {w:World} {S:Nat->Prop} {a:Fd} (ht:ArT w) (h:fnE.R w S a) (hw:FnW a.q) (hb:FnB a.q):∃ q:Fp,fc q=fnE.f a/\FOk w q/\fT q=fnT a.q:=by
 obtain⟨h1,h2,h3,h4⟩:=h;obtain⟨hn,hA,hl,hv,hr,hwd⟩:=hw;obtain⟨ko,kc,pl,e,hm,hP,hT⟩:=pms_of ht h4 (fun r hr=>(hA r hr).2) hb.2.1;refine⟨⟨a.q.nm,ko,kc,pl,(pmP a.q.res a.x).1,(pmP a.q.res a.x).2.1,(pmP a.q.res a.x).2.2,a.y,stU a.q.body,(a.q.ln:Int),(a.q.cl:Int)⟩,?_,⟨hm,hP,pm_of ht h2 hr hb.2.2.1,vok_of ht h3 hwd hb.2.2.2.1⟩,?_⟩
 ·show _=if a.v.oneCell' then fnC a.q a.v a.x a.y else _
  rw[if_pos h1,e];rfl
 show [102,117,110,32]++hdW a.q.nm pl++baT a.q.res++[32,61,32]++tx (stU a.q.body)++[10]=_
 unfold hdW fnT hdT;rw[hT]
theorem print_p (p:PgU) (S:Nat->Prop) (vq vf:Value) (w:World) (ht:Tabs w) (ha:ArT w) (h:ProgAt w S vq vf p) (hw:PgW p) (hb:PgB p) (hlen:(pgT p).length<=1000000) :
  Calls Tryz.prog 8 #[.agg #[vq,vf]] w fun e w'=>e=.returned (.string ⟨(pgT p).toArray⟩)/\Below w.heap.size w w':=by
 obtain⟨qs,fs,e1,e2,⟨qo,qcap,rfl,q1,-,q3⟩,⟨fo,fcap,rfl,f1,-,f3⟩⟩:=h
 obtain⟨ql,hql,hqr⟩:=choose_list (R:=fun a q=>qc q=qlE.f a/\QOk w q/\qT q=qlT a.q) qs (fun a hm=>by
  obtain⟨i,hi,rfl⟩:=List.getElem_of_mem hm;have hm2:qs[i].q ∈ p.qs:=by rw[<-e1];exact List.mem_map.2 ⟨_,hm,rfl⟩
  exact qp_of ha (q3 i hi).2 (hw.1.1 _ hm2) (hb.1 _ hm2))
 obtain⟨fl,hfl,hfr⟩:=choose_list (R:=fun a q=>fc q=fnE.f a/\FOk w q/\fT q=fnT a.q) fs (fun a hm=>by
  obtain⟨i,hi,rfl⟩:=List.getElem_of_mem hm;have hm2:fs[i].q ∈ p.fs:=by rw[<-e2];exact List.mem_map.2 ⟨_,hm,rfl⟩
  exact fp_of ha (f3 i hi).2 (hw.2.1 _ hm2) (hb.2 _ hm2))
 have t1:ql.flatMap qT=p.qs.flatMap qlT:=by
  rw[<-e1,List.flatMap_map];exact flat_eq ql qs hql.symm (fun i h1 h2=>(hqr i h2 h1).2.2)
 have t2:fl.flatMap fT=p.fs.flatMap fnT:=by
  rw[<-e2,List.flatMap_map];exact flat_eq fl fs hfl.symm (fun i h1 h2=>(hfr i h2 h1).2.2)
 have e:pgT p=ql.flatMap qT++fl.flatMap fT:=by rw[t1,t2];rfl
 rw[e] at hlen ⊢;rw[<-hql,<-hfl];refine print_any ql fl qo fo qcap fcap w ht (fun i hi=>?_) (fun i hi=>?_) ?_ ?_ (by rwa [lsa] at hlen)
 ·obtain⟨r1,r2,-⟩:=hqr i (by omega) hi;refine⟨?_,r2⟩;rw[r1];exact (q3 i (by omega)).1
 ·obtain⟨r1,r2,-⟩:=hfr i (by omega) hi;refine⟨?_,r2⟩;rw[r1];exact (f3 i (by omega)).1
 ·rw[hql];have:=q1.1;have:=q1.2;unfold maxLen at this;omega
 rw[hfl];have:=f1.1;have:=f1.2;unfold maxLen at this;omega
theorem AtN.below' {n:Nat} {w w':World} {ko:Option Addr} {i:Nat} {cs:List Value} (h:AtN n w ko i cs) (hb:Below w.heap.size w w'):AtN n w' ko i cs:=by
 obtain⟨a,rfl,h⟩:=h;exact⟨a,rfl,fun j v hv=>by rw[hb.cell (cell_lt (h j v hv))];exact h j v hv⟩
theorem slE (w:World) (ko po:Option Addr) (kc pc N:Nat) (f g:Nat->List Value) (hN:N<=9223372036854775807) (hlf:∀ i,(f i).length=8) (hlg:∀ i,(g i).length=8) (ha:∀ i,i<N->AtN 8 w ko i (f i)) (hb:∀ i,i<N->AtN 8 w po i (g i))
  (hF:∀ w' i,i<N->Below w.heap.size w w'->Calls Tryz.prog 45 #[.agg (f i).toArray,.agg (g i).toArray] w' fun e w2=>e=.returned (.bool true)/\Below w'.heap.size w' w2) :
  Calls Tryz.prog 75 #[.slice ko N kc,.slice po N pc,.func (.func 45) #[] #[]] w fun e w'=>e=.returned (.bool true)/\Below w.heap.size w w':=by
 have hne:(((N:Nat):Int) != ((N:Nat):Int))=false:=bne_self_eq_false _;have HA:=h_ ha;have HB:=h_ hb;have HF:=h_ hF;have HLF:=h_ hlf;have HLG:=h_ hlg;clear ha hb hF hlf hlg;go_enter Tryz.func75,Tryz.ntmps75
 go_wp2_with fail
 clear hne
 go_loopw [15] (fun i wr=>∃ j:Nat,i=.int .i64 (j:Nat)/\j<=N/\Hid (Below w.heap.size w wr)) (fun i _=>N - (intOf i).toNat)
 case atStart=>exact⟨0,rfl,Nat.zero_le _,h_ (Below.refl _ _)⟩
 case round =>
  obtain⟨wL,hwL⟩:∃ q,q=wr:=⟨_,rfl⟩
  subst hwL;obtain⟨j,rfl,hj,HW⟩:=hrel
  by_cases hlt:j<N
  ·obtain⟨a,rfl,hca⟩:=(HA.out j hlt).below' HW.out;obtain⟨b,rfl,hcb⟩:=(HB.out j hlt).below' HW.out;have HCA:=h_ hca;have HCB:=h_ hcb;clear hca hcb;go_wp2_with fail
   refine Rely.region (by kernel_rfl) [[],[],[],[1,2],[1,2,3],[],[],[5,6],[5,6,7],[0,1,2,3,4,5,6,7,8],[0,1,2,3,4,5,6,7,8,9]] [] [] (fun _=>0) 0 9 (by kernel_rfl) (by kernel_rfl) (fun q h=>absurd h (Nat.not_lt_zero q)) (fun q _ h=>absurd h (Nat.not_lt_zero q)) ?_;refine Rely.Chain.det ?_ (by rfl) (fun T xs wr hA=>?_) ?_
   rotate_left 1
   ·have e2:=hA.pre 2 (by kernel_rfl);simp only[gsa,gsc,gsz] at e2;clear hA;refine⟨(by rfl),?_⟩;go_simp<;>(try with_reducible rfl)
   refine Rely.Chain.det ?_ (by rfl) (fun T xs wr hA=>?_) ?_
   rotate_left 1
   ·have e0:=hA.pre 0 (by kernel_rfl);simp only[gsa,gsz] at e0;clear hA;refine⟨(by rfl),?_⟩;go_simp<;>(try with_reducible rfl)
   refine Rely.Chain.det ?_ (by rfl) (fun T xs wr hA=>?_) ?_
   rotate_left 1
   ·have e7:=hA.pre 7 (by kernel_rfl);simp only[gsa,gsc,gsz] at e7;clear hA;refine⟨(by rfl),?_⟩;go_simp<;>(try with_reducible rfl)
   refine Rely.Chain.det ?_ (by rfl) (fun T xs wr hA=>?_) ?_
   rotate_left 1
   ·have e19:=(hA.tm 1 19 (by rfl) (by rfl)).trans (congrArg some (hA.fa 1 (by rfl)))
    (try simp (disch:=first | rfl | decide) only [Rely.mask_in] at e19)
    have e20:=(hA.tm 2 20 (by rfl) (by rfl)).trans (congrArg some (hA.fa 2 (by rfl)))
    (try simp (disch:=first | rfl | decide) only [Rely.mask_in] at e20)
    clear hA;refine⟨(by rfl),?_⟩;go_simp<;>(try with_reducible rfl)
   refine Rely.Chain.grow (fun _ v _=>v=.agg (f j).toArray) (fun _ _ _ _ h _=>h) rfl (by rfl) (fun T xs wr hA=>?_) ?_
   ·have e21:=(hA.tm 3 21 (by rfl) (by rfl)).trans (congrArg some (hA.fa 3 (by rfl)))
    (try simp (disch:=first | rfl | decide) only [Rely.mask_in] at e21)
    have hbw:=undrew (hA.be _ (Nat.le_refl _) (fun q h=>absurd h (Nat.not_lt_zero q)));have hc:=fun q v hv=>(hbw.cell (cell_lt (HCA.out q v hv))).trans (HCA.out q v hv)
    clear hA;refine⟨(by rfl),fun K hK=>?_⟩;refine wp_load_any 46 (.tmp 21) rfl _ (by show T.getD 21 undef=_;rw[Array.getD_eq_getD_getElem?,e21];rfl) (f j) _ hc Tryz.underlying46 rfl (by rw[HLF.out j];kernel_rfl) ?_;exact hK.out _ _ rfl (Below.refl _ _)
   refine Rely.Chain.det ?_ (by rfl) (fun T xs wr hA=>?_) ?_
   rotate_left 1
   ·have e1:=hA.pre 1 (by kernel_rfl);simp only[gsa,gsc,gsz] at e1;clear hA;refine⟨(by rfl),?_⟩;go_simp<;>(try with_reducible rfl)
   refine Rely.Chain.det ?_ (by rfl) (fun T xs wr hA=>?_) ?_
   rotate_left 1
   ·have e7:=hA.pre 7 (by kernel_rfl);simp only[gsa,gsc,gsz] at e7;clear hA;refine⟨(by rfl),?_⟩;go_simp<;>(try with_reducible rfl)
   refine Rely.Chain.det ?_ (by rfl) (fun T xs wr hA=>?_) ?_
   rotate_left 1
   ·have e23:=(hA.tm 5 23 (by rfl) (by rfl)).trans (congrArg some (hA.fa 5 (by rfl)))
    (try simp (disch:=first | rfl | decide) only [Rely.mask_in] at e23)
    have e24:=(hA.tm 6 24 (by rfl) (by rfl)).trans (congrArg some (hA.fa 6 (by rfl)))
    (try simp (disch:=first | rfl | decide) only [Rely.mask_in] at e24)
    clear hA;refine⟨(by rfl),?_⟩;go_simp<;>(try with_reducible rfl)
   refine Rely.Chain.grow (fun _ v _=>v=.agg (g j).toArray) (fun _ _ _ _ h _=>h) rfl (by rfl) (fun T xs wr hA=>?_) ?_
   ·have e25:=(hA.tm 7 25 (by rfl) (by rfl)).trans (congrArg some (hA.fa 7 (by rfl)))
    (try simp (disch:=first | rfl | decide) only [Rely.mask_in] at e25)
    have hbw:=undrew (hA.be _ (Nat.le_refl _) (fun q h=>absurd h (Nat.not_lt_zero q)));have hc:=fun q v hv=>(hbw.cell (cell_lt (HCB.out q v hv))).trans (HCB.out q v hv)
    clear hA;refine⟨(by rfl),fun K hK=>?_⟩;refine wp_load_any 46 (.tmp 25) rfl _ (by show T.getD 25 undef=_;rw[Array.getD_eq_getD_getElem?,e25];rfl) (g j) _ hc Tryz.underlying46 rfl (by rw[HLG.out j];kernel_rfl) ?_;exact hK.out _ _ rfl (Below.refl _ _)
   refine Rely.Chain.done (fun xs wN hL=>?_);obtain⟨⟨hbe,hbl,hkp0⟩,hf,hp,hn⟩:=hL;have f0:xs 0=_:=hf 0 (by decide);have f1:xs 1=_:=hf 1 (by decide);have f2:xs 2=_:=hf 2 (by decide);have f3:xs 3=_:=hf 3 (by decide);have f4:xs 4=.agg (f j).toArray:=hf 4 (by decide);have f5:xs 5=_:=hf 5 (by decide);have f6:xs 6=_:=hf 6 (by decide);have f7:xs 7=_:=hf 7 (by decide);have f8:xs 8=.agg (g j).toArray:=hf 8 (by decide)
   (try simp (disch:=first | rfl | decide) only [Rely.mask_in] at f0 f1 f2 f3 f4 f5 f6 f7 f8)
   have hbx:Below wL.heap.size wL wN:=undrew (hbe _ (Nat.le_refl _) (fun q h=>absurd h (Nat.not_lt_zero q)));clear hbe hbl hkp0 hf hp hn;refine Rely.rest_list (by decide) (by kernel_rfl) ?_;simp only[Rely.fill,List.take_succ_cons,List.take_zero,List.drop_succ_cons,List.drop_zero,List.setIfInBounds_toArray,List.set_cons_zero,List.set_cons_succ,f0,f1,f2,f3,f4,f5,f6,f7,f8];clear f0 f1 f2 f3 f4 f5 f6 f7 f8;have HB2:=h_ (HW.out.trans (hbx.mono HW.out.size));clear hbx;go_wp2_with fail
   refine (HF.out wN j hlt HB2.out).mono ?_;rintro e w3 ⟨rfl,hb3⟩;have HB3:=h_ (HB2.out.trans (hb3.mono HB2.out.size));clear hb3;go_wp2_with fail
   go_roundw
   case rel=>exact⟨j+1,by go_num,hlt,HB3⟩
   case measure=>simp[intOf];omega
  go_wp2_with fail
  go_ret
  exact⟨rfl,HW.out⟩
theorem slP (w:World) (ko po:Option Addr) (kc pc N:Nat) (f g:Nat->List Value) (hN:N<=9223372036854775807) (hlf:∀ i,(f i).length=13) (hlg:∀ i,(g i).length=13) (ha:∀ i,i<N->AtN 13 w ko i (f i)) (hb:∀ i,i<N->AtN 13 w po i (g i))
  (hF:∀ w' i,i<N->Below w.heap.size w w'->Calls Tryz.prog 44 #[.agg (f i).toArray,.agg (g i).toArray] w' fun e w2=>e=.returned (.bool true)/\Below w'.heap.size w' w2) :
  Calls Tryz.prog 43 #[.slice ko N kc,.slice po N pc,.func (.func 44) #[] #[]] w fun e w'=>e=.returned (.bool true)/\Below w.heap.size w w':=by
 have hne:(((N:Nat):Int) != ((N:Nat):Int))=false:=bne_self_eq_false _;have HA:=h_ ha;have HB:=h_ hb;have HF:=h_ hF;have HLF:=h_ hlf;have HLG:=h_ hlg;clear ha hb hF hlf hlg;go_enter Tryz.func43,Tryz.ntmps43
 go_wp2_with fail
 clear hne
 go_loopw [15] (fun i wr=>∃ j:Nat,i=.int .i64 (j:Nat)/\j<=N/\Hid (Below w.heap.size w wr)) (fun i _=>N - (intOf i).toNat)
 case atStart=>exact⟨0,rfl,Nat.zero_le _,h_ (Below.refl _ _)⟩
 case round =>
  obtain⟨wL,hwL⟩:∃ q,q=wr:=⟨_,rfl⟩
  subst hwL;obtain⟨j,rfl,hj,HW⟩:=hrel
  by_cases hlt:j<N
  ·obtain⟨a,rfl,hca⟩:=(HA.out j hlt).below' HW.out;obtain⟨b,rfl,hcb⟩:=(HB.out j hlt).below' HW.out;have HCA:=h_ hca;have HCB:=h_ hcb;clear hca hcb;go_wp2_with fail
   refine Rely.region (by kernel_rfl) [[],[],[],[1,2],[1,2,3],[],[],[5,6],[5,6,7],[0,1,2,3,4,5,6,7,8],[0,1,2,3,4,5,6,7,8,9]] [] [] (fun _=>0) 0 9 (by kernel_rfl) (by kernel_rfl) (fun q h=>absurd h (Nat.not_lt_zero q)) (fun q _ h=>absurd h (Nat.not_lt_zero q)) ?_;refine Rely.Chain.det ?_ (by rfl) (fun T xs wr hA=>?_) ?_
   rotate_left 1
   ·have e2:=hA.pre 2 (by kernel_rfl);simp only[gsa,gsc,gsz] at e2;clear hA;refine⟨(by rfl),?_⟩;go_simp<;>(try with_reducible rfl)
   refine Rely.Chain.det ?_ (by rfl) (fun T xs wr hA=>?_) ?_
   rotate_left 1
   ·have e0:=hA.pre 0 (by kernel_rfl);simp only[gsa,gsz] at e0;clear hA;refine⟨(by rfl),?_⟩;go_simp<;>(try with_reducible rfl)
   refine Rely.Chain.det ?_ (by rfl) (fun T xs wr hA=>?_) ?_
   rotate_left 1
   ·have e7:=hA.pre 7 (by kernel_rfl);simp only[gsa,gsc,gsz] at e7;clear hA;refine⟨(by rfl),?_⟩;go_simp<;>(try with_reducible rfl)
   refine Rely.Chain.det ?_ (by rfl) (fun T xs wr hA=>?_) ?_
   rotate_left 1
   ·have e19:=(hA.tm 1 19 (by rfl) (by rfl)).trans (congrArg some (hA.fa 1 (by rfl)))
    (try simp (disch:=first | rfl | decide) only [Rely.mask_in] at e19)
    have e20:=(hA.tm 2 20 (by rfl) (by rfl)).trans (congrArg some (hA.fa 2 (by rfl)))
    (try simp (disch:=first | rfl | decide) only [Rely.mask_in] at e20)
    clear hA;refine⟨(by rfl),?_⟩;go_simp<;>(try with_reducible rfl)
   refine Rely.Chain.grow (fun _ v _=>v=.agg (f j).toArray) (fun _ _ _ _ h _=>h) rfl (by rfl) (fun T xs wr hA=>?_) ?_
   ·have e21:=(hA.tm 3 21 (by rfl) (by rfl)).trans (congrArg some (hA.fa 3 (by rfl)))
    (try simp (disch:=first | rfl | decide) only [Rely.mask_in] at e21)
    have hbw:=undrew (hA.be _ (Nat.le_refl _) (fun q h=>absurd h (Nat.not_lt_zero q)));have hc:=fun q v hv=>(hbw.cell (cell_lt (HCA.out q v hv))).trans (HCA.out q v hv)
    clear hA;refine⟨(by rfl),fun K hK=>?_⟩;refine wp_load_any 48 (.tmp 21) rfl _ (by show T.getD 21 undef=_;rw[Array.getD_eq_getD_getElem?,e21];rfl) (f j) _ hc Tryz.underlying48 rfl (by rw[HLF.out j];kernel_rfl) ?_;exact hK.out _ _ rfl (Below.refl _ _)
   refine Rely.Chain.det ?_ (by rfl) (fun T xs wr hA=>?_) ?_
   rotate_left 1
   ·have e1:=hA.pre 1 (by kernel_rfl);simp only[gsa,gsc,gsz] at e1;clear hA;refine⟨(by rfl),?_⟩;go_simp<;>(try with_reducible rfl)
   refine Rely.Chain.det ?_ (by rfl) (fun T xs wr hA=>?_) ?_
   rotate_left 1
   ·have e7:=hA.pre 7 (by kernel_rfl);simp only[gsa,gsc,gsz] at e7;clear hA;refine⟨(by rfl),?_⟩;go_simp<;>(try with_reducible rfl)
   refine Rely.Chain.det ?_ (by rfl) (fun T xs wr hA=>?_) ?_
   rotate_left 1
   ·have e23:=(hA.tm 5 23 (by rfl) (by rfl)).trans (congrArg some (hA.fa 5 (by rfl)))
    (try simp (disch:=first | rfl | decide) only [Rely.mask_in] at e23)
    have e24:=(hA.tm 6 24 (by rfl) (by rfl)).trans (congrArg some (hA.fa 6 (by rfl)))
    (try simp (disch:=first | rfl | decide) only [Rely.mask_in] at e24)
    clear hA;refine⟨(by rfl),?_⟩;go_simp<;>(try with_reducible rfl)
   refine Rely.Chain.grow (fun _ v _=>v=.agg (g j).toArray) (fun _ _ _ _ h _=>h) rfl (by rfl) (fun T xs wr hA=>?_) ?_
   ·have e25:=(hA.tm 7 25 (by rfl) (by rfl)).trans (congrArg some (hA.fa 7 (by rfl)))
    (try simp (disch:=first | rfl | decide) only [Rely.mask_in] at e25)
    have hbw:=undrew (hA.be _ (Nat.le_refl _) (fun q h=>absurd h (Nat.not_lt_zero q)));have hc:=fun q v hv=>(hbw.cell (cell_lt (HCB.out q v hv))).trans (HCB.out q v hv)
    clear hA;refine⟨(by rfl),fun K hK=>?_⟩;refine wp_load_any 48 (.tmp 25) rfl _ (by show T.getD 25 undef=_;rw[Array.getD_eq_getD_getElem?,e25];rfl) (g j) _ hc Tryz.underlying48 rfl (by rw[HLG.out j];kernel_rfl) ?_;exact hK.out _ _ rfl (Below.refl _ _)
   refine Rely.Chain.done (fun xs wN hL=>?_);obtain⟨⟨hbe,hbl,hkp0⟩,hf,hp,hn⟩:=hL;have f0:xs 0=_:=hf 0 (by decide);have f1:xs 1=_:=hf 1 (by decide);have f2:xs 2=_:=hf 2 (by decide);have f3:xs 3=_:=hf 3 (by decide);have f4:xs 4=.agg (f j).toArray:=hf 4 (by decide);have f5:xs 5=_:=hf 5 (by decide);have f6:xs 6=_:=hf 6 (by decide);have f7:xs 7=_:=hf 7 (by decide);have f8:xs 8=.agg (g j).toArray:=hf 8 (by decide)
   (try simp (disch:=first | rfl | decide) only [Rely.mask_in] at f0 f1 f2 f3 f4 f5 f6 f7 f8)
   have hbx:Below wL.heap.size wL wN:=undrew (hbe _ (Nat.le_refl _) (fun q h=>absurd h (Nat.not_lt_zero q)));clear hbe hbl hkp0 hf hp hn;refine Rely.rest_list (by decide) (by kernel_rfl) ?_;simp only[Rely.fill,List.take_succ_cons,List.take_zero,List.drop_succ_cons,List.drop_zero,List.setIfInBounds_toArray,List.set_cons_zero,List.set_cons_succ,f0,f1,f2,f3,f4,f5,f6,f7,f8];clear f0 f1 f2 f3 f4 f5 f6 f7 f8;have HB2:=h_ (HW.out.trans (hbx.mono HW.out.size));clear hbx;go_wp2_with fail
   refine (HF.out wN j hlt HB2.out).mono ?_;rintro e w3 ⟨rfl,hb3⟩;have HB3:=h_ (HB2.out.trans (hb3.mono HB2.out.size));clear hb3;go_wp2_with fail
   go_roundw
   case rel=>exact⟨j+1,by go_num,hlt,HB3⟩
   case measure=>simp[intOf];omega
  go_wp2_with fail
  go_ret
  exact⟨rfl,HW.out⟩
theorem slQ (w:World) (ko po:Option Addr) (kc pc N:Nat) (f g:Nat->List Value) (hN:N<=9223372036854775807) (hlf:∀ i,(f i).length=12) (hlg:∀ i,(g i).length=12) (ha:∀ i,i<N->AtN 12 w ko i (f i)) (hb:∀ i,i<N->AtN 12 w po i (g i))
  (hF:∀ w' i,i<N->Below w.heap.size w w'->Calls Tryz.prog 24 #[.agg (f i).toArray,.agg (g i).toArray] w' fun e w2=>e=.returned (.bool true)/\Below w'.heap.size w' w2) :
  Calls Tryz.prog 23 #[.slice ko N kc,.slice po N pc,.func (.func 24) #[] #[]] w fun e w'=>e=.returned (.bool true)/\Below w.heap.size w w':=by
 have hne:(((N:Nat):Int) != ((N:Nat):Int))=false:=bne_self_eq_false _;have HA:=h_ ha;have HB:=h_ hb;have HF:=h_ hF;have HLF:=h_ hlf;have HLG:=h_ hlg;clear ha hb hF hlf hlg;go_enter Tryz.func23,Tryz.ntmps23
 go_wp2_with fail
 clear hne
 go_loopw [15] (fun i wr=>∃ j:Nat,i=.int .i64 (j:Nat)/\j<=N/\Hid (Below w.heap.size w wr)) (fun i _=>N - (intOf i).toNat)
 case atStart=>exact⟨0,rfl,Nat.zero_le _,h_ (Below.refl _ _)⟩
 case round =>
  obtain⟨wL,hwL⟩:∃ q,q=wr:=⟨_,rfl⟩
  subst hwL;obtain⟨j,rfl,hj,HW⟩:=hrel
  by_cases hlt:j<N
  ·obtain⟨a,rfl,hca⟩:=(HA.out j hlt).below' HW.out;obtain⟨b,rfl,hcb⟩:=(HB.out j hlt).below' HW.out;have HCA:=h_ hca;have HCB:=h_ hcb;clear hca hcb;go_wp2_with fail
   refine Rely.region (by kernel_rfl) [[],[],[],[1,2],[1,2,3],[],[],[5,6],[5,6,7],[0,1,2,3,4,5,6,7,8],[0,1,2,3,4,5,6,7,8,9]] [] [] (fun _=>0) 0 9 (by kernel_rfl) (by kernel_rfl) (fun q h=>absurd h (Nat.not_lt_zero q)) (fun q _ h=>absurd h (Nat.not_lt_zero q)) ?_;refine Rely.Chain.det ?_ (by rfl) (fun T xs wr hA=>?_) ?_
   rotate_left 1
   ·have e2:=hA.pre 2 (by kernel_rfl);simp only[gsa,gsc,gsz] at e2;clear hA;refine⟨(by rfl),?_⟩;go_simp<;>(try with_reducible rfl)
   refine Rely.Chain.det ?_ (by rfl) (fun T xs wr hA=>?_) ?_
   rotate_left 1
   ·have e0:=hA.pre 0 (by kernel_rfl);simp only[gsa,gsz] at e0;clear hA;refine⟨(by rfl),?_⟩;go_simp<;>(try with_reducible rfl)
   refine Rely.Chain.det ?_ (by rfl) (fun T xs wr hA=>?_) ?_
   rotate_left 1
   ·have e7:=hA.pre 7 (by kernel_rfl);simp only[gsa,gsc,gsz] at e7;clear hA;refine⟨(by rfl),?_⟩;go_simp<;>(try with_reducible rfl)
   refine Rely.Chain.det ?_ (by rfl) (fun T xs wr hA=>?_) ?_
   rotate_left 1
   ·have e19:=(hA.tm 1 19 (by rfl) (by rfl)).trans (congrArg some (hA.fa 1 (by rfl)))
    (try simp (disch:=first | rfl | decide) only [Rely.mask_in] at e19)
    have e20:=(hA.tm 2 20 (by rfl) (by rfl)).trans (congrArg some (hA.fa 2 (by rfl)))
    (try simp (disch:=first | rfl | decide) only [Rely.mask_in] at e20)
    clear hA;refine⟨(by rfl),?_⟩;go_simp<;>(try with_reducible rfl)
   refine Rely.Chain.grow (fun _ v _=>v=.agg (f j).toArray) (fun _ _ _ _ h _=>h) rfl (by rfl) (fun T xs wr hA=>?_) ?_
   ·have e21:=(hA.tm 3 21 (by rfl) (by rfl)).trans (congrArg some (hA.fa 3 (by rfl)))
    (try simp (disch:=first | rfl | decide) only [Rely.mask_in] at e21)
    have hbw:=undrew (hA.be _ (Nat.le_refl _) (fun q h=>absurd h (Nat.not_lt_zero q)));have hc:=fun q v hv=>(hbw.cell (cell_lt (HCA.out q v hv))).trans (HCA.out q v hv)
    clear hA;refine⟨(by rfl),fun K hK=>?_⟩;refine wp_load_any 69 (.tmp 21) rfl _ (by show T.getD 21 undef=_;rw[Array.getD_eq_getD_getElem?,e21];rfl) (f j) _ hc Tryz.underlying69 rfl (by rw[HLF.out j];kernel_rfl) ?_;exact hK.out _ _ rfl (Below.refl _ _)
   refine Rely.Chain.det ?_ (by rfl) (fun T xs wr hA=>?_) ?_
   rotate_left 1
   ·have e1:=hA.pre 1 (by kernel_rfl);simp only[gsa,gsc,gsz] at e1;clear hA;refine⟨(by rfl),?_⟩;go_simp<;>(try with_reducible rfl)
   refine Rely.Chain.det ?_ (by rfl) (fun T xs wr hA=>?_) ?_
   rotate_left 1
   ·have e7:=hA.pre 7 (by kernel_rfl);simp only[gsa,gsc,gsz] at e7;clear hA;refine⟨(by rfl),?_⟩;go_simp<;>(try with_reducible rfl)
   refine Rely.Chain.det ?_ (by rfl) (fun T xs wr hA=>?_) ?_
   rotate_left 1
   ·have e23:=(hA.tm 5 23 (by rfl) (by rfl)).trans (congrArg some (hA.fa 5 (by rfl)))
    (try simp (disch:=first | rfl | decide) only [Rely.mask_in] at e23)
    have e24:=(hA.tm 6 24 (by rfl) (by rfl)).trans (congrArg some (hA.fa 6 (by rfl)))
    (try simp (disch:=first | rfl | decide) only [Rely.mask_in] at e24)
    clear hA;refine⟨(by rfl),?_⟩;go_simp<;>(try with_reducible rfl)
   refine Rely.Chain.grow (fun _ v _=>v=.agg (g j).toArray) (fun _ _ _ _ h _=>h) rfl (by rfl) (fun T xs wr hA=>?_) ?_
   ·have e25:=(hA.tm 7 25 (by rfl) (by rfl)).trans (congrArg some (hA.fa 7 (by rfl)))
    (try simp (disch:=first | rfl | decide) only [Rely.mask_in] at e25)
    have hbw:=undrew (hA.be _ (Nat.le_refl _) (fun q h=>absurd h (Nat.not_lt_zero q)));have hc:=fun q v hv=>(hbw.cell (cell_lt (HCB.out q v hv))).trans (HCB.out q v hv)
    clear hA;refine⟨(by rfl),fun K hK=>?_⟩;refine wp_load_any 69 (.tmp 25) rfl _ (by show T.getD 25 undef=_;rw[Array.getD_eq_getD_getElem?,e25];rfl) (g j) _ hc Tryz.underlying69 rfl (by rw[HLG.out j];kernel_rfl) ?_;exact hK.out _ _ rfl (Below.refl _ _)
   refine Rely.Chain.done (fun xs wN hL=>?_);obtain⟨⟨hbe,hbl,hkp0⟩,hf,hp,hn⟩:=hL;have f0:xs 0=_:=hf 0 (by decide);have f1:xs 1=_:=hf 1 (by decide);have f2:xs 2=_:=hf 2 (by decide);have f3:xs 3=_:=hf 3 (by decide);have f4:xs 4=.agg (f j).toArray:=hf 4 (by decide);have f5:xs 5=_:=hf 5 (by decide);have f6:xs 6=_:=hf 6 (by decide);have f7:xs 7=_:=hf 7 (by decide);have f8:xs 8=.agg (g j).toArray:=hf 8 (by decide)
   (try simp (disch:=first | rfl | decide) only [Rely.mask_in] at f0 f1 f2 f3 f4 f5 f6 f7 f8)
   have hbx:Below wL.heap.size wL wN:=undrew (hbe _ (Nat.le_refl _) (fun q h=>absurd h (Nat.not_lt_zero q)));clear hbe hbl hkp0 hf hp hn;refine Rely.rest_list (by decide) (by kernel_rfl) ?_;simp only[Rely.fill,List.take_succ_cons,List.take_zero,List.drop_succ_cons,List.drop_zero,List.setIfInBounds_toArray,List.set_cons_zero,List.set_cons_succ,f0,f1,f2,f3,f4,f5,f6,f7,f8];clear f0 f1 f2 f3 f4 f5 f6 f7 f8;have HB2:=h_ (HW.out.trans (hbx.mono HW.out.size));clear hbx;go_wp2_with fail
   refine (HF.out wN j hlt HB2.out).mono ?_;rintro e w3 ⟨rfl,hb3⟩;have HB3:=h_ (HB2.out.trans (hb3.mono HB2.out.size));clear hb3;go_wp2_with fail
   go_roundw
   case rel=>exact⟨j+1,by go_num,hlt,HB3⟩
   case measure=>simp[intOf];omega
  go_wp2_with fail
  go_ret
  exact⟨rfl,HW.out⟩
theorem slF (w:World) (ko po:Option Addr) (kc pc N:Nat) (f g:Nat->List Value) (hN:N<=9223372036854775807) (hlf:∀ i,(f i).length=25) (hlg:∀ i,(g i).length=25) (ha:∀ i,i<N->AtN 25 w ko i (f i)) (hb:∀ i,i<N->AtN 25 w po i (g i))
  (hF:∀ w' i,i<N->Below w.heap.size w w'->Calls Tryz.prog 26 #[.agg (f i).toArray,.agg (g i).toArray] w' fun e w2=>e=.returned (.bool true)/\Below w'.heap.size w' w2) :
  Calls Tryz.prog 25 #[.slice ko N kc,.slice po N pc,.func (.func 26) #[] #[]] w fun e w'=>e=.returned (.bool true)/\Below w.heap.size w w':=by
 have hne:(((N:Nat):Int) != ((N:Nat):Int))=false:=bne_self_eq_false _;have HA:=h_ ha;have HB:=h_ hb;have HF:=h_ hF;have HLF:=h_ hlf;have HLG:=h_ hlg;clear ha hb hF hlf hlg;go_enter Tryz.func25,Tryz.ntmps25
 go_wp2_with fail
 clear hne
 go_loopw [15] (fun i wr=>∃ j:Nat,i=.int .i64 (j:Nat)/\j<=N/\Hid (Below w.heap.size w wr)) (fun i _=>N - (intOf i).toNat)
 case atStart=>exact⟨0,rfl,Nat.zero_le _,h_ (Below.refl _ _)⟩
 case round =>
  obtain⟨wL,hwL⟩:∃ q,q=wr:=⟨_,rfl⟩
  subst hwL;obtain⟨j,rfl,hj,HW⟩:=hrel
  by_cases hlt:j<N
  ·obtain⟨a,rfl,hca⟩:=(HA.out j hlt).below' HW.out;obtain⟨b,rfl,hcb⟩:=(HB.out j hlt).below' HW.out;have HCA:=h_ hca;have HCB:=h_ hcb;clear hca hcb;go_wp2_with fail
   refine Rely.region (by kernel_rfl) [[],[],[],[1,2],[1,2,3],[],[],[5,6],[5,6,7],[0,1,2,3,4,5,6,7,8],[0,1,2,3,4,5,6,7,8,9]] [] [] (fun _=>0) 0 9 (by kernel_rfl) (by kernel_rfl) (fun q h=>absurd h (Nat.not_lt_zero q)) (fun q _ h=>absurd h (Nat.not_lt_zero q)) ?_;refine Rely.Chain.det ?_ (by rfl) (fun T xs wr hA=>?_) ?_
   rotate_left 1
   ·have e2:=hA.pre 2 (by kernel_rfl);simp only[gsa,gsc,gsz] at e2;clear hA;refine⟨(by rfl),?_⟩;go_simp<;>(try with_reducible rfl)
   refine Rely.Chain.det ?_ (by rfl) (fun T xs wr hA=>?_) ?_
   rotate_left 1
   ·have e0:=hA.pre 0 (by kernel_rfl);simp only[gsa,gsz] at e0;clear hA;refine⟨(by rfl),?_⟩;go_simp<;>(try with_reducible rfl)
   refine Rely.Chain.det ?_ (by rfl) (fun T xs wr hA=>?_) ?_
   rotate_left 1
   ·have e7:=hA.pre 7 (by kernel_rfl);simp only[gsa,gsc,gsz] at e7;clear hA;refine⟨(by rfl),?_⟩;go_simp<;>(try with_reducible rfl)
   refine Rely.Chain.det ?_ (by rfl) (fun T xs wr hA=>?_) ?_
   rotate_left 1
   ·have e19:=(hA.tm 1 19 (by rfl) (by rfl)).trans (congrArg some (hA.fa 1 (by rfl)))
    (try simp (disch:=first | rfl | decide) only [Rely.mask_in] at e19)
    have e20:=(hA.tm 2 20 (by rfl) (by rfl)).trans (congrArg some (hA.fa 2 (by rfl)))
    (try simp (disch:=first | rfl | decide) only [Rely.mask_in] at e20)
    clear hA;refine⟨(by rfl),?_⟩;go_simp<;>(try with_reducible rfl)
   refine Rely.Chain.grow (fun _ v _=>v=.agg (f j).toArray) (fun _ _ _ _ h _=>h) rfl (by rfl) (fun T xs wr hA=>?_) ?_
   ·have e21:=(hA.tm 3 21 (by rfl) (by rfl)).trans (congrArg some (hA.fa 3 (by rfl)))
    (try simp (disch:=first | rfl | decide) only [Rely.mask_in] at e21)
    have hbw:=undrew (hA.be _ (Nat.le_refl _) (fun q h=>absurd h (Nat.not_lt_zero q)));have hc:=fun q v hv=>(hbw.cell (cell_lt (HCA.out q v hv))).trans (HCA.out q v hv)
    clear hA;refine⟨(by rfl),fun K hK=>?_⟩;refine wp_load_any 50 (.tmp 21) rfl _ (by show T.getD 21 undef=_;rw[Array.getD_eq_getD_getElem?,e21];rfl) (f j) _ hc Tryz.underlying50 rfl (by rw[HLF.out j];kernel_rfl) ?_;exact hK.out _ _ rfl (Below.refl _ _)
   refine Rely.Chain.det ?_ (by rfl) (fun T xs wr hA=>?_) ?_
   rotate_left 1
   ·have e1:=hA.pre 1 (by kernel_rfl);simp only[gsa,gsc,gsz] at e1;clear hA;refine⟨(by rfl),?_⟩;go_simp<;>(try with_reducible rfl)
   refine Rely.Chain.det ?_ (by rfl) (fun T xs wr hA=>?_) ?_
   rotate_left 1
   ·have e7:=hA.pre 7 (by kernel_rfl);simp only[gsa,gsc,gsz] at e7;clear hA;refine⟨(by rfl),?_⟩;go_simp<;>(try with_reducible rfl)
   refine Rely.Chain.det ?_ (by rfl) (fun T xs wr hA=>?_) ?_
   rotate_left 1
   ·have e23:=(hA.tm 5 23 (by rfl) (by rfl)).trans (congrArg some (hA.fa 5 (by rfl)))
    (try simp (disch:=first | rfl | decide) only [Rely.mask_in] at e23)
    have e24:=(hA.tm 6 24 (by rfl) (by rfl)).trans (congrArg some (hA.fa 6 (by rfl)))
    (try simp (disch:=first | rfl | decide) only [Rely.mask_in] at e24)
    clear hA;refine⟨(by rfl),?_⟩;go_simp<;>(try with_reducible rfl)
   refine Rely.Chain.grow (fun _ v _=>v=.agg (g j).toArray) (fun _ _ _ _ h _=>h) rfl (by rfl) (fun T xs wr hA=>?_) ?_
   ·have e25:=(hA.tm 7 25 (by rfl) (by rfl)).trans (congrArg some (hA.fa 7 (by rfl)))
    (try simp (disch:=first | rfl | decide) only [Rely.mask_in] at e25)
    have hbw:=undrew (hA.be _ (Nat.le_refl _) (fun q h=>absurd h (Nat.not_lt_zero q)));have hc:=fun q v hv=>(hbw.cell (cell_lt (HCB.out q v hv))).trans (HCB.out q v hv)
    clear hA;refine⟨(by rfl),fun K hK=>?_⟩;refine wp_load_any 50 (.tmp 25) rfl _ (by show T.getD 25 undef=_;rw[Array.getD_eq_getD_getElem?,e25];rfl) (g j) _ hc Tryz.underlying50 rfl (by rw[HLG.out j];kernel_rfl) ?_;exact hK.out _ _ rfl (Below.refl _ _)
   refine Rely.Chain.done (fun xs wN hL=>?_);obtain⟨⟨hbe,hbl,hkp0⟩,hf,hp,hn⟩:=hL;have f0:xs 0=_:=hf 0 (by decide);have f1:xs 1=_:=hf 1 (by decide);have f2:xs 2=_:=hf 2 (by decide);have f3:xs 3=_:=hf 3 (by decide);have f4:xs 4=.agg (f j).toArray:=hf 4 (by decide);have f5:xs 5=_:=hf 5 (by decide);have f6:xs 6=_:=hf 6 (by decide);have f7:xs 7=_:=hf 7 (by decide);have f8:xs 8=.agg (g j).toArray:=hf 8 (by decide)
   (try simp (disch:=first | rfl | decide) only [Rely.mask_in] at f0 f1 f2 f3 f4 f5 f6 f7 f8)
   have hbx:Below wL.heap.size wL wN:=undrew (hbe _ (Nat.le_refl _) (fun q h=>absurd h (Nat.not_lt_zero q)));clear hbe hbl hkp0 hf hp hn;refine Rely.rest_list (by decide) (by kernel_rfl) ?_;simp only[Rely.fill,List.take_succ_cons,List.take_zero,List.drop_succ_cons,List.drop_zero,List.setIfInBounds_toArray,List.set_cons_zero,List.set_cons_succ,f0,f1,f2,f3,f4,f5,f6,f7,f8];clear f0 f1 f2 f3 f4 f5 f6 f7 f8;have HB2:=h_ (HW.out.trans (hbx.mono HW.out.size));clear hbx;go_wp2_with fail
   refine (HF.out wN j hlt HB2.out).mono ?_;rintro e w3 ⟨rfl,hb3⟩;have HB3:=h_ (HB2.out.trans (hb3.mono HB2.out.size));clear hb3;go_wp2_with fail
   go_roundw
   case rel=>exact⟨j+1,by go_num,hlt,HB3⟩
   case measure=>simp[intOf];omega
  go_wp2_with fail
  go_ret
  exact⟨rfl,HW.out⟩
theorem fields0 (k:Nat) (nm ot:Bs) (z:Nat) (xao xko yao yko:Option Addr) (xn xc xkn xkc yn yc ykn ykc:Nat) (xln xcl yln ycl:Int) (w:World) (hk:k=0) (h1:Sl w .u32 (.slice xao xn xc) (dig L32 z)) (h2:Sl w .u32 (.slice yao yn yc) (dig L32 z)) (hz:z<L32 ^ 40) :
  Calls Tryz.prog 74 #[.agg #[.int .i64 (k:Nat),.string ⟨nm.toArray⟩,.string ⟨ot.toArray⟩,.bool false,.slice xao xn xc,.slice xko xkn xkc,.int .i64 xln,.int .i64 xcl],.agg #[.int .i64 (k:Nat),.string ⟨nm.toArray⟩,.string ⟨ot.toArray⟩,.bool false,.slice yao yn yc,.slice yko ykn ykc,.int .i64 yln,.int .i64 ycl]] w fun e w'=>e=.returned (.bool true)/\Below w.heap.size w w':=by
 subst hk;have H1:=h_ h1;have H2:=h_ h2;have hsz:sgnZ ((z:Int) - (z:Int))=0:=by rw[Int.sub_self];rfl
 clear h1 h2;go_enter Tryz.func74,Tryz.ntmps74
 go_upto_region 1 with fail
 obtain⟨wa,ka,hw,hkk,hb,hs1,HKa⟩:=newb w #[.int .i64 0,.string ⟨nm.toArray⟩,.string ⟨ot.toArray⟩,.bool false,.slice xao xn xc,.slice xko xkn xkc,.int .i64 xln,.int .i64 xcl] 46;rw[hw,<-hkk];have HB:=h_ hb;have hsA:=hs1;clear hw hkk hb hs1;obtain⟨wb,kb,hw,hkk,hb,hs1,HKb⟩:=newb wa #[.int .i64 0,.string ⟨nm.toArray⟩,.string ⟨ot.toArray⟩,.bool false,.slice yao yn yc,.slice yko ykn ykc,.int .i64 yln,.int .i64 ycl] 46;have hk2:ka+1=kb:=by omega
 rw[hw,hk2];replace HKa:=kB hb HKa;replace HB:=h_ (HB.out.trans (hb.mono HB.out.size));clear hw hkk hb hs1 hk2 hsA;obtain⟨x0,x1,x2,x3,x4,x5,x6,x7⟩:=cl8 HKa.out;obtain⟨y0,y1,y2,y3,y4,y5,y6,y7⟩:=cl8 HKb.out;go_wp2_with fail
 refine (wcmp_any _ _ (z:Int) (z:Int) 40 40 wb ⟨false,_,z,rfl,gn_dig (H1.out.below HB.out) hz,rfl⟩ ⟨false,_,z,rfl,gn_dig (H2.out.below HB.out) hz,rfl⟩ (by decide) (by decide)).mono ?_;rintro e w3 ⟨rfl,hb⟩;have HB3:=bw_ HB hb;rw[hsz];clear hb hsz;clear x0 x1 x2 x3 x4 x5 x6 x7 y0 y1 y2 y3 y4 y5 y6 y7;go_wp2_with fail
 go_ret
 exact⟨rfl,HB3.out⟩
theorem fields3 (k:Nat) (nm ot:Bs) (z:Nat) (xao xko yao yko:Option Addr) (xn xc xkn xkc yn yc ykn ykc:Nat) (xln xcl yln ycl:Int) (w:World) (hk:k=3) :
  Calls Tryz.prog 74 #[.agg #[.int .i64 (k:Nat),.string ⟨nm.toArray⟩,.string ⟨ot.toArray⟩,.bool false,.slice xao xn xc,.slice xko xkn xkc,.int .i64 xln,.int .i64 xcl],.agg #[.int .i64 (k:Nat),.string ⟨nm.toArray⟩,.string ⟨ot.toArray⟩,.bool false,.slice yao yn yc,.slice yko ykn ykc,.int .i64 yln,.int .i64 ycl]] w fun e w'=>e=.returned (.bool true)/\Below w.heap.size w w':=by
 subst hk;go_enter Tryz.func74,Tryz.ntmps74
 go_upto_region 1 with fail
 obtain⟨wa,ka,hw,hkk,hb,hs1,HKa⟩:=newb w #[.int .i64 3,.string ⟨nm.toArray⟩,.string ⟨ot.toArray⟩,.bool false,.slice xao xn xc,.slice xko xkn xkc,.int .i64 xln,.int .i64 xcl] 46;rw[hw,<-hkk];have HB:=h_ hb;have hsA:=hs1;clear hw hkk hb hs1;obtain⟨wb,kb,hw,hkk,hb,hs1,HKb⟩:=newb wa #[.int .i64 3,.string ⟨nm.toArray⟩,.string ⟨ot.toArray⟩,.bool false,.slice yao yn yc,.slice yko ykn ykc,.int .i64 yln,.int .i64 ycl] 46;have hk2:ka+1=kb:=by omega
 rw[hw,hk2];replace HKa:=kB hb HKa;replace HB:=h_ (HB.out.trans (hb.mono HB.out.size));clear hw hkk hb hs1 hk2 hsA;have x0:=cell_at (v:=.int .i64 3) HKa.out 0 rfl;have x1:=cell_at (v:=.string ⟨nm.toArray⟩) HKa.out 1 rfl;have x2:=cell_at (v:=.string ⟨ot.toArray⟩) HKa.out 2 rfl;have y0:=cell_at (v:=.int .i64 3) HKb.out 0 rfl;have y1:=cell_at (v:=.string ⟨nm.toArray⟩) HKb.out 1 rfl;have y2:=cell_at (v:=.string ⟨ot.toArray⟩) HKb.out 2 rfl;go_wp2_with fail
 go_ret
 exact⟨rfl,HB.out⟩
theorem fields24 (k:Nat) (nm ot:Bs) (z:Nat) (xao xko yao yko:Option Addr) (xn xc xkn xkc yn yc ykn ykc:Nat) (xln xcl yln ycl:Int) (w:World) (hk:k=24) :
  Calls Tryz.prog 74 #[.agg #[.int .i64 (k:Nat),.string ⟨nm.toArray⟩,.string ⟨ot.toArray⟩,.bool false,.slice xao xn xc,.slice xko xkn xkc,.int .i64 xln,.int .i64 xcl],.agg #[.int .i64 (k:Nat),.string ⟨nm.toArray⟩,.string ⟨ot.toArray⟩,.bool false,.slice yao yn yc,.slice yko ykn ykc,.int .i64 yln,.int .i64 ycl]] w fun e w'=>e=.returned (.bool true)/\Below w.heap.size w w':=by
 subst hk;go_enter Tryz.func74,Tryz.ntmps74
 go_upto_region 1 with fail
 obtain⟨wa,ka,hw,hkk,hb,hs1,HKa⟩:=newb w #[.int .i64 24,.string ⟨nm.toArray⟩,.string ⟨ot.toArray⟩,.bool false,.slice xao xn xc,.slice xko xkn xkc,.int .i64 xln,.int .i64 xcl] 46;rw[hw,<-hkk];have HB:=h_ hb;have hsA:=hs1;clear hw hkk hb hs1;obtain⟨wb,kb,hw,hkk,hb,hs1,HKb⟩:=newb wa #[.int .i64 24,.string ⟨nm.toArray⟩,.string ⟨ot.toArray⟩,.bool false,.slice yao yn yc,.slice yko ykn ykc,.int .i64 yln,.int .i64 ycl] 46;have hk2:ka+1=kb:=by omega
 rw[hw,hk2];replace HKa:=kB hb HKa;replace HB:=h_ (HB.out.trans (hb.mono HB.out.size));clear hw hkk hb hs1 hk2 hsA;have x0:=cell_at (v:=.int .i64 24) HKa.out 0 rfl;have x1:=cell_at (v:=.string ⟨nm.toArray⟩) HKa.out 1 rfl;have x2:=cell_at (v:=.string ⟨ot.toArray⟩) HKa.out 2 rfl;have y0:=cell_at (v:=.int .i64 24) HKb.out 0 rfl;have y1:=cell_at (v:=.string ⟨nm.toArray⟩) HKb.out 1 rfl;have y2:=cell_at (v:=.string ⟨ot.toArray⟩) HKb.out 2 rfl;go_wp2_with fail
 go_ret
 exact⟨rfl,HB.out⟩
theorem fields26 (k:Nat) (nm ot:Bs) (z:Nat) (xao xko yao yko:Option Addr) (xn xc xkn xkc yn yc ykn ykc:Nat) (xln xcl yln ycl:Int) (w:World) (hk:k=26) :
  Calls Tryz.prog 74 #[.agg #[.int .i64 (k:Nat),.string ⟨nm.toArray⟩,.string ⟨ot.toArray⟩,.bool false,.slice xao xn xc,.slice xko xkn xkc,.int .i64 xln,.int .i64 xcl],.agg #[.int .i64 (k:Nat),.string ⟨nm.toArray⟩,.string ⟨ot.toArray⟩,.bool false,.slice yao yn yc,.slice yko ykn ykc,.int .i64 yln,.int .i64 ycl]] w fun e w'=>e=.returned (.bool true)/\Below w.heap.size w w':=by
 subst hk;go_enter Tryz.func74,Tryz.ntmps74
 go_upto_region 1 with fail
 obtain⟨wa,ka,hw,hkk,hb,hs1,HKa⟩:=newb w #[.int .i64 26,.string ⟨nm.toArray⟩,.string ⟨ot.toArray⟩,.bool false,.slice xao xn xc,.slice xko xkn xkc,.int .i64 xln,.int .i64 xcl] 46;rw[hw,<-hkk];have HB:=h_ hb;have hsA:=hs1;clear hw hkk hb hs1;obtain⟨wb,kb,hw,hkk,hb,hs1,HKb⟩:=newb wa #[.int .i64 26,.string ⟨nm.toArray⟩,.string ⟨ot.toArray⟩,.bool false,.slice yao yn yc,.slice yko ykn ykc,.int .i64 yln,.int .i64 ycl] 46;have hk2:ka+1=kb:=by omega
 rw[hw,hk2];replace HKa:=kB hb HKa;replace HB:=h_ (HB.out.trans (hb.mono HB.out.size));clear hw hkk hb hs1 hk2 hsA;have x0:=cell_at (v:=.int .i64 26) HKa.out 0 rfl;have x1:=cell_at (v:=.string ⟨nm.toArray⟩) HKa.out 1 rfl;have x2:=cell_at (v:=.string ⟨ot.toArray⟩) HKa.out 2 rfl;have y0:=cell_at (v:=.int .i64 26) HKb.out 0 rfl;have y1:=cell_at (v:=.string ⟨nm.toArray⟩) HKb.out 1 rfl;have y2:=cell_at (v:=.string ⟨ot.toArray⟩) HKb.out 2 rfl;go_wp2_with fail
 go_ret
 exact⟨rfl,HB.out⟩
theorem fields27 (k:Nat) (nm ot:Bs) (z:Nat) (xao xko yao yko:Option Addr) (xn xc xkn xkc yn yc ykn ykc:Nat) (xln xcl yln ycl:Int) (w:World) (hk:k=27) :
  Calls Tryz.prog 74 #[.agg #[.int .i64 (k:Nat),.string ⟨nm.toArray⟩,.string ⟨ot.toArray⟩,.bool false,.slice xao xn xc,.slice xko xkn xkc,.int .i64 xln,.int .i64 xcl],.agg #[.int .i64 (k:Nat),.string ⟨nm.toArray⟩,.string ⟨ot.toArray⟩,.bool false,.slice yao yn yc,.slice yko ykn ykc,.int .i64 yln,.int .i64 ycl]] w fun e w'=>e=.returned (.bool true)/\Below w.heap.size w w':=by
 subst hk;go_enter Tryz.func74,Tryz.ntmps74
 go_upto_region 1 with fail
 obtain⟨wa,ka,hw,hkk,hb,hs1,HKa⟩:=newb w #[.int .i64 27,.string ⟨nm.toArray⟩,.string ⟨ot.toArray⟩,.bool false,.slice xao xn xc,.slice xko xkn xkc,.int .i64 xln,.int .i64 xcl] 46;rw[hw,<-hkk];have HB:=h_ hb;have hsA:=hs1;clear hw hkk hb hs1;obtain⟨wb,kb,hw,hkk,hb,hs1,HKb⟩:=newb wa #[.int .i64 27,.string ⟨nm.toArray⟩,.string ⟨ot.toArray⟩,.bool false,.slice yao yn yc,.slice yko ykn ykc,.int .i64 yln,.int .i64 ycl] 46;have hk2:ka+1=kb:=by omega
 rw[hw,hk2];replace HKa:=kB hb HKa;replace HB:=h_ (HB.out.trans (hb.mono HB.out.size));clear hw hkk hb hs1 hk2 hsA;have x0:=cell_at (v:=.int .i64 27) HKa.out 0 rfl;have x1:=cell_at (v:=.string ⟨nm.toArray⟩) HKa.out 1 rfl;have x2:=cell_at (v:=.string ⟨ot.toArray⟩) HKa.out 2 rfl;have y0:=cell_at (v:=.int .i64 27) HKb.out 0 rfl;have y1:=cell_at (v:=.string ⟨nm.toArray⟩) HKb.out 1 rfl;have y2:=cell_at (v:=.string ⟨ot.toArray⟩) HKb.out 2 rfl;go_wp2_with fail
 go_ret
 exact⟨rfl,HB.out⟩
theorem fieldsN (k:Nat) (nm ot:Bs) (z:Nat) (xao xko yao yko:Option Addr) (xn xc xkn xkc yn yc ykn ykc:Nat) (xln xcl yln ycl:Int) (w:World) (h0:k≠0) (h3:k≠3) (h24:k≠24) (h26:k≠26) (h27:k≠27) :
  Calls Tryz.prog 74 #[.agg #[.int .i64 (k:Nat),.string ⟨nm.toArray⟩,.string ⟨ot.toArray⟩,.bool false,.slice xao xn xc,.slice xko xkn xkc,.int .i64 xln,.int .i64 xcl],.agg #[.int .i64 (k:Nat),.string ⟨nm.toArray⟩,.string ⟨ot.toArray⟩,.bool false,.slice yao yn yc,.slice yko ykn ykc,.int .i64 yln,.int .i64 ycl]] w fun e w'=>e=.returned (.bool true)/\Below w.heap.size w w':=by
 have n0:(((k:Nat):Int)==0)=false:=by rw[beq_eq_false_iff_ne];omega
 have n3:(((k:Nat):Int)==3)=false:=by rw[beq_eq_false_iff_ne];omega
 have n24:(((k:Nat):Int)==24)=false:=by rw[beq_eq_false_iff_ne];omega
 have n26:(((k:Nat):Int)==26)=false:=by rw[beq_eq_false_iff_ne];omega
 have n27:(((k:Nat):Int)==27)=false:=by rw[beq_eq_false_iff_ne];omega
 go_enter Tryz.func74,Tryz.ntmps74
 go_upto_region 1 with fail
 obtain⟨wa,ka,hw,hkk,hb,hs1,HKa⟩:=newb w #[.int .i64 (k:Nat),.string ⟨nm.toArray⟩,.string ⟨ot.toArray⟩,.bool false,.slice xao xn xc,.slice xko xkn xkc,.int .i64 xln,.int .i64 xcl] 46;rw[hw,<-hkk];have HB:=h_ hb;have hsA:=hs1;clear hw hkk hb hs1;obtain⟨wb,kb,hw,hkk,hb,hs1,HKb⟩:=newb wa #[.int .i64 (k:Nat),.string ⟨nm.toArray⟩,.string ⟨ot.toArray⟩,.bool false,.slice yao yn yc,.slice yko ykn ykc,.int .i64 yln,.int .i64 ycl] 46;have hk2:ka+1=kb:=by omega
 rw[hw,hk2];replace HKa:=kB hb HKa;replace HB:=h_ (HB.out.trans (hb.mono HB.out.size));clear hw hkk hb hs1 hk2 hsA;have x0:=cell_at (v:=.int .i64 (k:Nat)) HKa.out 0 rfl;have x1:=cell_at (v:=.string ⟨nm.toArray⟩) HKa.out 1 rfl;have x2:=cell_at (v:=.string ⟨ot.toArray⟩) HKa.out 2 rfl;have y0:=cell_at (v:=.int .i64 (k:Nat)) HKb.out 0 rfl;have y1:=cell_at (v:=.string ⟨nm.toArray⟩) HKb.out 1 rfl;have y2:=cell_at (v:=.string ⟨ot.toArray⟩) HKb.out 2 rfl;go_wp2_with fail
 go_ret
 exact⟨rfl,HB.out⟩
theorem fields_p (k:Nat) (nm ot:Bs) (z:Nat) (xao xko yao yko:Option Addr) (xn xc xkn xkc yn yc ykn ykc:Nat) (xln xcl yln ycl:Int) (w:World) (h1:Sl w .u32 (.slice xao xn xc) (dig L32 z)) (h2:Sl w .u32 (.slice yao yn yc) (dig L32 z)) (hz:z<L32 ^ 40) :
  Calls Tryz.prog 74 #[.agg #[.int .i64 (k:Nat),.string ⟨nm.toArray⟩,.string ⟨ot.toArray⟩,.bool false,.slice xao xn xc,.slice xko xkn xkc,.int .i64 xln,.int .i64 xcl],.agg #[.int .i64 (k:Nat),.string ⟨nm.toArray⟩,.string ⟨ot.toArray⟩,.bool false,.slice yao yn yc,.slice yko ykn ykc,.int .i64 yln,.int .i64 ycl]] w fun e w'=>e=.returned (.bool true)/\Below w.heap.size w w':=by
 by_cases h0:k=0
 ·exact fields0 k nm ot z _ _ _ _ _ _ _ _ _ _ _ _ _ _ _ _ w h0 h1 h2 hz
 by_cases h3:k=3
 ·exact fields3 k nm ot z _ _ _ _ _ _ _ _ _ _ _ _ _ _ _ _ w h3
 by_cases h24:k=24
 ·exact fields24 k nm ot z _ _ _ _ _ _ _ _ _ _ _ _ _ _ _ _ w h24
 by_cases h26:k=26
 ·exact fields26 k nm ot z _ _ _ _ _ _ _ _ _ _ _ _ _ _ _ _ w h26
 by_cases h27:k=27
 ·exact fields27 k nm ot z _ _ _ _ _ _ _ _ _ _ _ _ _ _ _ _ w h27
 exact fieldsN k nm ot z _ _ _ _ _ _ _ _ _ _ _ _ _ _ _ _ w h0 h3 h24 h26 h27
theorem xv_xc (y:X):xv y=.agg (xc y).toArray:=rfl
theorem kids_list {w:World} {S:Nat->Prop} {ko:Option Addr} {ks:List U} (h:Ums w S ko 0 ks):∃ m:List X,∀ i,i<ks.length->∃ hi:i<ks.length,At8 w ko i (m.getD i xZ)/\Um w S (m.getD i xZ) ks[i]:=by
 obtain⟨m,h1,h2⟩:=choose_list (R:=fun i y=>i<ks.length->∃ hi:i<ks.length,At8 w ko i y/\Um w S y ks[i]) (List.range ks.length) (fun i hm=>by
  have hi:i<ks.length:=List.mem_range.1 hm;obtain⟨y,a,b⟩:=ums_get 0 i h hi;rw[Nat.zero_add] at a
  exact⟨y,fun _=>⟨hi,a,b⟩⟩)
 refine⟨m,fun i hi=>?_⟩;have hr:i<(List.range ks.length).length:=by rw[List.length_range];exact hi
 have hm:i<m.length:=by omega
 have:=h2 i hr hm;rw[List.getElem_range] at this;rw[List.getD_eq_getElem?_getD,List.getElem?_eq_getElem hm];exact this hi
theorem same_p (d:Nat):∀ (q:Nat) (u v:U) (x y:X) (S S':Nat->Prop) (w:World),ud u<=d->Wf q u->stU v=stU u->Um w S x u->Um w S' y v->Calls Tryz.prog 45 #[xv x,xv y] w fun e w'=>e=.returned (.bool true)/\Below w.heap.size w w':=by
 induction d with
 | zero=>intro q u v x y S S' w hd;obtain⟨k,nm,ot,z,ln,cl,ks⟩:=u;rw[ud] at hd;omega
 | succ d ih =>
  intro q u v x y S S' w hd hq hs hx hy;obtain⟨k,nm,ot,z,ln,cl,ks⟩:=u;obtain⟨k2,nm2,ot2,z2,ln2,cl2,ks2⟩:=v;rw[ud] at hd;rw[stU,stU] at hs;injection hs with e1 e2 e3 e4 e5;subst e1 e2 e3 e4
  match q,hq with
  | 0,hq=>rw[Wf] at hq;exact hq.elim
  | q+1,hq =>
  rw[Wf] at hq;obtain⟨hk,w1,-,-,-,-,-,-,w8⟩:=hq;have hz:z2<L32 ^ 40:=dec_lt w1.2;have hkl:ks2.length=ks.length:=by have:=congrArg List.length e5;rwa [stUs_len,stUs_len] at this
  rw[Um] at hx hy;obtain⟨⟨a1,a2,a3,a4,-,-⟩,⟨a5,-⟩,⟨a6,a7,-⟩,a8⟩:=hx;obtain⟨⟨b1,b2,b3,b4,-,-⟩,⟨b5,-⟩,⟨b6,b7,-⟩,b8⟩:=hy;obtain⟨m,hm⟩:=kids_list a8;obtain⟨m2,hm2⟩:=kids_list b8;rw[hkl] at b6;replace hm2:=fun i (hi:i<ks.length)=>hm2 i (by omega)
  obtain⟨xk,xnm,xot,xb,xao,xn,xc,xko,xkn,xkc,xln,xcl⟩:=x;obtain⟨yk,ynm,yot,yb,yao,yn,yc,yko,ykn,ykc,yln,ycl⟩:=y;simp only at a1 a2 a3 a4 a5 a6 a7 a8 b1 b2 b3 b4 b5 b6 b7 b8 hm hm2;subst a1 a2 a3 a4 a6 b1 b2 b3 b4 b6;have hmax:ks.length<=9223372036854775807:=Nat.le_trans a7.1 a7.2;have HX:=h_ a5;have HY:=h_ b5;have HA:=h_ (fun i (hi:i<ks.length)=>(hm i hi).2.1);have HA2:=h_ (fun i (hi:i<ks.length)=>(hm2 i hi).2.1)
  have HU:Hid (∀ w' i,i<ks.length->Below w.heap.size w w'->Calls Tryz.prog 45 #[.agg (YtkocdbgmckdcpaaGreatDoor.xc (m.getD i xZ)).toArray,.agg (YtkocdbgmckdcpaaGreatDoor.xc (m2.getD i xZ)).toArray] w' fun e w2=>e=.returned (.bool true)/\Below w'.heap.size w' w2):=h_ (fun w' i hi hb=>by
   obtain⟨h1,-,h2⟩:=hm i hi;obtain⟨h3,-,h4⟩:=hm2 i hi;rw[<-xv_xc,<-xv_xc];refine ih q ks[i] ks2[i] _ _ S S' w' (by have:=uds_mem (List.getElem_mem h1);omega) (w8 _ (List.getElem_mem h1)) ?_ (h2.below hb) (h4.below hb);rw[<-stUs_get ks i h1 (by rw[stUs_len];exact h1),<-stUs_get ks2 i (by omega) (by rw[stUs_len];omega)]
   simp only[e5])
  clear a5 b5 a7 b7 a8 b8 hm hm2 e5 ih w8 w1 hkl hd hk;simp only[xv];go_enter Tryz.func45,Tryz.ntmps45
  go_upto_region 1 with fail
  obtain⟨wa,ka,hw,hkk,hb,hs1,HKa⟩:=newb w #[.int .i64 (k2:Nat),.string ⟨nm2.toArray⟩,.string ⟨ot2.toArray⟩,.bool false,.slice xao xn xc,.slice xko ks.length xkc,.int .i64 xln,.int .i64 xcl] 46;rw[hw,<-hkk];have HB:=h_ hb;have hsA:=hs1;clear hw hkk hb hs1;obtain⟨wb,kb,hw,hkk,hb,hs1,HKb⟩:=newb wa #[.int .i64 (k2:Nat),.string ⟨nm2.toArray⟩,.string ⟨ot2.toArray⟩,.bool false,.slice yao yn yc,.slice yko ks.length ykc,.int .i64 yln,.int .i64 ycl] 46;have hk2:ka+1=kb:=by omega
  rw[hw,hk2];replace HKa:=kB hb HKa;replace HB:=h_ (HB.out.trans (hb.mono HB.out.size));clear hw hkk hb hs1 hk2 hsA;obtain⟨x0,x1,x2,x3,x4,x5,x6,x7⟩:=cl8 HKa.out;obtain⟨y0,y1,y2,y3,y4,y5,y6,y7⟩:=cl8 HKb.out;go_wp2_with fail
  refine (fields_p k2 nm2 ot2 z2 _ _ _ _ _ _ _ _ _ _ _ _ _ _ _ _ wb (HX.out.below HB.out) (HY.out.below HB.out) hz).mono ?_;rintro e w3 ⟨rfl,hb⟩;replace HKa:=kB hb HKa;replace HKb:=kB hb HKb;have HB3:=bw_ HB hb;clear hb;clear x0 x1 x2 x3 x4 x5 x6 x7 y0 y1 y2 y3 y4 y5 y6 y7;have x4:=cell_at (v:=.slice xao xn xc) HKa.out 4 rfl;have x5:=cell_at (v:=.slice xko ks.length xkc) HKa.out 5 rfl;have y4:=cell_at (v:=.slice yao yn yc) HKb.out 4 rfl;have y5:=cell_at (v:=.slice yko ks.length ykc) HKb.out 5 rfl;go_wp2_with fail
  refine (slE w3 _ _ _ _ ks.length (fun i=>YtkocdbgmckdcpaaGreatDoor.xc (m.getD i xZ)) (fun i=>YtkocdbgmckdcpaaGreatDoor.xc (m2.getD i xZ)) hmax (fun _=>rfl) (fun _=>rfl) (fun i hi=>((HA.out i hi).keep fun a ha=>HB3.out.block _ ((HA.out i hi).lt a ha))) (fun i hi=>((HA2.out i hi).keep fun a ha=>HB3.out.block _ ((HA2.out i hi).lt a ha))) (fun w' i hi hb=>HU.out w' i hi (HB3.out.trans (hb.mono HB3.out.size)))).mono ?_;rintro e w4 ⟨rfl,hb⟩;have HB4:=bw_ HB3 hb;clear hb;go_wp2_with fail
  go_ret
  exact⟨rfl,HB4.out⟩
theorem same_w {u v:U} {x y:X} {S S':Nat->Prop} {w:World} (hw:WD u) (hs:stU v=stU u) (hx:Um w S x u) (hy:Um w S' y v):Calls Tryz.prog 45 #[xv x,xv y] w fun e w'=>e=.returned (.bool true)/\Below w.heap.size w w':=by
 obtain⟨⟨q,hq⟩,hd⟩:=hw;exact same_p 60 q u v x y S S' w hd hq hs hx hy
theorem params_f (nm:Bs) (b:Nat) (x y:X) (xl xd yl yd:Nat) (w:World) :
  Calls Tryz.prog 44 #[.agg (pmC ⟨nm,b,false,u0,xl,xd⟩ x).toArray,.agg (pmC ⟨nm,b,false,u0,yl,yd⟩ y).toArray] w fun e w'=>e=.returned (.bool true)/\Below w.heap.size w w':=by
 obtain⟨xk,xnm,xot,xb,xao,xn,xc,xko,xkn,xkc,xln,xcl⟩:=x;obtain⟨yk,ynm,yot,yb,yao,yn,yc,yko,ykn,ykc,yln,ycl⟩:=y
 show Calls Tryz.prog 44 #[.agg #[.string ⟨nm.toArray⟩,.int .i64 (b:Nat),.bool false,.int .i64 xk,.string xnm,.string xot,.bool xb,.slice xao xn xc,.slice xko xkn xkc,.int .i64 xln,.int .i64 xcl,.int .i64 (xl:Nat),.int .i64 (xd:Nat)],.agg #[.string ⟨nm.toArray⟩,.int .i64 (b:Nat),.bool false,.int .i64 yk,.string ynm,.string yot,.bool yb,.slice yao yn yc,.slice yko ykn ykc,.int .i64 yln,.int .i64 ycl,.int .i64 (yl:Nat),.int .i64 (yd:Nat)]] w _
 go_enter Tryz.func44,Tryz.ntmps44
 go_upto_region 1 with fail
 obtain⟨wa,ka,hw,hkk,hb,hs1,HKa⟩:=newb w #[.string ⟨nm.toArray⟩,.int .i64 (b:Nat),.bool false,.int .i64 xk,.string xnm,.string xot,.bool xb,.slice xao xn xc,.slice xko xkn xkc,.int .i64 xln,.int .i64 xcl,.int .i64 (xl:Nat),.int .i64 (xd:Nat)] 48;rw[hw,<-hkk];have HB:=h_ hb;have hsA:=hs1;clear hw hkk hb hs1;obtain⟨wb,kb,hw,hkk,hb,hs1,HKb⟩:=newb wa #[.string ⟨nm.toArray⟩,.int .i64 (b:Nat),.bool false,.int .i64 yk,.string ynm,.string yot,.bool yb,.slice yao yn yc,.slice yko ykn ykc,.int .i64 yln,.int .i64 ycl,.int .i64 (yl:Nat),.int .i64 (yd:Nat)] 48;have hk2:ka+1=kb:=by omega
 rw[hw,hk2];replace HKa:=kB hb HKa;replace HB:=h_ (HB.out.trans (hb.mono HB.out.size));clear hw hkk hb hs1 hk2 hsA;have p0:=cell_at (v:=.string ⟨nm.toArray⟩) HKa.out 0 rfl;have p1:=cell_at (v:=.int .i64 (b:Nat)) HKa.out 1 rfl;have p2:=cell_at (v:=.bool false) HKa.out 2 rfl;have q0:=cell_at (v:=.string ⟨nm.toArray⟩) HKb.out 0 rfl;have q1:=cell_at (v:=.int .i64 (b:Nat)) HKb.out 1 rfl;have q2:=cell_at (v:=.bool false) HKb.out 2 rfl;go_wp2_with fail
 go_ret
 exact⟨rfl,HB.out⟩
theorem params_t (nm:Bs) (b:Nat) (x y:X) (xl xd yl yd:Nat) (w:World) (hS:∀ w',Below w.heap.size w w'->Calls Tryz.prog 45 #[xv x,xv y] w' fun e w2=>e=.returned (.bool true)/\Below w'.heap.size w' w2) :
  Calls Tryz.prog 44 #[.agg (pmC ⟨nm,b,true,u0,xl,xd⟩ x).toArray,.agg (pmC ⟨nm,b,true,u0,yl,yd⟩ y).toArray] w fun e w'=>e=.returned (.bool true)/\Below w.heap.size w w':=by
 obtain⟨xk,xnm,xot,xb,xao,xn,xc,xko,xkn,xkc,xln,xcl⟩:=x;obtain⟨yk,ynm,yot,yb,yao,yn,yc,yko,ykn,ykc,yln,ycl⟩:=y;have HS:=h_ hS;clear hS
 show Calls Tryz.prog 44 #[.agg #[.string ⟨nm.toArray⟩,.int .i64 (b:Nat),.bool true,.int .i64 xk,.string xnm,.string xot,.bool xb,.slice xao xn xc,.slice xko xkn xkc,.int .i64 xln,.int .i64 xcl,.int .i64 (xl:Nat),.int .i64 (xd:Nat)],.agg #[.string ⟨nm.toArray⟩,.int .i64 (b:Nat),.bool true,.int .i64 yk,.string ynm,.string yot,.bool yb,.slice yao yn yc,.slice yko ykn ykc,.int .i64 yln,.int .i64 ycl,.int .i64 (yl:Nat),.int .i64 (yd:Nat)]] w _
 go_enter Tryz.func44,Tryz.ntmps44
 go_upto_region 1 with fail
 obtain⟨wa,ka,hw,hkk,hb,hs1,HKa⟩:=newb w #[.string ⟨nm.toArray⟩,.int .i64 (b:Nat),.bool true,.int .i64 xk,.string xnm,.string xot,.bool xb,.slice xao xn xc,.slice xko xkn xkc,.int .i64 xln,.int .i64 xcl,.int .i64 (xl:Nat),.int .i64 (xd:Nat)] 48;rw[hw,<-hkk];have HB:=h_ hb;have hsA:=hs1;clear hw hkk hb hs1;obtain⟨wb,kb,hw,hkk,hb,hs1,HKb⟩:=newb wa #[.string ⟨nm.toArray⟩,.int .i64 (b:Nat),.bool true,.int .i64 yk,.string ynm,.string yot,.bool yb,.slice yao yn yc,.slice yko ykn ykc,.int .i64 yln,.int .i64 ycl,.int .i64 (yl:Nat),.int .i64 (yd:Nat)] 48;have hk2:ka+1=kb:=by omega
 rw[hw,hk2];replace HKa:=kB hb HKa;replace HB:=h_ (HB.out.trans (hb.mono HB.out.size));clear hw hkk hb hs1 hk2 hsA;obtain⟨p0,p1,p2,p3,p4,p5,p6,p7,p8,p9,p10,p11,p12⟩:=cl13 HKa.out;obtain⟨q0,q1,q2,q3,q4,q5,q6,q7,q8,q9,q10,q11,q12⟩:=cl13 HKb.out;go_wp2_with fail
 refine (HS.out wb HB.out).mono ?_;rintro e w3 ⟨rfl,hb⟩;replace HKa:=kB hb HKa;replace HKb:=kB hb HKb;replace HB:=h_ (HB.out.trans (hb.mono HB.out.size));clear hb;clear p0 p1 p2 p3 p4 p5 p6 p7 p8 p9 p10 p11 p12 q0 q1 q2 q3 q4 q5 q6 q7 q8 q9 q10 q11 q12;go_wp2_with fail
 go_ret
 exact⟨rfl,HB.out⟩
theorem sameParams_p {p p':PmU} {x y:X} {S S':Nat->Prop} {w:World} (hw:RfW p) (hs:stPm p'=stPm p) (hx:Um w S x p.ref) (hy:Um w S' y p'.ref):Calls Tryz.prog 44 #[.agg (pmC p x).toArray,.agg (pmC p' y).toArray] w fun e w'=>e=.returned (.bool true)/\Below w.heap.size w w':=by
 obtain⟨nm,b,kn,r,xl,xd⟩:=p;obtain⟨nm2,b2,kn2,r2,yl,yd⟩:=p';obtain⟨h1,h2,h3⟩:=hw;injection hs with e1 hs;injection hs with e2 hs;injection hs with e3 e4;simp only at e1 e2 e3 e4 h1 h2 h3 hx hy;subst e1 e2 e3
 cases kn2 with
 | false=>exact params_f nm2 b2 x y xl xd yl yd w
 | true=>exact params_t nm2 b2 x y xl xd yl yd w (fun w' hb=>same_w (h2 rfl) e4 (hx.below hb) (hy.below hb))
theorem pms_two {w:World} {S S':Nat->Prop} {v v':Value} {ps ps':List PmU} (h:PmsAt w S v ps) (h':PmsAt w S' v' ps') (hs:ps'.map stPm=ps.map stPm) (hw:∀ p ∈ ps,RfW p):∃ n ko kc po pc,v=.slice ko n kc/\v'=.slice po n pc/\∀ w',Below w.heap.size w w'->Calls Tryz.prog 43 #[.slice ko n kc,.slice po n pc,.func (.func 44) #[] #[]] w' fun e w2=>e=.returned (.bool true)/\Below w'.heap.size w' w2:=by
 obtain⟨qs,hq,ko,kc,rfl,h1,-,h3⟩:=h;obtain⟨qs',hq',po,pc,rfl,-,-,h3'⟩:=h';have hl:qs'.length=qs.length:=by have:=congrArg List.length hs;rw[<-hq,<-hq'] at this;simpa using this
 rw[hl];refine⟨_,ko,kc,po,pc,rfl,rfl,fun w' hb=>?_⟩;have hg:∀ i (hi:i<qs.length),qs.getD i (typ [] tk0 0,xZ)=qs[i]:=fun i hi=>by rw[List.getD_eq_getElem?_getD,List.getElem?_eq_getElem hi];rfl
 have hg':∀ i (hi:i<qs.length),qs'.getD i (typ [] tk0 0,xZ)=qs'[i]'(by omega):=fun i hi=>by rw[List.getD_eq_getElem?_getD,List.getElem?_eq_getElem (by omega)];rfl
 refine slP w' ko po kc pc qs.length (fun i=>pmC (qs.getD i (typ [] tk0 0,xZ)).1 (qs.getD i (typ [] tk0 0,xZ)).2) (fun i=>pmC (qs'.getD i (typ [] tk0 0,xZ)).1 (qs'.getD i (typ [] tk0 0,xZ)).2) (Nat.le_trans h1.1 h1.2) (fun _=>rfl) (fun _=>rfl) (fun i hi=>?_) (fun i hi=>?_) (fun w2 i hi hb2=>?_)
 ·rw[hg i hi];exact (h3 i hi).1.below' hb
 ·rw[hg' i hi];exact (h3' i (by omega)).1.below' hb
 rw[hg i hi,hg' i hi];have hm:qs[i].1 ∈ ps:=by rw[<-hq];exact List.mem_map.2 ⟨_,List.getElem_mem hi,rfl⟩
 have he:stPm (qs'[i]'(by omega)).1=stPm qs[i].1:=by
  have:=congrArg (fun l=>l[i]?) hs;simp only[<-hq,<-hq',List.getElem?_map,List.getElem?_eq_getElem hi,List.getElem?_eq_getElem (show i<qs'.length by omega),Option.map_some,Option.some.injEq] at this;exact this
 have hbb:=hb.trans (hb2.mono hb.size);exact sameParams_p (hw _ hm) he (((h3 i hi).2:Um w S _ _).below hbb) (((h3' i (by omega)).2:Um w S' _ _).below hbb)
theorem quals_two (nm:Bs) (np:Nat) (xpo ypo:Option Addr) (xpc ypc:Nat) (x y:X) (xl xd yl yd:Nat) (w:World) (hP:∀ w',Below w.heap.size w w'->Calls Tryz.prog 43 #[.slice xpo np xpc,.slice ypo np ypc,.func (.func 44) #[] #[]] w' fun e w2=>e=.returned (.bool true)/\Below w'.heap.size w' w2) (hS:∀ w',Below w.heap.size w w'->Calls Tryz.prog 45 #[xv x,xv y] w' fun e w2=>e=.returned (.bool true)/\Below w'.heap.size w' w2) :
  Calls Tryz.prog 24 #[.agg #[.string ⟨nm.toArray⟩,.slice xpo np xpc,.int .i64 x.k,.string x.nm,.string x.ot,.bool x.b,.slice x.ao x.n x.c,.slice x.ko x.kn x.kc,.int .i64 x.ln,.int .i64 x.cl,.int .i64 (xl:Nat),.int .i64 (xd:Nat)],.agg #[.string ⟨nm.toArray⟩,.slice ypo np ypc,.int .i64 y.k,.string y.nm,.string y.ot,.bool y.b,.slice y.ao y.n y.c,.slice y.ko y.kn y.kc,.int .i64 y.ln,.int .i64 y.cl,.int .i64 (yl:Nat),.int .i64 (yd:Nat)]] w fun e w'=>e=.returned (.bool true)/\Below w.heap.size w w':=by
 obtain⟨xk,xnm,xot,xb,xao,xn,xc,xko,xkn,xkc,xln,xcl⟩:=x;obtain⟨yk,ynm,yot,yb,yao,yn,yc,yko,ykn,ykc,yln,ycl⟩:=y;have HS:=h_ hS;have HP:=h_ hP;clear hS hP;simp only;go_enter Tryz.func24,Tryz.ntmps24
 go_upto_region 1 with fail
 obtain⟨wa,ka,hw,hkk,hb,hs1,HKa⟩:=newb w #[.string ⟨nm.toArray⟩,.slice xpo np xpc,.int .i64 xk,.string xnm,.string xot,.bool xb,.slice xao xn xc,.slice xko xkn xkc,.int .i64 xln,.int .i64 xcl,.int .i64 (xl:Nat),.int .i64 (xd:Nat)] 69;rw[hw,<-hkk];have HB:=h_ hb;have hsA:=hs1;clear hw hkk hb hs1;obtain⟨wb,kb,hw,hkk,hb,hs1,HKb⟩:=newb wa #[.string ⟨nm.toArray⟩,.slice ypo np ypc,.int .i64 yk,.string ynm,.string yot,.bool yb,.slice yao yn yc,.slice yko ykn ykc,.int .i64 yln,.int .i64 ycl,.int .i64 (yl:Nat),.int .i64 (yd:Nat)] 69;have hk2:ka+1=kb:=by omega
 rw[hw,hk2];replace HKa:=kB hb HKa;replace HB:=h_ (HB.out.trans (hb.mono HB.out.size));clear hw hkk hb hs1 hk2 hsA;have p0:=cell_at (v:=.string ⟨nm.toArray⟩) HKa.out 0 rfl;have p1:=cell_at (v:=.slice xpo np xpc) HKa.out 1 rfl;have q0:=cell_at (v:=.string ⟨nm.toArray⟩) HKb.out 0 rfl;have q1:=cell_at (v:=.slice ypo np ypc) HKb.out 1 rfl;go_wp2_with fail
 refine (HP.out wb HB.out).mono ?_;rintro e w3 ⟨rfl,hb⟩;replace HKa:=kB hb HKa;replace HKb:=kB hb HKb;replace HB:=h_ (HB.out.trans (hb.mono HB.out.size));clear hb;clear p0 p1 q0 q1;have p2:=cell_at (v:=.int .i64 xk) HKa.out 2 rfl;have p3:=cell_at (v:=.string xnm) HKa.out 3 rfl;have p4:=cell_at (v:=.string xot) HKa.out 4 rfl;have p5:=cell_at (v:=.bool xb) HKa.out 5 rfl;have p6:=cell_at (v:=.slice xao xn xc) HKa.out 6 rfl;have p7:=cell_at (v:=.slice xko xkn xkc) HKa.out 7 rfl;have p8:=cell_at (v:=.int .i64 xln) HKa.out 8 rfl;have p9:=cell_at (v:=.int .i64 xcl) HKa.out 9 rfl;have q2:=cell_at (v:=.int .i64 yk) HKb.out 2 rfl;have q3:=cell_at (v:=.string ynm) HKb.out 3 rfl;have q4:=cell_at (v:=.string yot) HKb.out 4 rfl;have q5:=cell_at (v:=.bool yb) HKb.out 5 rfl;have q6:=cell_at (v:=.slice yao yn yc) HKb.out 6 rfl
 have q7:=cell_at (v:=.slice yko ykn ykc) HKb.out 7 rfl;have q8:=cell_at (v:=.int .i64 yln) HKb.out 8 rfl;have q9:=cell_at (v:=.int .i64 ycl) HKb.out 9 rfl;go_wp2_with fail
 refine (HS.out w3 HB.out).mono ?_;rintro e w4 ⟨rfl,hb⟩;replace HKa:=kB hb HKa;replace HKb:=kB hb HKb;replace HB:=h_ (HB.out.trans (hb.mono HB.out.size));clear hb;clear p2 p3 p4 p5 p6 p7 p8 p9 q2 q3 q4 q5 q6 q7 q8 q9;go_wp2_with fail
 go_ret
 exact⟨rfl,HB.out⟩
theorem sameQuals_p {a b:Qd} {S S':Nat->Prop} {w:World} (hw:QlW a.q) (hs:stQl b.q=stQl a.q) (ha:qlE.R w S a) (hb:qlE.R w S' b):Calls Tryz.prog 24 #[.agg (qlE.f a).toArray,.agg (qlE.f b).toArray] w fun e w'=>e=.returned (.bool true)/\Below w.heap.size w w':=by
 obtain⟨⟨nm,ps,body,xl,xd⟩,v,x⟩:=a;obtain⟨⟨nm2,ps2,body2,yl,yd⟩,v2,y⟩:=b;obtain⟨a1,a2,a3⟩:=ha;obtain⟨b1,b2,b3⟩:=hb;obtain⟨hn,⟨p,pl,hps,⟨hv,hp⟩,hA⟩,hl,hwd⟩:=hw;simp only at a1 a2 a3 b1 b2 b3 hps hwd;injection hs with e1 hs;injection hs with e2 e3;simp only at e1 e2 e3;subst e1
 obtain⟨np,xpo,xpc,ypo,ypc,rfl,rfl,hP⟩:=pms_two a3 b3 e2 (fun r hr=>by
  rw[hps] at hr;rcases List.mem_cons.1 hr with rfl | hr
  ·exact hp.rf
  exact (hA r hr).2.rf)
 exact quals_two nm2 np xpo ypo xpc ypc x y xl xd yl yd w hP (fun w' hb=>same_w hwd e3 (a2.below hb) (b2.below hb))
theorem funs_two (nm rn:Bs) (np rb:Nat) (rk:Bool) (xpo ypo:Option Addr) (xpc ypc:Nat) (x y xr yr:X) (xrl xrd yrl yrd xl xd yl yd:Nat) (w:World) (hP:∀ w',Below w.heap.size w w'->Calls Tryz.prog 43 #[.slice xpo np xpc,.slice ypo np ypc,.func (.func 44) #[] #[]] w' fun e w2=>e=.returned (.bool true)/\Below w'.heap.size w' w2) (hR:∀ w',Below w.heap.size w w'->Calls Tryz.prog 44 #[.agg (pmC ⟨rn,rb,rk,u0,xrl,xrd⟩ xr).toArray,.agg (pmC ⟨rn,rb,rk,u0,yrl,yrd⟩ yr).toArray] w' fun e w2=>e=.returned (.bool true)/\Below w'.heap.size w' w2) (hS:∀ w',Below w.heap.size w w'->Calls Tryz.prog 45 #[xv x,xv y] w' fun e w2=>e=.returned (.bool true)/\Below w'.heap.size w' w2) :
  Calls Tryz.prog 26 #[.agg #[.string ⟨nm.toArray⟩,.slice xpo np xpc,.string ⟨rn.toArray⟩,.int .i64 (rb:Nat),.bool rk,.int .i64 xr.k,.string xr.nm,.string xr.ot,.bool xr.b,.slice xr.ao xr.n xr.c,.slice xr.ko xr.kn xr.kc,.int .i64 xr.ln,.int .i64 xr.cl,.int .i64 (xrl:Nat),.int .i64 (xrd:Nat),.int .i64 x.k,.string x.nm,.string x.ot,.bool x.b,.slice x.ao x.n x.c,.slice x.ko x.kn x.kc,.int .i64 x.ln,.int .i64 x.cl,.int .i64 (xl:Nat),.int .i64 (xd:Nat)],.agg #[.string ⟨nm.toArray⟩,.slice ypo np ypc,.string ⟨rn.toArray⟩,.int .i64 (rb:Nat),.bool rk,.int .i64 yr.k,.string yr.nm,.string yr.ot,.bool yr.b,.slice yr.ao yr.n yr.c,.slice yr.ko yr.kn yr.kc,.int .i64 yr.ln,.int .i64 yr.cl,.int .i64 (yrl:Nat),.int .i64 (yrd:Nat),.int .i64 y.k,.string y.nm,.string y.ot,.bool y.b,.slice y.ao y.n y.c,.slice y.ko y.kn y.kc,.int .i64 y.ln,.int .i64 y.cl,.int .i64 (yl:Nat),.int .i64 (yd:Nat)]] w fun e w'=>e=.returned (.bool true)/\Below w.heap.size w w':=by
 obtain⟨xk,xnm,xot,xb,xao,xn,xc,xko,xkn,xkc,xln,xcl⟩:=x;obtain⟨yk,ynm,yot,yb,yao,yn,yc,yko,ykn,ykc,yln,ycl⟩:=y;obtain⟨xrk,xrnm,xrot,xrb,xrao,xrn,xrc,xrko,xrkn,xrkc,xrln,xrcl⟩:=xr;obtain⟨yrk,yrnm,yrot,yrb,yrao,yrn,yrc,yrko,yrkn,yrkc,yrln,yrcl⟩:=yr;have HS:=h_ hS;have HP:=h_ hP;have HR:=h_ hR;clear hS hP hR;simp only;go_enter Tryz.func26,Tryz.ntmps26
 go_upto_region 1 with fail
 obtain⟨wa,ka,hw,hkk,hb,hs1,HKa⟩:=newb w #[.string ⟨nm.toArray⟩,.slice xpo np xpc,.string ⟨rn.toArray⟩,.int .i64 (rb:Nat),.bool rk,.int .i64 xrk,.string xrnm,.string xrot,.bool xrb,.slice xrao xrn xrc,.slice xrko xrkn xrkc,.int .i64 xrln,.int .i64 xrcl,.int .i64 (xrl:Nat),.int .i64 (xrd:Nat),.int .i64 xk,.string xnm,.string xot,.bool xb,.slice xao xn xc,.slice xko xkn xkc,.int .i64 xln,.int .i64 xcl,.int .i64 (xl:Nat),.int .i64 (xd:Nat)] 50;rw[hw,<-hkk];have HB:=h_ hb;have hsA:=hs1;clear hw hkk hb hs1
 obtain⟨wb,kb,hw,hkk,hb,hs1,HKb⟩:=newb wa #[.string ⟨nm.toArray⟩,.slice ypo np ypc,.string ⟨rn.toArray⟩,.int .i64 (rb:Nat),.bool rk,.int .i64 yrk,.string yrnm,.string yrot,.bool yrb,.slice yrao yrn yrc,.slice yrko yrkn yrkc,.int .i64 yrln,.int .i64 yrcl,.int .i64 (yrl:Nat),.int .i64 (yrd:Nat),.int .i64 yk,.string ynm,.string yot,.bool yb,.slice yao yn yc,.slice yko ykn ykc,.int .i64 yln,.int .i64 ycl,.int .i64 (yl:Nat),.int .i64 (yd:Nat)] 50;have hk2:ka+1=kb:=by omega
 rw[hw,hk2];replace HKa:=kB hb HKa;replace HB:=h_ (HB.out.trans (hb.mono HB.out.size));clear hw hkk hb hs1 hk2 hsA;have p0:=cell_at (v:=.string ⟨nm.toArray⟩) HKa.out 0 rfl;have p1:=cell_at (v:=.slice xpo np xpc) HKa.out 1 rfl;have q0:=cell_at (v:=.string ⟨nm.toArray⟩) HKb.out 0 rfl;have q1:=cell_at (v:=.slice ypo np ypc) HKb.out 1 rfl;go_wp2_with fail
 refine (HP.out wb HB.out).mono ?_;rintro e w3 ⟨rfl,hb⟩;replace HKa:=kB hb HKa;replace HKb:=kB hb HKb;replace HB:=h_ (HB.out.trans (hb.mono HB.out.size));clear hb;clear p0 p1 q0 q1;have p2:=cell_at (v:=.string ⟨rn.toArray⟩) HKa.out 2 rfl;have p3:=cell_at (v:=.int .i64 (rb:Nat)) HKa.out 3 rfl;have p4:=cell_at (v:=.bool rk) HKa.out 4 rfl;have p5:=cell_at (v:=.int .i64 xrk) HKa.out 5 rfl;have p6:=cell_at (v:=.string xrnm) HKa.out 6 rfl;have p7:=cell_at (v:=.string xrot) HKa.out 7 rfl;have p8:=cell_at (v:=.bool xrb) HKa.out 8 rfl;have p9:=cell_at (v:=.slice xrao xrn xrc) HKa.out 9 rfl;have p10:=cell_at (v:=.slice xrko xrkn xrkc) HKa.out 10 rfl;have p11:=cell_at (v:=.int .i64 xrln) HKa.out 11 rfl;have p12:=cell_at (v:=.int .i64 xrcl) HKa.out 12 rfl;have p13:=cell_at (v:=.int .i64 (xrl:Nat)) HKa.out 13 rfl
 have p14:=cell_at (v:=.int .i64 (xrd:Nat)) HKa.out 14 rfl;have q2:=cell_at (v:=.string ⟨rn.toArray⟩) HKb.out 2 rfl;have q3:=cell_at (v:=.int .i64 (rb:Nat)) HKb.out 3 rfl;have q4:=cell_at (v:=.bool rk) HKb.out 4 rfl;have q5:=cell_at (v:=.int .i64 yrk) HKb.out 5 rfl;have q6:=cell_at (v:=.string yrnm) HKb.out 6 rfl;have q7:=cell_at (v:=.string yrot) HKb.out 7 rfl;have q8:=cell_at (v:=.bool yrb) HKb.out 8 rfl;have q9:=cell_at (v:=.slice yrao yrn yrc) HKb.out 9 rfl;have q10:=cell_at (v:=.slice yrko yrkn yrkc) HKb.out 10 rfl;have q11:=cell_at (v:=.int .i64 yrln) HKb.out 11 rfl;have q12:=cell_at (v:=.int .i64 yrcl) HKb.out 12 rfl;have q13:=cell_at (v:=.int .i64 (yrl:Nat)) HKb.out 13 rfl;have q14:=cell_at (v:=.int .i64 (yrd:Nat)) HKb.out 14 rfl;go_wp2_with fail
 refine (HR.out w3 HB.out).mono ?_;rintro e w4 ⟨rfl,hb⟩;replace HKa:=kB hb HKa;replace HKb:=kB hb HKb;replace HB:=h_ (HB.out.trans (hb.mono HB.out.size));clear hb;clear p2 p3 p4 p5 p6 p7 p8 p9 p10 p11 p12 p13 p14 q2 q3 q4 q5 q6 q7 q8 q9 q10 q11 q12 q13 q14;have p15:=cell_at (v:=.int .i64 xk) HKa.out 15 rfl;have p16:=cell_at (v:=.string xnm) HKa.out 16 rfl;have p17:=cell_at (v:=.string xot) HKa.out 17 rfl;have p18:=cell_at (v:=.bool xb) HKa.out 18 rfl;have p19:=cell_at (v:=.slice xao xn xc) HKa.out 19 rfl;have p20:=cell_at (v:=.slice xko xkn xkc) HKa.out 20 rfl;have p21:=cell_at (v:=.int .i64 xln) HKa.out 21 rfl;have p22:=cell_at (v:=.int .i64 xcl) HKa.out 22 rfl;have q15:=cell_at (v:=.int .i64 yk) HKb.out 15 rfl;have q16:=cell_at (v:=.string ynm) HKb.out 16 rfl;have q17:=cell_at (v:=.string yot) HKb.out 17 rfl
 have q18:=cell_at (v:=.bool yb) HKb.out 18 rfl;have q19:=cell_at (v:=.slice yao yn yc) HKb.out 19 rfl;have q20:=cell_at (v:=.slice yko ykn ykc) HKb.out 20 rfl;have q21:=cell_at (v:=.int .i64 yln) HKb.out 21 rfl;have q22:=cell_at (v:=.int .i64 ycl) HKb.out 22 rfl;go_wp2_with fail
 refine (HS.out w4 HB.out).mono ?_;rintro e w5 ⟨rfl,hb⟩;replace HKa:=kB hb HKa;replace HKb:=kB hb HKb;replace HB:=h_ (HB.out.trans (hb.mono HB.out.size));clear hb;clear p15 p16 p17 p18 p19 p20 p21 p22 q15 q16 q17 q18 q19 q20 q21 q22;go_wp2_with fail
 go_ret
 exact⟨rfl,HB.out⟩
theorem sameFuns_p {a b:Fd} {S S':Nat->Prop} {w:World} (hw:FnW a.q) (hs:stFn b.q=stFn a.q) (ha:fnE.R w S a) (hb:fnE.R w S' b):Calls Tryz.prog 26 #[.agg (fnE.f a).toArray,.agg (fnE.f b).toArray] w fun e w'=>e=.returned (.bool true)/\Below w.heap.size w w':=by
 obtain⟨⟨nm,ps,⟨rn,rb,rk,rr,xrl,xrd⟩,body,xl,xd⟩,v,xr,x⟩:=a;obtain⟨⟨nm2,ps2,⟨rn2,rb2,rk2,rr2,yrl,yrd⟩,body2,yl,yd⟩,v2,yr,y⟩:=b;obtain⟨a1,a2,a4,a3⟩:=ha;obtain⟨b1,b2,b4,b3⟩:=hb;obtain⟨hn,hA,hl,hv,hr,hwd⟩:=hw;simp only at a1 a2 a3 a4 b1 b2 b3 b4 hA hr hwd;injection hs with e1 hs;injection hs with e2 hs;injection hs with e3 e4;simp only at e1 e2 e3 e4;have e3':=e3;injection e3' with f1 e3';injection e3' with f2 e3';injection e3' with f3 f4;simp only at f1 f2 f3 f4;subst e1 f1 f2 f3;obtain⟨np,xpo,xpc,ypo,ypc,rfl,rfl,hP⟩:=pms_two a3 b3 e2 (fun r hr=>(hA r hr).2)
 exact funs_two nm2 rn2 np rb2 rk2 xpo ypo xpc ypc x y xr yr xrl xrd yrl yrd xl xd yl yd w hP (fun w' hb=>by
  have h:=sameParams_p (p:=⟨rn2,rb2,rk2,rr,xrl,xrd⟩) (p':=⟨rn2,rb2,rk2,rr2,yrl,yrd⟩) (x:=xr) (y:=yr) hr e3 (a2.below hb) (b2.below hb)
  exact h) (fun w' hb=>same_w hwd e4 (a4.below hb) (b4.below hb))
theorem progs_two (nq nf:Nat) (xq xf yq yf:Option Addr) (xqc xfc yqc yfc:Nat) (w:World)
  (hQ:∀ w',Below w.heap.size w w'->Calls Tryz.prog 23 #[.slice xq nq xqc,.slice yq nq yqc,.func (.func 24) #[] #[]] w' fun e w2=>e=.returned (.bool true)/\Below w'.heap.size w' w2)
  (hF:∀ w',Below w.heap.size w w'->Calls Tryz.prog 25 #[.slice xf nf xfc,.slice yf nf yfc,.func (.func 26) #[] #[]] w' fun e w2=>e=.returned (.bool true)/\Below w'.heap.size w' w2) :
  Calls Tryz.prog 9 #[.agg #[.slice xq nq xqc,.slice xf nf xfc],.agg #[.slice yq nq yqc,.slice yf nf yfc]] w fun e w'=>e=.returned (.bool true)/\Below w.heap.size w w':=by
 have HQ:=h_ hQ;have HF:=h_ hF;clear hQ hF;go_enter Tryz.func9,Tryz.ntmps9
 go_upto_region 1 with fail
 obtain⟨wa,ka,hw,hkk,hb,hs1,HKa⟩:=newb w #[.slice xq nq xqc,.slice xf nf xfc] 26;rw[hw,<-hkk];have HB:=h_ hb;have hsA:=hs1;clear hw hkk hb hs1;obtain⟨wb,kb,hw,hkk,hb,hs1,HKb⟩:=newb wa #[.slice yq nq yqc,.slice yf nf yfc] 26;have hk2:ka+1=kb:=by omega
 rw[hw,hk2];replace HKa:=kB hb HKa;replace HB:=h_ (HB.out.trans (hb.mono HB.out.size));clear hw hkk hb hs1 hk2 hsA;have p0:=cell_at (v:=.slice xq nq xqc) HKa.out 0 rfl;have q0:=cell_at (v:=.slice yq nq yqc) HKb.out 0 rfl;go_wp2_with fail
 refine (HQ.out wb HB.out).mono ?_;rintro e w3 ⟨rfl,hb⟩;replace HKa:=kB hb HKa;replace HKb:=kB hb HKb;replace HB:=h_ (HB.out.trans (hb.mono HB.out.size));clear hb;clear p0 q0;have p1:=cell_at (v:=.slice xf nf xfc) HKa.out 1 rfl;have q1:=cell_at (v:=.slice yf nf yfc) HKb.out 1 rfl;go_wp2_with fail
 refine (HF.out w3 HB.out).mono ?_;rintro e w4 ⟨rfl,hb⟩;replace HKa:=kB hb HKa;replace HKb:=kB hb HKb;replace HB:=h_ (HB.out.trans (hb.mono HB.out.size));clear hb;clear p1 q1;go_wp2_with fail
 go_ret
 exact⟨rfl,HB.out⟩
theorem map_len {α β:Type} {f:α->β} {l l':List α} (h:l'.map f=l.map f):l'.length=l.length:=by have:=congrArg List.length h;simpa using this
theorem map_at {α β:Type} {f:α->β} {l l':List α} (h:l'.map f=l.map f) {i:Nat} (hi:i<l.length) (hi':i<l'.length):f l'[i]=f l[i]:=by
 have:=congrArg (fun l=>l[i]?) h;simp only[List.getElem?_map,List.getElem?_eq_getElem hi,List.getElem?_eq_getElem hi',Option.map_some,Option.some.injEq] at this;exact this
def dQ:Qd:=⟨⟨[],[],u0,0,0⟩,.slice none 0 0,xZ⟩
def dF:Fd:=⟨⟨[],[],typ [] tk0 0,u0,0,0⟩,.slice none 0 0,xZ,xZ⟩
theorem same_progs (p p':PgU) (S S':Nat->Prop) (vq vf vq' vf':Value) (w:World) (hw:PgW p) (h1:p'.qs.map stQl=p.qs.map stQl) (h2:p'.fs.map stFn=p.fs.map stFn) (h:ProgAt w S vq vf p) (h':ProgAt w S' vq' vf' p') :
  Calls Tryz.prog 9 #[.agg #[vq,vf],.agg #[vq',vf']] w fun e w'=>e=.returned (.bool true)/\Below w.heap.size w w':=by
 obtain⟨qs,fs,e1,e2,⟨qo,qc,rfl,q1,-,q3⟩,⟨fo,fc,rfl,f1,-,f3⟩⟩:=h;obtain⟨qs',fs',e1',e2',⟨qo',qc',rfl,-,-,q3'⟩,⟨fo',fc',rfl,-,-,f3'⟩⟩:=h';have hql:qs'.length=qs.length:=by have:=map_len h1;rw[<-e1,<-e1'] at this;simpa using this
 have hfl:fs'.length=fs.length:=by have:=map_len h2;rw[<-e2,<-e2'] at this;simpa using this
 rw[hql,hfl];have gq:∀ i (hi:i<qs.length),qs.getD i dQ=qs[i]:=fun i hi=>by rw[List.getD_eq_getElem?_getD,List.getElem?_eq_getElem hi];rfl
 have gq':∀ i (hi:i<qs.length),qs'.getD i dQ=qs'[i]'(by omega):=fun i hi=>by rw[List.getD_eq_getElem?_getD,List.getElem?_eq_getElem (by omega)];rfl
 have gf:∀ i (hi:i<fs.length),fs.getD i dF=fs[i]:=fun i hi=>by rw[List.getD_eq_getElem?_getD,List.getElem?_eq_getElem hi];rfl
 have gf':∀ i (hi:i<fs.length),fs'.getD i dF=fs'[i]'(by omega):=fun i hi=>by rw[List.getD_eq_getElem?_getD,List.getElem?_eq_getElem (by omega)];rfl
 refine progs_two qs.length fs.length qo fo qo' fo' qc fc qc' fc' w (fun w' hb=>?_) (fun w' hb=>?_)
 ·refine slQ w' qo qo' qc qc' qs.length (fun i=>qlE.f (qs.getD i dQ)) (fun i=>qlE.f (qs'.getD i dQ)) (Nat.le_trans q1.1 q1.2) (fun _=>qlE.len _) (fun _=>qlE.len _) (fun i hi=>?_) (fun i hi=>?_) (fun w2 i hi hb2=>?_)
  ·rw[gq i hi];exact (q3 i hi).1.below' hb
  ·rw[gq' i hi];exact (q3' i (by omega)).1.below' hb
  rw[gq i hi,gq' i hi];have hi':i<qs'.length:=by omega
  have hbb:=hb.trans (hb2.mono hb.size);have hm:qs[i].q ∈ p.qs:=by rw[<-e1];exact List.mem_map.2 ⟨_,List.getElem_mem hi,rfl⟩
  refine sameQuals_p (hw.1.1 _ hm) ?_ (El.below qlE (q3 i hi).2 hbb) (El.below qlE (q3' i hi').2 hbb);have:=map_at (i:=i) h1 (by rw[<-e1,List.length_map];exact hi) (by rw[<-e1',List.length_map];exact hi')
  simpa only [<-e1,<-e1',List.getElem_map] using this
 refine slF w' fo fo' fc fc' fs.length (fun i=>fnE.f (fs.getD i dF)) (fun i=>fnE.f (fs'.getD i dF)) (Nat.le_trans f1.1 f1.2) (fun _=>fnE.len _) (fun _=>fnE.len _) (fun i hi=>?_) (fun i hi=>?_) (fun w2 i hi hb2=>?_)
 ·rw[gf i hi];exact (f3 i hi).1.below' hb
 ·rw[gf' i hi];exact (f3' i (by omega)).1.below' hb
 rw[gf i hi,gf' i hi];have hi':i<fs'.length:=by omega
 have hbb:=hb.trans (hb2.mono hb.size);have hm:fs[i].q ∈ p.fs:=by rw[<-e2];exact List.mem_map.2 ⟨_,List.getElem_mem hi,rfl⟩
 refine sameFuns_p (hw.2.1 _ hm) ?_ (El.below fnE (f3 i hi).2 hbb) (El.below fnE (f3' i hi').2 hbb);have:=map_at (i:=i) h2 (by rw[<-e2,List.length_map];exact hi) (by rw[<-e2',List.length_map];exact hi')
 simpa only [<-e2,<-e2',List.getElem_map] using this
set_option maxRecDepth 1000000
theorem ProgAt.belowP {w w':World} {S:Nat->Prop} {vq vf:Value} {p:PgU} (h:ProgAt w S vq vf p) (hb:Below w.heap.size w w'):ProgAt w' S vq vf p:=by
 obtain⟨qs,fs,e1,e2,h1,h2⟩:=h;exact⟨qs,fs,e1,e2,h1.below hb,h2.below hb⟩
theorem parsePrints_long (l:Bs) (w:World) (hl:3000<l.length) (hm:l.length<=maxLen) (hop:OpsAt w) :
  Calls Tryz.prog 3 #[.string ⟨l.toArray⟩] w fun e w'=>e=.returned (.bool true)/\Below w.heap.size w w':=by
 have hsz:(⟨l.toArray⟩:ByteArray).size=l.length:=rfl;unfold maxLen at hm;have HO:=h_ hop;clear hop;go_enter Tryz.func3,Tryz.ntmps3
 go_wp2_with fail
 refine (fit_p w HO.out).mono ?_;rintro e w1 ⟨rfl,hb⟩;have HB:=h_ hb;clear hb;go_wp2_with fail
 go_ret
 exact⟨rfl,HB.out⟩
theorem parsePrints_short (l:Bs) (w:World) (hl:l.length<=3000) (hop:OpsAt w) (hA:ArT w) (hT:Tabs w) :
  Calls Tryz.prog 3 #[.string ⟨l.toArray⟩] w fun e w'=>e=.returned (.bool true)/\Below w.heap.size w w':=by
 have hsz:(⟨l.toArray⟩:ByteArray).size=l.length:=rfl;have hd3:decide ((3000:Int)<(l.length:Int))=false:=by simp;omega
 obtain⟨r,q1,q2⟩:=prog_told2 l (by omega);have HEX:Hid (∀ w',OpsAt w'->Calls Tryz.prog 7 #[.string ⟨l.toArray⟩] w' (PgPost l r w')):=h_ (fun w' ho=>parse_p 20001 160015 (by decide) l r w' (by omega) ho q1);have HC:=h_ q2;have HD:=h_ (fun h=>twice_told hl q1 h);have HO:=h_ hop;have HA:=h_ hA;have HT:=h_ hT;clear hop hA hT q1 q2;go_enter Tryz.func3,Tryz.ntmps3
 go_wp2_with fail
 refine (fit_p w HO.out).mono ?_;rintro e w1 ⟨rfl,hb⟩;have HB:=h_ hb;clear hb;go_wp2_with fail
 refine (HEX.out w1 (HO.out.below HB.out)).mono ?_;rintro e w2 ⟨hb,hp⟩;have HP:=h_ hp;have HB2:=bw_ HB hb;clear hb hp HEX hd3 hsz hl;rcases HP.out with ⟨f,ev,hf,rfl,q,rfl,hA⟩ | ⟨hn,vq,vf,rfl,hu⟩
 ·clear hA hf HP HD HC;go_upto_region 6 with fail
  obtain⟨w3,kb,hw,hkk,hb,hs1,HK3⟩:=newb w2 #[.slice none 0 0,.slice none 0 0] 26;rw[hw,<-hkk];have HB3:=bw_ HB2 hb;clear hw hb hkk hs1;go_wp2_with fail
  go_ret
  exact⟨rfl,HB3.out⟩
 obtain⟨hb1,hb2⟩:=HC.out hn;obtain⟨t1,t2⟩:=HD.out hn;obtain⟨r2,s1,s2⟩:=prog_told2 (pgT r.1) t1;obtain⟨u1,u2,u3,u4⟩:=t2 r2 s1;obtain⟨v1,v2⟩:=s2 u1;have HU:=h_ hu;have HW1:=h_ hb1;have HW2:=h_ hb2;have HV1:=h_ v1;have HV2:=h_ v2;have HS1:=h_ s1;have HU1:=h_ u1;have HU2:=h_ u2;have HU3:=h_ u3;have HU4:=h_ u4;have HT1:=h_ t1;obtain⟨qs,fs,hqs,hfs,⟨qo,qc,rfl,-⟩,⟨fo,fc,rfl,-⟩⟩:=hu;clear hn hb1 hb2 HP HC HD hqs hfs t1 t2 s1 s2 u1 u2 u3 u4 v1 v2;go_upto_region 6 with fail
 obtain⟨w3,ka,hw,hkk,hb,hs1,HKa⟩:=newb w2 #[.slice qo qs.length qc,.slice fo fs.length fc] 26;rw[hw,<-hkk];have HB3:=bw_ HB2 hb;replace HU:=h_ (HU.out.belowP hb);clear hw hb hkk hs1;have c0:=cell_at (v:=.slice qo qs.length qc) HKa.out 0 rfl;have c1:=cell_at (v:=.slice fo fs.length fc) HKa.out 1 rfl;go_wp2_with fail
 clear c0 c1;refine (print_p r.1 _ _ _ w3 (HT.out.below HB3.out) (HA.out.below HB3.out) HU.out HW2.out HW1.out (Nat.le_trans HT1.out (by decide))).mono ?_;rintro e w4 ⟨rfl,hb⟩;replace HKa:=kB hb HKa;replace HU:=h_ (HU.out.belowP hb);have HB4:=bw_ HB3 hb;clear hb;go_wp2_with fail
 refine (parse_p 20001 160015 (by decide) (pgT r.1) r2 w4 HT1.out (HO.out.below HB4.out) HS1.out).mono ?_;rintro e w5 ⟨hb,hp⟩;rcases hp with ⟨f,ev,hf,-,-⟩ | ⟨-,vq2,vf2,rfl,hu2⟩
 ·rw[HU1.out] at hf;cases hf
 replace HKa:=kB hb HKa;replace HU:=h_ (HU.out.belowP hb);have HB5:=bw_ HB4 hb;have HY:=h_ hu2;obtain⟨qs2,fs2,hqs2,hfs2,⟨qo2,qc2,rfl,-⟩,⟨fo2,fc2,rfl,-⟩⟩:=hu2;clear hb hqs2 hfs2 HS1 HU1;go_upto_region 10 with fail
 obtain⟨w6,kb,hw,hkk,hb,hs1,HKb⟩:=newb w5 #[.slice qo2 qs2.length qc2,.slice fo2 fs2.length fc2] 26;rw[hw,<-hkk];replace HKa:=kB hb HKa;replace HU:=h_ (HU.out.belowP hb);replace HY:=h_ (HY.out.belowP hb);have HB6:=bw_ HB5 hb;clear hw hb hkk hs1;have c0:=cell_at (v:=.slice qo qs.length qc) HKa.out 0 rfl;have c1:=cell_at (v:=.slice fo fs.length fc) HKa.out 1 rfl;have d0:=cell_at (v:=.slice qo2 qs2.length qc2) HKb.out 0 rfl;have d1:=cell_at (v:=.slice fo2 fs2.length fc2) HKb.out 1 rfl;go_wp2_with fail
 clear c0 c1 d0 d1;refine (same_progs r.1 r2.1 _ _ _ _ _ _ w6 HW2.out HU2.out HU3.out HU.out HY.out).mono ?_;rintro e w7 ⟨rfl,hb⟩;replace HKb:=kB hb HKb;replace HY:=h_ (HY.out.belowP hb);have HB7:=bw_ HB6 hb;clear hb;have d0:=cell_at (v:=.slice qo2 qs2.length qc2) HKb.out 0 rfl;have d1:=cell_at (v:=.slice fo2 fs2.length fc2) HKb.out 1 rfl;go_wp2_with fail
 clear d0 d1;refine (print_p r2.1 _ _ _ w7 (HT.out.below HB7.out) (HA.out.below HB7.out) HY.out HV2.out HV1.out (by rw[HU4.out];exact Nat.le_trans HT1.out (by decide))).mono ?_;rintro e w8 ⟨rfl,hb⟩;have HB8:=bw_ HB7 hb;rw[HU4.out];clear hb;generalize (⟨(pgT r.1).toArray⟩:ByteArray)=T;go_wp2_with fail
 go_ret
 exact⟨rfl,HB8.out⟩
theorem parsePrints_walk (s:ByteArray) (w:World) (hm:s.size<=maxLen) (hop:OpsAt w) (hA:ArT w) (hT:Tabs w) :
  Calls Tryz.prog 3 #[.string s] w fun e w'=>e=.returned (.bool true)/\Below w.heap.size w w':=by
 obtain⟨l,rfl⟩:∃ l:Bs,s=⟨l.toArray⟩:=⟨s.data.toList,rfl⟩
 have hsz:(⟨l.toArray⟩:ByteArray).size=l.length:=rfl
 by_cases hl:l.length<=3000
 ·exact parsePrints_short l w hl hop hA hT
 exact parsePrints_long l w (by omega) (by omega) hop
theorem parsePrints_all (s:ByteArray) (w:World) (hm:s.size<=maxLen) (h:OpsAt w/\ArT w/\Tabs w) :
  Calls Tryz.prog 3 #[.string s] w fun e w'=>e=.returned (.bool true)/\Below w.heap.size w w':=parsePrints_walk s w hm h.1 h.2.1 h.2.2
end Go.Proofs.YtkocdbgmckdcpaaGreatDoor
namespace Go.Proofs.YtkocdbgmckdcpaaGreatDoor
open Go.ChangeShapes Go.WideShapes Go.ChangeAt Go.RowKit
set_option maxRecDepth 100000
theorem gOps : (Tryz.prog.globalNamed "litmus/parse.operators").bind (fun g => (Tryz.prog.globals[g]?).map fun x => (Tryz.prog.underlying x.type, Tryz.prog.cellsOf x.type)) = some (some (.array 14 200), 70) := by kernel_rfl
theorem nOps : Tryz.prog.globalNamed "litmus/parse.operators" = some 4 := by kernel_rfl
theorem cells5Op:Tryz.prog.cellsOf 200=5:=by kernel_rfl
theorem cells1Int:Tryz.prog.cellsOf 3=1:=by kernel_rfl
theorem cells1Str:Tryz.prog.cellsOf 9=1:=by kernel_rfl
theorem cells1Kind:Tryz.prog.cellsOf 40=1:=by kernel_rfl
def opD (op:Bop):DataW Unit:=.agg [.lit (.string op.sign),.lit (.int .i64 (op.kind:Nat)),.lit (.int .i64 (op.level:Nat)),.lit (.int .i64 (op.left:Nat)),.lit (.int .i64 (op.right:Nat))]
theorem opsData:(Rows.laid_litmus_parse_operators:DataW Unit)=.agg (bops.map opD):=by rfl
theorem op_cells {enc:TypeId × Value->Unit} {w:World} {base:Nat} {sp:Nat->Bool} {held:Bool} {fuel:Nat} {cs:List Value} {y:DataW Unit × List MemPlace} {op:Bop}
  (h:DataW.trod enc Tryz.prog w base sp held fuel 200 cs=some y) (hy:y.1=opD op):cs=opC op:=by
 obtain⟨xs,n,rfl,rfl,hl,hx,hf⟩:=DataW.trod_struct Tryz.underlying200 h;have h0:DataW.trod enc Tryz.prog w base sp held n 9 ((cs.drop 0).take (Tryz.prog.cellsOf 9))=xs[0]?:=hf 0 _ rfl;have h1:DataW.trod enc Tryz.prog w base sp held n 40 ((cs.drop 1).take (Tryz.prog.cellsOf 40))=xs[1]?:=hf 1 _ rfl;have h2:DataW.trod enc Tryz.prog w base sp held n 3 ((cs.drop 2).take (Tryz.prog.cellsOf 3))=xs[2]?:=hf 2 _ rfl;have h3:DataW.trod enc Tryz.prog w base sp held n 3 ((cs.drop 3).take (Tryz.prog.cellsOf 3))=xs[3]?:=hf 3 _ rfl;have h4:DataW.trod enc Tryz.prog w base sp held n 3 ((cs.drop 4).take (Tryz.prog.cellsOf 3))=xs[4]?:=hf 4 _ rfl;rw[cells5Op] at hl
 match xs,hx with
 | [a0,a1,a2,a3,a4],_ =>
  match cs,hl with
  | [c0,c1,c2,c3,c4],_ =>
   simp only[gsz,gsc] at h0 h1 h2 h3 h4;simp only[opD,List.map_cons,List.map_nil,DataW.agg.injEq,List.cons.injEq,and_true] at hy;obtain⟨y0,y1,y2,y3,y4⟩:=hy;obtain⟨s0,e0,rfl,_⟩:=DataW.trod_string Tryz.underlying9 h0;obtain⟨s1,e1,rfl,_⟩:=DataW.trod_int Tryz.underlying40 h1;obtain⟨s2,e2,rfl,_⟩:=DataW.trod_int Tryz.underlying3 h2;obtain⟨s3,e3,rfl,_⟩:=DataW.trod_int Tryz.underlying3 h3;obtain⟨s4,e4,rfl,_⟩:=DataW.trod_int Tryz.underlying3 h4;simp only[cells1Int,cells1Str,cells1Kind,List.drop_zero,List.take_succ_cons,List.take_zero,List.drop_succ_cons,List.cons.injEq,and_true] at e0 e1 e2 e3 e4;simp only[DataW.lit.injEq,Lit.string.injEq,Lit.int.injEq,true_and] at y0 y1 y2 y3 y4;subst e0 e1 e2 e3 e4;rw[y1,y2,y3,y4];unfold opC;rw[<-y0]
theorem cells_of_ops {enc:TypeId × Value->Unit} {w:World} {base:Nat} {sp:Nat->Bool} {held:Bool} {fuel:Nat} {t:TypeId} {cs:List Value} {l:List Bop} {p:List MemPlace} {n:Nat}
  (ht:Tryz.prog.underlying t=some (.array n 200)) (hct:Tryz.prog.cellsOf t=n*5)
  (h:DataW.trod enc Tryz.prog w base sp held fuel t cs=some (.agg (l.map opD),p)):cs=l.flatMap opC:=by
 obtain⟨xs,m,rfl,he,hl,hx,hf⟩:=DataW.trod_array ht h;rw[hct] at hl;rw[cells5Op] at hf;have hxs:l.map opD=xs.map (·.1):=by injection he with he _;injection he
 have hln:l.length=n:=by have:=congrArg List.length hxs;simp at this;omega
 clear h he hct ht;clear hx
 induction l generalizing cs xs n with
 | nil=>simp at hln;subst hln;simpa using hl
 | cons op l ih =>
  match xs,hxs with
  | a::xs,hxs =>
   match n,hln with
   | n+1,hln =>
    simp only[List.map_cons,List.cons.injEq] at hxs;have h0:=hf 0 (by omega);simp only[Nat.zero_mul,List.drop_zero,gsz] at h0;have hc:=op_cells h0 hxs.1.symm
    have:=ih (cs:=cs.drop 5) (xs:=xs) (n:=n) (by rw[List.length_drop,hl];omega) (fun i hi=>by
     have:=hf (i+1) (by omega);simp only[gsc] at this
     rw[List.drop_drop,show 5+i*5=(i+1)*5 by omega];exact this) hxs.2 (by simpa using hln)
    rw[List.flatMap_cons,<-this,<-hc,List.take_append_drop]
theorem gArs7 : (Tryz.prog.globalNamed "litmus/tree.arities").bind (fun g => (Tryz.prog.globals[g]?).map fun x => (Tryz.prog.underlying x.type, Tryz.prog.cellsOf x.type)) = some (some (.array 29 3), 29) := by kernel_rfl
theorem nArs7 : Tryz.prog.globalNamed "litmus/tree.arities" = some 2 := by kernel_rfl
def arTab7:List Int:=(List.range 29).map arW
theorem arData7:(Rows.laid_litmus_tree_arities:DataW Unit)=Lib.tabData .i64 arTab7:=by rfl
theorem ops_of_var {W : World} {g : Nat} {t : TypeId} {cs : Array Value} {fuel : Nat} {p : List MemPlace} (hg : Tryz.prog.globalNamed "litmus/parse.operators" = some g) (ht : (Tryz.prog.globals[g]?).map (·.type) = some t) (hvar : W.var? Tryz.prog "litmus/parse.operators" = some cs)
  (hd:DataW.trod (fun _=>()) Tryz.prog W 0 (fun _=>true) false fuel t cs.toList=some (Rows.laid_litmus_parse_operators,p)):OpsAt W:=by
 have e:=gOps;rw[hg,Option.bind_some] at e;obtain⟨x,hx,ex⟩:=Option.map_eq_some_iff.1 e;rw[hx,Option.map_some] at ht;injection ht with ht;injection ex with e1 e2;rw[ht] at e1 e2;have hc:=cells_of_ops e1 (by rw[e2]) (opsData ▸ hd);intro j v hv;rw[World.var?_cell nOps hvar j];have:cs[j]?=cs.toList[j]?:=by simp
 rw[this,hc];exact hv
theorem laid_met (os:Os) (args:Array Value):laidMet Tryz.prog Rows.parsePrintsRow.laid ((World.doorLaid Tryz.prog 400 os).forCall (fun _ _=>0) ⟨#[],args,[]⟩).memory:=
 laidMet_of_run' 24 (by kernel_rfl) (by kernel_rfl)
theorem gPow : (Tryz.prog.globalNamed "internal/strconv.uint64pow10").bind (fun g => (Tryz.prog.globals[g]?).map fun x => (Tryz.prog.underlying x.type, Tryz.prog.cellsOf x.type)) = some (some (.array 20 235), 20) := by kernel_rfl
theorem cellsU64:Tryz.prog.cellsOf 235=1:=by kernel_rfl
theorem powData:(Rows.laid_internal_strconv_uint64pow10:DataW Unit)=Lib.tabData .u64 Lib.pow10Tab:=rfl
theorem table {W : World} (h : laidMetH Tryz.prog Rows.parsePrintsRow.laid W) : Lib.TabIs Tryz.prog W "internal/strconv.uint64pow10" .u64 Lib.pow10Tab := by
 have h':laidMet Tryz.prog Rows.parsePrintsRow.laid W:=h;obtain⟨_,⟨_,_,_,_,_,_,_,_,_,_,⟨_,_,_,_,_,_,_,_,_,_,⟨g,t,cs,fuel,p,q,hg,ht,hvar,hd,_,_⟩,_⟩,_⟩,_⟩:=h';have e:=gPow;rw[hg,Option.bind_some] at e;obtain⟨x,hx,ex⟩:=Option.map_eq_some_iff.1 e;rw[hx,Option.map_some] at ht;injection ht with ht;injection ex with e1 e2;rw[ht] at e1 e2;unfold Lib.TabIs;rw[hvar,<-Lib.cells_of_tab e1 Tryz.underlying235 cellsU64 e2 (powData ▸ hd)]
theorem cells_of_strs {H:Type} {enc:TypeId × Value->H} {P:Program} {w:World} {base:Nat} {sp:Nat->Bool} {held:Bool} {fuel:Nat} {t e:TypeId} {n:Nat} {cs:List Value} {ss:List Bs} {p:List MemPlace}
  (ht:P.underlying t=some (.array n e)) (he:P.underlying e=some .string) (hce:P.cellsOf e=1) (hct:P.cellsOf t=n)
  (h:DataW.trod enc P w base sp held fuel t cs=some (.agg (ss.map fun s=>.lit (.string s)),p)):cs=ss.map fun s=>Value.string ⟨s.toArray⟩:=by
 cases fuel with
 | zero=>simp[DataW.trod] at h
 | succ fuel =>
  simp only[DataW.trod,ht,hce,hct,Nat.mul_one] at h
  split at h
  ·rename_i hl
   obtain⟨xs,hm,hx⟩:=Option.map_eq_some_iff.1 h
   have hxs:xs.map (·.1)=ss.map fun s=>(DataW.lit (.string s):DataW H):=by
    have:=congrArg Prod.fst hx
    simpa using this
   have hxl:xs.length=n:=by simpa using Lib.mapM_length hm
   have hzl:ss.length=n:=by
    have:=congrArg List.length hxs
    simp at this
    omega
   apply List.ext_getElem?
   intro i
   by_cases hi:i<n
   ·obtain⟨b,hb,hf⟩:=Lib.mapM_at hm i i (by simp[hi]);obtain⟨z,hc,rfl,_⟩:=DataW.trod_string he hf
    have h1:cs[i]?=some (.string z):=by
     have:=congrArg (·[0]?) hc
     simpa [List.getElem?_take,List.getElem?_drop] using this
    have h2:(xs.map (·.1))[i]?=some (DataW.lit (.string z.data.toList):DataW H):=by simp[hb]
    rw[hxs] at h2;simp only[List.getElem?_map,Option.map_eq_some_iff,DataW.lit.injEq,Lit.string.injEq] at h2;obtain⟨s,hs,hz⟩:=h2
    simp[h1,hs,hz]
   rw[List.getElem?_eq_none (by omega),List.getElem?_eq_none (by simp;omega)]
  cases h
theorem gLvs : (Tryz.prog.globalNamed "litmus/tree.levels").bind (fun g => (Tryz.prog.globals[g]?).map fun x => (Tryz.prog.underlying x.type, Tryz.prog.cellsOf x.type)) = some (some (.array 29 3), 29) := by kernel_rfl
theorem gSgs : (Tryz.prog.globalNamed "litmus/tree.signs").bind (fun g => (Tryz.prog.globals[g]?).map fun x => (Tryz.prog.underlying x.type, Tryz.prog.cellsOf x.type)) = some (some (.array 24 9), 24) := by kernel_rfl
theorem nLvs : Tryz.prog.globalNamed "litmus/tree.levels" = some 1 := by kernel_rfl
theorem nSgs : Tryz.prog.globalNamed "litmus/tree.signs" = some 3 := by kernel_rfl
def lvTab:List Int:=(List.range 29).map fun i=>(lv i:Int)
def sgTab:List Bs:=(List.range 24).map sg5
theorem lvData:(Rows.laid_litmus_tree_levels:DataW Unit)=Lib.tabData .i64 lvTab:=by rfl
theorem sgData:(Rows.laid_litmus_tree_signs:DataW Unit)=.agg (sgTab.map fun s=>.lit (.string s)):=by rfl
theorem tabs {W:World} (h:laidMetH Tryz.prog Rows.parsePrintsRow.laid W):OpsAt W/\ArT W/\Tabs W:=by
 have hp:=table h;have h':laidMet Tryz.prog Rows.parsePrintsRow.laid W:=h;obtain⟨_,⟨_,_,_,_,_,_,_,_,_,_,⟨_,_,_,_,_,_,_,_,_,_,⟨_,_,_,_,_,_,_,_,_,_,⟨g,t,cs,fuel,p,q,hg,ht,hvar,hd,⟨g1,t1,cs1,fuel1,p1,q1,hg1,ht1,hvar1,hd1,⟨g2,t2,cs2,fuel2,p2,q2,hg2,ht2,hvar2,hd2,⟨g3,t3,cs3,fuel3,p3,q3,hg3,ht3,hvar3,hd3,_,_⟩,_⟩,_⟩,_⟩,_⟩,_⟩,_⟩,_⟩:=h';refine⟨ops_of_var hg3 ht3 hvar3 hd3,fun i hi=>?_,hp,fun i hi=>?_,fun i hi=>?_⟩
 ·have e:=gArs7;rw[hg,Option.bind_some] at e;obtain⟨x,hx,ex⟩:=Option.map_eq_some_iff.1 e;rw[hx,Option.map_some] at ht;injection ht with ht;injection ex with e1 e2;rw[ht] at e1 e2;have hc:=Lib.cells_of_tab e1 Tryz.underlying3 cells1Int e2 (arData7 ▸ hd);rw[World.var?_cell nArs7 hvar i];have:cs[i]?=cs.toList[i]?:=by simp
  rw[this,hc];unfold arTab7
  simp[hi]
 ·have e:=gLvs;rw[hg1,Option.bind_some] at e;obtain⟨x,hx,ex⟩:=Option.map_eq_some_iff.1 e;rw[hx,Option.map_some] at ht1;injection ht1 with ht1;injection ex with e1 e2;rw[ht1] at e1 e2;have hc:=Lib.cells_of_tab e1 Tryz.underlying3 cells1Int e2 (lvData ▸ hd1);rw[World.var?_cell nLvs hvar1 i];have:cs1[i]?=cs1.toList[i]?:=by simp
  rw[this,hc];unfold lvTab
  simp[hi]
 have e:=gSgs;rw[hg2,Option.bind_some] at e;obtain⟨x,hx,ex⟩:=Option.map_eq_some_iff.1 e;rw[hx,Option.map_some] at ht2;injection ht2 with ht2;injection ex with e1 e2;rw[ht2] at e1 e2;have hc:=cells_of_strs e1 Tryz.underlying9 cells1Str e2 (sgData ▸ hd2);rw[World.var?_cell nSgs hvar2 i];have:cs2[i]?=cs2.toList[i]?:=by simp
 rw[this,hc];unfold sgTab
 simp[hi]
end Go.Proofs.YtkocdbgmckdcpaaGreatDoor
