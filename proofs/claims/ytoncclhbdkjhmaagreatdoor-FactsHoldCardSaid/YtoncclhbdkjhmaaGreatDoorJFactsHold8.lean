/-
 Joined texts: FaB,FaC,ShelfE,FaD,kJ,LgBg,LgBo,FaE,FaF,FaG,FaH,FaI,FaJ,FaK,FaKb,FaU,FaV,FaL,FaW.
-/
import Derived.Carry
import Derived.Shelf.Strings.Builder1
import Derived.Shelf.Small.Utf8
import Derived.Shelf.Small.Bits
import Derived.Shelf.Small.Wraps
import Derived.Shelf.Strings.BuilderF
import Derived.Shelf.Strings.BuilderK
import Derived.Shelf.Utf8.AppendRune
import Derived.Shelf.Utf8.AppendRunePlain
import Derived.Shelf.Strconv.Bsearch
import Derived.Shelf.Strconv.IsPrint
import Derived.Shelf.Strconv.IsPrint16
import Derived.Shelf.Strconv.IsPrint32
import Derived.Shelf.Strconv.Escaped
import Derived.Shelf.Strconv.Quoted
import Derived.Shelf.Strconv.Quote
import Derived.Shelf.Strconv.Itoa0
import Derived.Shelf.Strconv.Itoa1
import Derived.Shelf.LaysM
import Derived.Shelf.Strconv.Itoa2
import Derived.Shelf.Strconv.Itoa3
import Derived.Shelf.Unicode.Decode
import Derived.Shelf.Unicode.DecodeSlow
import Derived.Shelf.Unicode.DecodeAny
import Derived.Shelf.Strings.BuilderCap
import Derived.Shelf.Slices.Turned
import Derived.Ground.Names2Prog
import Derived.Shelf.Slices.SearchI
import Derived.Test.YtoncclhbdkjhmaaGreatDoorProg
import Derived.Lib.AppendZeros
import Derived.Test.YtoncclhbdkjhmaaGreatDoorJFactsHold3
import Derived.Test.YtoncclhbdkjhmaaGreatDoorJFactsHold4
import Derived.Test.YtoncclhbdkjhmaaGreatDoorJFactsHold5
import Derived.Test.YtoncclhbdkjhmaaGreatDoorJFactsHold7
set_option maxHeartbeats 32000000
open Array renaming size_setIfInBounds→bP,replicate→nT
open Bool renaming or_eq_true→e_,false_ne_true→lQ
open Go renaming lt_of_block→ae,World→ag,Value→aq,bodyPost_ret→aD,Calls→aW,TypeId→bn,maxLen→bI,heap_alloc_new→bT,Addr→cB,wpList→qy
open Go.Builtin renaming append_→jv,zeroCells→jA
open Go.Lib renaming hid→aa
open Go.Proofs.Tryz renaming prog→aj,underlying9→fh,underlying3→jf
open Go.Result renaming andThen_ok→rA
open Go.RowKit renaming Below→aA,intOf→ei
open Go.RowKit.Below renaming refl→ax
open Go.Sem renaming run_pure→IK,run_bind→IM
open Go.Value renaming int→fm,slice→jm
open Go.World.grownBy renaming refl→aI
open List renaming map_cons→aO,not_mem_nil→aU,setIfInBounds_toArray→aY,mem_singleton→aZ,mem_cons→bz,set_cons_succ→bD,take_succ_eq_append_getElem→bH,map_nil→bM,set_cons_zero→bS,length_set→bY,getElem_mem→ct,drop_zero→cx,drop_succ_cons→cL,length_map→cT,getElem_map→gp,length_replicate→gI,map_congr_left→pA,map_toArray→uz,mem_append_left→uF,getElem_set_self→IP
open Nat renaming le_trans→ah,le_refl→ai,zero_le→au,not_lt_zero→ay,lt_of_lt_of_le→az,add_right_cancel→cQ,reduceAdd→fH,mul_le_mul→iU,le_of_lt→wK
open Option renaming getD_some→jb
namespace Go.Proofs.YtoncclhbdkjhmaaGreatDoor
open Go.RowKit
set_option maxRecDepth 100000
set_option linter.unusedVariables false
set_option linter.unusedSimpArgs false
open Classical in
noncomputable def idx (s:List F) (c:F):Nat:=s.findIdx fun t=>decide (t=c)
theorem BG {s:List F} {c:F} (h:c ∈ s):idx s c<s.length:=by
 unfold idx;exact List.findIdx_lt_length_of_exists ⟨c,h,by simp⟩
theorem iL {s:List F} {c:F} (h:c ∈ s):s[idx s c]?=some c:=by
 have hl:=BG h;rw[List.getElem?_eq_getElem hl];have h2:=List.findIdx_getElem (p:=fun t=>@decide (t=c) (Classical.propDecidable _)) (xs:=s) (w:=hl);exact congrArg some (@of_decide_eq_true _ (Classical.propDecidable _) h2)
theorem Ek {s:List F} (hn:s.Nodup) {i:Nat} {c:F} (h:s[i]?=some c):idx s c=i:=by
 have hm:c ∈ s:=List.mem_of_getElem? h;have h2:=iL hm;obtain⟨hi,e⟩:=List.getElem?_eq_some_iff.1 h;obtain⟨hj,e2⟩:=List.getElem?_eq_some_iff.1 h2;exact (List.getElem_inj hn).1 (by rw[e,e2]) |>.symm
theorem BH {s m:List F} {c:F} (h:c ∈ s):idx (s++m) c=idx s c:=by
 have hl:=BG h;unfold idx at hl ⊢;rw[List.findIdx_append,if_pos hl]
def mZ (n:Nat):ByteArray:=⟨(Lib.itoa (n:Int)).toArray⟩
theorem qK (n:Nat):(mZ n).data.toList=Lib.decDigits n:=by
 show Lib.itoa (n:Int)=_
 unfold Lib.itoa;rw[if_neg (by omega)];rfl
theorem Hp {m n:Nat} (h:mZ m=mZ n):m=n:=by
 have h1:=congrArg (fun b:ByteArray=>b.data.toList) h;simp only[qK] at h1;have a:=(wB m).2.1;have b:=(wB n).2.1;rw[<-a,<-b,h1]
theorem Ko {n:Nat} (h:n<10 ^ 18):Mc (mZ n):=by
 have hd:=wB n;have hl:=mD h (by decide);refine⟨fun h0=>?_,by rw[qK];omega,fun c hc=>?_⟩
 ·have:(mZ n).data.toList=[]:=by rw[h0]
  rw[qK] at this;exact hd.2.2.1 this
 rw[qK] at hc;have:=hd.1 c hc;unfold pI;omega
noncomputable def rW (s:List F) (c:F):F:=.node (mI (eI c.op)) 0 (mZ (idx s c)) []
noncomputable def CX (s:List F) (t:F):F:=.node t.op t.num t.name (t.kids.map (rW s))
noncomputable def mJ (s:List F) (t:F):Bs:=mz (CX s t)
theorem CZ {s m:List F} {t:F} (h:∀ c ∈ t.kids,c ∈ s):mJ (s++m) t=mJ s t:=by
 unfold mJ CX;congr 2;apply pA;intro c hc;unfold rW;rw[BH (h c hc)]
theorem MF (o:Int):eI (mI (eI o))=eI o:=by
 unfold eI;split
 ·rfl
 split<;>rfl
theorem wP (b:Int):mI b=1\/mI b=8\/mI b=14:=by
 unfold mI;split
 ·exact .inr (.inr rfl)
 split
 ·exact .inr (.inl rfl)
 exact .inl rfl
theorem MG (o:Int):eI o=0\/eI o=1\/eI o=2:=by
 unfold eI;split
 ·exact .inr (.inr rfl)
 split
 ·exact .inr (.inl rfl)
 exact .inl rfl
theorem PC (s:List F) (c:F):rt (rW s c)=true:=Sg _ _ (MG _)
theorem Jt (s:List F) (l:List F):eR (l.map (rW s))=eR l:=by
 unfold eR;rw[List.map_map];apply pA;intro c _;exact MF c.op
theorem D9 {s:List F} {t:F} (h:rt t=true):rt (CX s t)=true:=by
 obtain⟨o,z,nm,ks⟩:=t;unfold CX;rw[rt,Bool.and_eq_true] at h ⊢;refine⟨by rw[show (F.node o z nm ks).kids=ks from rfl,Jt];exact h.1,?_⟩;rw[nr,List.all_eq_true];intro x hx;obtain⟨c,_,rfl⟩:=List.mem_map.1 hx;exact PC s c
theorem Ps {s:List F} {c:F} (h:idx s c<10 ^ 18):Tg 1 (rW s c):=
 ⟨by unfold Md;rw[if_pos (show (rW s c).op=1\/(rW s c).op=8\/(rW s c).op=14 from wP _)];exact Ko h,z4,fun _ _ _=>rfl,au _,fun k hk=>by cases hk⟩
theorem yE {d:Nat} {s:List F} {t:F} (h:Tg d t) (hs:s.length<=1000000) (hk:∀ c ∈ t.kids,c ∈ s):Tg 2 (CX s t):=by
 cases d with
 | zero=>exact absurd h id
 | succ d =>
  obtain⟨h1,h2,h3,h4,h5⟩:=h;refine⟨h1,h2,h3,by show (t.kids.map _).length<=8;rw[cT];exact h4,fun k hk'=>?_⟩;obtain⟨c,hc,rfl⟩:=List.mem_map.1 (show k ∈ t.kids.map (rW s) from hk');exact Ps (az (BG (hk c hc)) (ah hs (by decide)))
theorem CY {d e:Nat} {s:List F} {t u:F} (ht:Tg d t) (hu:Tg e u) (Ww:rt t=true) (Wv:rt u=true) (hs:s.length<=1000000) (kt:∀ c ∈ t.kids,c ∈ s) (ku:∀ c ∈ u.kids,c ∈ s) (h:mJ s t=mJ s u):t=u:=by
 have e:=GB (yE ht hs kt) (yE hu hs ku) (D9 Ww) (D9 Wv) h;obtain⟨o,z,nm,ks⟩:=t;obtain⟨o',z',Sq,ks'⟩:=u;unfold CX at e;injection e with e1 e2 e3 e4;simp only[F.op,F.num,F.name,F.kids] at e1 e2 e3 e4 kt ku;have key:∀ (l l':List F),(∀ c ∈ l,c ∈ s)->(∀ c ∈ l',c ∈ s)->l.map (rW s)=l'.map (rW s)->l=l':=by
  intro l;induction l with
  | nil=>intro l' _ _ h;cases l' with | nil=>rfl | cons a m=>cases h
  | cons a l ih =>
   intro l' h h' hh;cases l' with
   | nil=>cases hh
   | cons b m =>
    rw[aO,aO] at hh;injection hh with h1 h2;have e5:=ih m (fun c hc=>h c (by simp[hc])) (fun c hc=>h' c (by simp[hc])) h2;unfold rW at h1;injection h1 with _ _ h3 _;have h4:=Hp h3;have p:=iL (h a (by simp));have q:=iL (h' b (by simp));rw[h4,q] at p;injection p with p;rw[e5,p]
 rw[e1,e2,e3,key ks ks' kt ku e4]
def Gd (t:F):Prop:=rt t=true/\Tg 9 t
structure Pa (B k:Nat) (E:Nat->Prop) (L s:List F) (w:ag) (km:Nat) (v:aq) (us:List Co) (M:Bs->Option aq):Prop where
 bk:w.heap[k]?=some (.cells #[.map (some km),v] 163 (0,0))
 kB:B<=k
 mB:B<=km
 sz:B<=w.heap.size
 mp:kP aj 9 w km M
 dom:On M s.length
 m1:∀ i t,s[i]?=some t->M (mJ s t)=some (.int .i64 (i:Nat))
 m2:∀ x v,M x=some v->∃ i t,s[i]?=some t/\mJ s t=x/\v=.int .i64 (i:Nat)
 row:nR.Row w (k+1) v us
 len:us.length=s.length
 nd:s.Nodup
 good:∀ t ∈ s,Gd t
 cl:∀ t ∈ s,∀ c ∈ t.kids,c ∈ s
 ft:∀ (i:Nat) (u:Co) (t:F),us[i]?=some u->s[i]?=some t->FT w (NS B k E w) 9 u.u t
 ids:∀ (i:Nat) (u:Co) (t:F),us[i]?=some u->s[i]?=some t->IL B k E w (.slice u.ko u.kl u.kc) (t.kids.map (idx s))
 AV:∀ (i:Nat) (u:Co) (t:F),us[i]?=some u->s[i]?=some t->(u.b=true ↔ t ∈ L)
 sub:∀ t ∈ L,t ∈ s
 max:s.length<=900000
 ex:∀ g,E g->g<w.heap.size
 tx:∃ w0,w0.heap.size=B/\AA w0/\aA B w0 w
def St (B k:Nat) (E:Nat->Prop) (L s:List F) (w:ag):Prop:=∃ km v us M,Pa B k E L s w km v us M
theorem St.below {B k:Nat} {E:Nat->Prop} {L s:List F} {w w':ag} (h:St B k E L s w) (hb:aA w.heap.size w w'):St B k E L s w':=by
 obtain⟨km,v,us,M,h⟩:=h;obtain⟨w0,h1,h2,h3⟩:=h.tx;exact⟨km,v,us,M,{ h with
  bk:=(hb.block _ (ae h.bk)).trans h.bk
  sz:=ah h.sz hb.size
  mp:=h.mp.keep (hb.block _ h.mp.lt)
  row:=h.row.below hb
  ft:=fun i u t hu ht=>(h.ft i u t hu ht).wM (.aN hb)
  ids:=fun i u t hu ht=>(h.ids i u t hu ht).wM (.aN hb)
  ex:=fun g hg=>az (h.ex g hg) hb.size
  tx:=⟨w0,h1,h2,h3.trans (hb.mono h.sz)⟩ }⟩
theorem St.fresh {B k:Nat} {E:Nat->Prop} {L s:List F} {w:ag} (h:St B k E L s w) {g:Nat} (hg:w.heap.size<=g):¬ E g:=fun he=>by
 obtain⟨km,v,us,M,h⟩:=h;exact absurd (h.ex g he) (by omega)
theorem Sr (w:ag) (ht:AA w) :
  aW aj 69 #[] w fun e w'=>∃ k,e=.returned (.pointer (some ⟨k,0,none⟩))/\St w.heap.size k (fun _=>False) [] [] w'/\aA w.heap.size w w':=by
 have HT:=aa ht;clear ht;have RD:=@run_makeMap aj;go_enter Tryz.func69,Tryz.ntmps69;go_wp2_with fail;go_ret;have e:(w.alloc (.map #[] 0)).heap.size=w.heap.size+1:=by simp only[World.size_alloc]
 have eH:=(ax w.heap.size w).alloc (ai _) (.map #[] 0);have hb:=eH.alloc eH.size (.cells #[.map (some w.heap.size),.slice none 0 0] 163);have hm:=kP.made w aj 9;refine⟨w.heap.size+1,rfl,⟨w.heap.size,.slice none 0 0,[],fun _=>none,?_⟩,hb⟩;exact {
  bk:=by rw[<-e];exact bT _ _
  kB:=by omega
  mB:=ai _
  sz:=hb.size
  mp:=hm.keep (Below.heap_alloc _ _ _ hm.lt)
  dom:=⟨[],au _,fun x h=>by cases h⟩
  m1:=fun i t h=>by cases h
  m2:=fun x v h=>by cases h
  row:=El.Row.nil _ _
  len:=rfl
  nd:=List.nodup_nil
  good:=fun t h=>by cases h
  cl:=fun t h=>by cases h
  ft:=fun i u t h=>by cases h
  ids:=fun i u t h=>by cases h
  AV:=fun i u t h=>by cases h
  sub:=fun t h=>by cases h
  max:=au _
  ex:=fun g h=>h.elim
  tx:=⟨w,rfl,HT.out,hb⟩ }
theorem Pa.node {B k:Nat} {E:Nat->Prop} {L s:List F} {w:ag} {km:Nat} {v:aq} {us:List Co} {M:Bs->Option aq} (h:Pa B k E L s w km v us M) {i:Nat} {t:F} (hi:s[i]?=some t) :
  ∃ (g cap:Nat) (u:FU) (qo:Option cB) (ql qc:Nat) (q:Bool),(v=.slice (some ⟨g,0,none⟩) s.length cap/\i<s.length/\s.length<=cap/\cap<=bI) /\
   (w.cell? ⟨g,i*7,none⟩=some (.int .i64 u.k)/\w.cell? ⟨g,i*7+1,none⟩=some (.bool (decide (u.n.z<0)))/\w.cell? ⟨g,i*7+2,none⟩=some (.slice u.n.o u.n.l u.n.c)/\w.cell? ⟨g,i*7+3,none⟩=some (.string u.nm)/\w.cell? ⟨g,i*7+4,none⟩=some (.slice u.ko u.kl u.kc)/\w.cell? ⟨g,i*7+5,none⟩=some (.slice qo ql qc)/\w.cell? ⟨g,i*7+6,none⟩=some (.bool q)) /\
   (FT w (NS B k E w) 9 u t/\u.k=t.op/\u.nm=t.name)/\IL B k E w (.slice qo ql qc) (t.kids.map (idx s))/\(q=true ↔ t ∈ L):=by
 obtain⟨qO,e⟩:=List.getElem?_eq_some_iff.1 hi;have OM:i<us.length:=by rw[h.len];exact qO
 have hu:us[i]?=some us[i]:=List.getElem?_eq_getElem OM;have hft:=h.ft i _ t hu hi;have jU:=h.ids i _ t hu hi;have hl:=h.AV i _ t hu hi;have h0:=h.row.own;rcases h0.2 with ⟨-,h1⟩ | ⟨g,cap,cur,hv,hb,hg,h1,h2,h3,h4⟩
 ·rw[h1] at OM;exact absurd OM (ay _)
 subst hv;have key:∀ j q,(M5 us[i])[j]?=some q->w.cell? ⟨g,i*7+j,none⟩=some q:=by
  intro j q hj;have hj7:j<7:=by have:=(List.getElem?_eq_some_iff.1 hj).1;simpa [M5] using this
  rw[World.ownsRow.cellAt h0 (i*7+j) (by show i*7+j<us.length*7;omega)];exact (lB nR.f nR.len us i j OM hj7).trans hj
 obtain⟨⟨k1,k2,k3,k4⟩,FQ⟩:=id hft;exact⟨g,cap,us[i].u,_,_,_,_,⟨by rw[h.len],qO,by rw[<-h.len];exact h1,h2⟩,⟨key 0 _ rfl,key 1 _ rfl,key 2 _ rfl,key 3 _ rfl,key 4 _ rfl,key 5 _ rfl,key 6 _ rfl⟩,⟨hft,k1,k4⟩,jU,hl⟩
theorem Bw {B k:Nat} {E:Nat->Prop} {L s:List F} (w:ag) (h:St B k E L s w) (i:Nat) (t:F) (hi:s[i]?=some t) :
  aW aj 73 #[.pointer (some ⟨k,0,none⟩),.int .i64 ((i:Nat):Int)] w fun e w'=>e=.returned (.int .i64 (eI t.op))/\aA w.heap.size w w':=by
 obtain⟨km,v,us,M,hU⟩:=h;obtain⟨g,cap,u,qo,ql,qc,q,⟨rfl,qO,hcap,rL⟩,⟨c0,c1,c2,c3,c4,c5,c6⟩,⟨-,hop,-⟩,-,-⟩:=hU.node hi;rw[<-hop];have d0:=af (v:=.map (some km)) hU.bk 0 rfl;have d1:=af (v:=.slice (some ⟨g,0,none⟩) s.length cap) hU.bk 1 rfl;have zn:cap<=9223372036854775807:=rL;clear hU hop hi;go_enter Tryz.func73,Tryz.ntmps73;go_wp2_with fail;refine (yM _ _ _ _ _ _ _ _ _ _).mono ?_;rintro e w' ⟨rfl,hb⟩;go_wp2_with fail;go_ret;exact⟨rfl,hb⟩
def Vh (B k:Nat) (E:Nat->Prop) (g n:Nat) (X:ag) (ts:List F) (i:aq) (wr:ag):Prop:=
 ∃ (j:Nat) (el:List FU),i=.int .i64 (j:Nat)/\j<=n/\Hid (el.length=n)/\Hid (∀ q (h1:q<el.length) (h2:q<ts.length),q<j->FT wr (fun b=>NS B k E X b/\b<X.heap.size) 9 el[q] ts[q])/\Hid (fR.Row wr g (.slice (some ⟨g,0,none⟩) n n) el)/\Hid (aA g X wr)
theorem NO.cells {B k:Nat} {w:ag} {g:Nat} {c:Array aq} {T:bn} (h:w.heap[g]?=some (.cells c T (0,0))) (hT:T≠163/\T≠167):NO B k w g:=by
 rintro⟨-,⟨es,cl,e⟩ | ⟨c',T',e,OU,-⟩⟩
 ·rw[h] at e;cases e
 rw[h] at e;injection e with e;injection e with _ e;rcases OU with rfl | ⟨rfl,-⟩
 ·exact hT.1 e
 exact hT.2 e
theorem de {α β:Type} {f:α->Option β} {l:List α} {ts:List β} (h:l.map f=ts.map some):ts.length=l.length:=by
 have:=congrArg List.length h
 simpa using this.symm
theorem nD {α β:Type} {f:α->Option β} {l:List α} {ts:List β} (h:List.map f l=List.map some ts) (j:Nat) (h1:j<l.length) (h2:j<ts.length):f l[j]=some ts[j]:=by
 have:=congrArg (fun q:List (Option β)=>q[j]?) h
 simpa [h1,h2] using this
theorem zA {B k:Nat} {E:Nat->Prop} {L s:List F} (w:ag) (h:St B k E L s w) (v:aq) (ids:List Nat) (hv:IL B k E w v ids) (ts:List F) (hi:ids.map (fun i=>s[i]?)=ts.map some) (hl:ids.length<=900000) :
  aW aj 75 #[.pointer (some ⟨k,0,none⟩),v] w fun e w'=>∃ v',e=.returned v'/\FL w' (NS B k E w') 9 v' ts/\aA w.heap.size w w':=by
 obtain⟨ko,kc,rfl,⟨iM,ff,tW⟩,hc⟩:=id hv;have hkm:kc<=9223372036854775807:=ff;have hlen:=de hi;obtain⟨n,hn⟩:∃ n,n=ids.length:=⟨_,rfl⟩;have HS:=aa h;have HV:=aa hv;have HI:=aa hi;rw[<-hn] at iM hl hlen HV ⊢;have HN:=aa hn;have Oa:=aa hlen;clear h hv hi hn hc hlen;go_enter Tryz.func75,Tryz.ntmps75;obtain⟨k2,LV⟩:∃ k,w.heap.size=k:=⟨_,rfl⟩;have LG:=aa LV;go_upto_region 2 with (first | (at_make;refine kX fR I_ rfl (fun _=>trivial) _ rfl _ _ rfl w.heap.size _ _ _ _ n rfl rfl (by first | rfl | simp) (by first | rfl | simp) (by omega) (ai _) ?_;intro y2 hrow dI) | fail);rw[LV] at hrow dI;have HR:=aa (show fR.Row y2 k2 (.slice (some ⟨k2,0,none⟩) n n) (List.replicate n I_) from hrow);have nj:=aa dI
 clear hrow dI LV;go_wp2_with fail;go_loopw [13] (Vh B k E k2 n w ts) (fun i _=>n - (ei i).toNat)
 case atStart=>exact⟨0,_,rfl,au _,aa gI,aa (fun q _ _ h=>absurd h (ay _)),HR,nj⟩
 case round =>
  clear HR nj;obtain⟨j,el,rfl,hj,HE,HT,HR,HB⟩:=hrel;by_cases hlt:j<n
  ·have hBw:aA w.heap.size w wr:=by rw[LG.out];exact HB.out
   have lN:j<ids.length:=by rw[<-HN.out];exact hlt
   have DI:j<ts.length:=by rw[Oa.out];exact hlt
   obtain⟨i,hi⟩:∃ i,i=ids[j]:=⟨_,rfl⟩;obtain⟨t,ht⟩:∃ t,t=ts[j]:=⟨_,rfl⟩;have hst:s[i]?=some t:=by rw[hi,ht];exact nD HI.out j lN DI
   obtain⟨AX,A2,e,-,hc⟩:=HV.out.wM (dz.aN hBw);injection e with e1 e2 e3;subst e1;obtain⟨a,rfl,-,ca⟩:=hc j lN;rw[<-hi] at ca;obtain⟨km,v,us,M,hU⟩:=HS.out;obtain⟨g,cap,u,qo,ql,qc,q,⟨rfl,qO,hcap,rL⟩,⟨c0,c1,c2,c3,c4,-,-⟩,⟨hft,-,-⟩,-,-⟩:=hU.node hst;have zn:cap<=9223372036854775807:=rL;have d1:=af (v:=.slice (some ⟨g,0,none⟩) s.length cap) hU.bk 1 rfl;rw[<-hBw.cell (cu c0)] at c0;rw[<-hBw.cell (cu c1)] at c1;rw[<-hBw.cell (cu c2)] at c2;rw[<-hBw.cell (cu c3)] at c3;rw[<-hBw.cell (cu c4)] at c4;rw[<-hBw.cell (cu d1)] at d1;have U5:=aa (hft.lt.below hBw);have HTJ:=aa ht;obtain⟨⟨g0,g1,g2,g3,g4⟩,i0,i1,i2,i3,i4⟩:=Row.N3 HR.out HE.out.symm (i:=j) (by rw[HE.out];exact hlt);have Rs:=aa hBw
   clear hU hft hst hi ht hc e2 e3 lN hBw;go_wp2_with fail;go_roundw
   case rel =>
    obtain⟨r1,r2⟩:=Row.uP HR.out j (by rw[HE.out];exact hlt) HE.out.symm u rfl;have RE:=bB wr k2 j u;refine⟨j+1,el.set j u,by go_num,hlt,aa (by rw[bY];exact HE.out),aa (fun q h1 h2 h3=>?_),aa r1,aa (HB.out.trans (jH RE (by rw[<-LG.out];exact Rs.out.size) (ai _)))⟩;by_cases hqj:q=j
    ·subst hqj;rw[IP,<-HTJ.out];exact U5.out.grown RE (KN.gS r2) (fun b hb e=>by injection e with e;have h1:=LG.out;omega)
    rw[List.getElem_set_ne (fun e=>hqj e.symm)];exact (HT.out q (by rw[bY] at h1;exact h1) h2 (by omega)).grown RE (KN.gS r2) (fun b hb e=>by injection e with e;have h1:=LG.out;omega)
   case measure=>simp[ei];omega
  have ej:j=n:=by omega
  subst ej;go_wp2_with fail;go_ret;have hBw:aA w.heap.size w wr:=by rw[LG.out];exact HB.out
  refine⟨_,rfl,FL.Jg HR.out HE.out.symm (by rw[HE.out];exact Oa.out.symm) ?_ (fun q h1 h2=>(HT.out q h1 h2 (by have h3:=HE.out;omega)).mono fun b hb=>⟨(dz.aN hBw).no hb.2 hb.1.1,hb.1.2⟩),hBw⟩;obtain⟨c,hc,-⟩:=HR.out.n32 k2 rfl;exact⟨NO.cells hc (by decide),HS.out.fresh (by have:=LG.out;omega)⟩
end Go.Proofs.YtoncclhbdkjhmaaGreatDoor
namespace Go.Proofs
open Go.Shelf
def Tryz.Ap:Go.Shelf.Ren:=⟨fun | 171=>103 | 243=>152 | 246=>185 | 283=>198 | 284=>199 | 285=>200 | 286=>201 | 129=>217 | 317=>218 | 318=>219 | 319=>220 | 320=>221 | 337=>233 | 338=>234 | n=>n,fun | 3=>3 | 9=>9 | 2=>2 | 4=>4 | 171=>233 | 0=>0 | 53=>130 | 37=>99 | 5=>5 | 173=>236 | 212=>256 | 51=>153 | 20=>20 | 213=>257 | 46=>183 | 232=>277 | 233=>278 | n=>n,fun | 17=>3 | 18=>11 | 19=>12 | n=>n⟩
theorem Tryz.Hi:Go.Proofs.LaysM.n171 aj Tryz.Ap:={
 mixed:=by kernel_rfl
 f129:=Tryz.func217.trans (congrArg some (by kernel_rfl))
 f171:=Tryz.func103.trans (congrArg some (by kernel_rfl))
 f243:=Tryz.func152.trans (congrArg some (by kernel_rfl))
 f246:=Tryz.func185.trans (congrArg some (by kernel_rfl))
 f283:=Tryz.func198.trans (congrArg some (by kernel_rfl))
 f284:=Tryz.func199.trans (congrArg some (by kernel_rfl))
 f285:=Tryz.func200.trans (congrArg some (by kernel_rfl))
 f286:=Tryz.func201.trans (congrArg some (by kernel_rfl))
 f317:=Tryz.func218.trans (congrArg some (by kernel_rfl))
 f318:=Tryz.func219.trans (congrArg some (by kernel_rfl))
 f319:=Tryz.func220.trans (congrArg some (by kernel_rfl))
 f320:=Tryz.func221.trans (congrArg some (by kernel_rfl))
 f337:=Tryz.func233.trans (congrArg some (by kernel_rfl))
 f338:=Tryz.func234.trans (congrArg some (by kernel_rfl))
 t0:=Tryz.underlying0
 a0:=Tryz.isAgg0
 z0:=Tryz.sizeOf0
 v0:=Tryz.zeroValue0
 t2:=Tryz.underlying2
 a2:=Tryz.isAgg2
 z2:=Tryz.sizeOf2
 v2:=Tryz.zeroValue2
 t3:=jf
 a3:=Tryz.isAgg3
 z3:=Tryz.sizeOf3
 v3:=Tryz.zeroValue3
 t4:=Tryz.underlying4
 a4:=Tryz.isAgg4
 z4:=Tryz.sizeOf4
 v4:=Tryz.zeroValue4
 t5:=Tryz.underlying5
 a5:=Tryz.isAgg5
 z5:=Tryz.sizeOf5
 v5:=Tryz.zeroValue5
 t9:=fh
 a9:=Tryz.isAgg9
 z9:=Tryz.sizeOf9
 v9:=Tryz.zeroValue9
 t20:=Tryz.underlying20
 a20:=Tryz.isAgg20
 z20:=Tryz.sizeOf20
 v20:=Tryz.zeroValue20
 t37:=Tryz.underlying99
 a37:=Tryz.isAgg99
 z37:=Tryz.sizeOf99
 v37:=Tryz.zeroValue99
 t46:=Tryz.underlying183
 a46:=Tryz.isAgg183
 z46:=Tryz.sizeOf183
 v46:=Tryz.zeroValue183
 t51:=Tryz.underlying153
 a51:=Tryz.isAgg153
 z51:=Tryz.sizeOf153
 v51:=Tryz.zeroValue153
 t53:=Tryz.underlying130
 a53:=Tryz.isAgg130
 z53:=Tryz.sizeOf130
 v53:=Tryz.zeroValue130
 t171:=Tryz.underlying233
 a171:=Tryz.isAgg233
 z171:=Tryz.sizeOf233
 v171:=Tryz.zeroValue233
 t173:=Tryz.underlying236
 a173:=Tryz.isAgg236
 z173:=Tryz.sizeOf236
 v173:=Tryz.zeroValue236
 t212:=Tryz.underlying256
 a212:=Tryz.isAgg256
 z212:=Tryz.sizeOf256
 v212:=Tryz.zeroValue256
 t213:=Tryz.underlying257
 a213:=Tryz.isAgg257
 z213:=Tryz.sizeOf257
 t232:=Tryz.underlying277
 a232:=Tryz.isAgg277
 z232:=Tryz.sizeOf277
 v232:=Tryz.zeroValue277
 t233:=Tryz.underlying278
 a233:=Tryz.isAgg278
 z233:=Tryz.sizeOf278
 v233:=Tryz.zeroValue278
 g17:=by kernel_rfl
 g18:=by kernel_rfl
 g19:=by kernel_rfl
 i0:=by kernel_rfl
 i2:=by kernel_rfl
 i3:=by kernel_rfl
 i4:=by kernel_rfl
 i5:=by kernel_rfl
 i9:=by kernel_rfl
 i20:=by kernel_rfl
 i37:=by kernel_rfl
 i46:=by kernel_rfl
 i51:=by kernel_rfl
 i53:=by kernel_rfl
 i171:=by kernel_rfl
 i173:=by kernel_rfl
 i212:=by kernel_rfl
 i232:=by kernel_rfl
 i233:=by kernel_rfl
 m17:=by kernel_rfl
 m18:=by kernel_rfl
 m19:=by kernel_rfl }
open Go.RowKit Go.Sort Go.Lib in
theorem Tryz.Ao (n : Int) (h0 : -9223372036854775808 ≤ n) (h1 : n ≤ 9223372036854775807) (w : ag) (htab : Lib.TabIs aj w "internal/strconv.uint64pow10" .u64 Lib.pow10Tab) :
  aW aj 103 #[.int .i64 n] w fun e w'=>e=.returned (.string ⟨(Lib.itoa n).toArray⟩)/\∃ k os,w'=grow (w.drewN k) os:=Any.strconv_Itoa Tryz.Hi n h0 h1 w htab
end Go.Proofs
namespace Go.Proofs.YtoncclhbdkjhmaaGreatDoor
open Go.RowKit Go.Sort
set_option maxRecDepth 100000
set_option linter.unusedVariables false
set_option linter.unusedSimpArgs false
attribute [local go_sem] eF eE eC eB
theorem Nf (i:Nat) (hi:i<=1000000) (w:ag) (ht:AA w):aW aj 103 #[.int .i64 ((i:Nat):Int)] w fun e w'=>e=.returned (.string (mZ i))/\aA w.heap.size w w':=
 (Tryz.Ao (i:Int) (by omega) (by omega) w ht.Si).mono fun e w' ⟨he,k,os,hw⟩=>⟨by rw[he];rfl,by
  subst hw
  exact⟨rfl,rfl,rfl,by show w.heap.size<=(w.heap++os).size;rw[Array.size_append];omega,fun i hi=>heap_grow_old w os hi⟩⟩
def Ur (g n:Nat) (X:ag) (ts:List F) (i:aq) (wr:ag):Prop:=
 ∃ (j:Nat) (el:List FU),i=.int .i64 (j:Nat)/\j<=n/\Hid (el.length=n)/\Hid (∀ q (h1:q<el.length) (h2:q<ts.length),q<j->FT wr (fun _=>False) 1 el[q] ts[q])/\Hid (fR.Row wr g (.slice (some ⟨g,0,none⟩) n n) el)/\Hid (aA g X wr)
theorem St.tx {B k:Nat} {E:Nat->Prop} {L s:List F} {w:ag} (h:St B k E L s w):AA w:=by
 obtain⟨km,v,us,M,hU⟩:=h;obtain⟨w0,rfl,h2,h3⟩:=hU.tx;exact h2.below h3
theorem St.len {B k:Nat} {E:Nat->Prop} {L s:List F} {w:ag} (h:St B k E L s w):s.length<=900000:=by
 obtain⟨km,v,us,M,hU⟩:=h;exact hU.max
theorem NR0:Hid (∀ w:ag,NR w ⟨none,0,0,0⟩):=aa fun w=>NR.of (by rw[show fJ aG (0:Int).natAbs=[] from by unfold fJ;rfl];exact Sl.nil w .u32) (eT (k:=4) (k':=600) z4 (by decide))
theorem PF {w:ag} {s:List F} {c:F}:FT w (fun _=>False) 1 ⟨mI (eI c.op),⟨none,0,0,0⟩,mZ (idx s c),none,0,0⟩ (rW s c):=by
 have h:IR (mI (eI c.op)):=by rcases wP (eI c.op) with h | h | h<;>rw[h]<;>exact⟨by decide,by decide⟩
 exact⟨⟨rfl,h,rfl,rfl⟩,NR0.out w,[],rfl,⟨rfl,ai _,au _,fun _=>rfl⟩,fun h=>absurd rfl h,fun i hi=>absurd hi (ay i)⟩
theorem Mv {B k:Nat} {E:Nat->Prop} {L s:List F} (w:ag) (h:St B k E L s w) (S:Nat->Prop) (dd:Nat) (op:Int) (b:Bool) (ao:Option cB) (l c:Nat) (nm:ByteArray) (po:Option cB) (pl pc:Nat) (t:F) (hf:FC w S dd (.agg #[.int .i64 op,.bool b,.slice ao l c,.string nm,.slice po pl pc]) t)
  (hg:Gd t) (v:aq) (hv:IL B k E w v (t.kids.map (idx s))) (hks:∀ x ∈ t.kids,x ∈ s) :
  aW aj 166 #[.pointer (some ⟨k,0,none⟩),.agg #[.int .i64 op,.bool b,.slice ao l c,.string nm,.slice po pl pc],v] w fun e w'=>e=.returned (.string ⟨(mJ s t).toArray⟩)/\aA w.heap.size w w':=by
 obtain⟨b',o',l',c',po',pl',pc',e,⟨Xi,hz,-,-,-⟩,-,-⟩:=hf.open;simp only[Value.agg.injEq,Array.mk.injEq,List.cons.injEq,Value.int.injEq,Value.bool.injEq,Value.slice.injEq,Value.string.injEq,true_and,and_true] at e;obtain⟨rfl,rfl,⟨rfl,rfl,rfl⟩,rfl,rfl,rfl,rfl⟩:=e;obtain⟨o,ho⟩:∃ o,o=t.op:=⟨_,rfl⟩;obtain⟨nm,hnm⟩:∃ o,o=t.name:=⟨_,rfl⟩;rw[<-ho] at Xi;rw[<-ho,<-hnm];obtain⟨ko,kc,rfl,⟨iM,ff,tW⟩,hc⟩:=id hv;have hkm:kc<=9223372036854775807:=ff;rw[cT] at iM hv ⊢;have Et:t.kids.length<=8:=hg.2.2.2.2.1;obtain⟨n,hn⟩:∃ n,n=t.kids.length:=⟨_,rfl⟩;rw[<-hn] at iM Et hv ⊢;have HS:=aa h;have HV:=aa hv;have HN:=aa hn;have DL:=aa hks;have HG:=aa hg;have HZ:=aa hz;have HO:=aa ho;have Mf:=aa hnm
 have HIR:=aa Xi;clear h hv hf hn hc hz ho hnm hg hks Xi;have HW:=aa (ax w.heap.size w);go_enter Tryz.func166,Tryz.ntmps166;obtain⟨x1,kf,ef,jK,bL,jc,aE⟩:=aM w #[.int .i64 o,.bool b,.slice ao l c,.string nm,.slice po pl pc] 29;replace HW:=aa (HW.out.trans (bL.out.mono HW.out.size));have Wa:Hid (w.heap.size<=kf):=jc;have Gq:=aa (ae aE.out);obtain⟨k2,LV⟩:∃ k,x1.heap.size=k:=⟨_,rfl⟩;go_upto_region 2 with (first | (at_make;refine kX fR I_ rfl (fun _=>trivial) _ rfl _ _ rfl x1.heap.size _ _ _ _ n rfl rfl (by first | rfl | simp) (by first | rfl | simp) (by omega) (ai _) ?_;intro y2 hrow dI;have Cr:=aS dI aE;have c4:=af (v:=.slice po pl pc) Cr.out 4 rfl;have cC:=aP Cr.out 4) | fail);clear c4 cC;rw[LV] at hrow dI
 have hlf:kf<k2:=by rw[<-LV];exact Gq.out
 have fg:y2.grownBy (y2.setCell ⟨kf,4,none⟩ (.slice (some ⟨k2,0,none⟩) n n)) (some kf):=aF (aI _ _) _;have lZ:=heap_setCell_same y2 kf 4 _ _ (.slice (some ⟨k2,0,none⟩) n n) Cr.out;obtain⟨W1,nN⟩:∃ y,y=y2.setCell ⟨kf,4,none⟩ (.slice (some ⟨k2,0,none⟩) n n):=⟨_,rfl⟩;rw[<-nN] at fg lZ ⊢;have ru:Fr 29 y2 W1:=.aL fg (fun j hj=>by injection hj with hj;subst hj;exact⟨_,Cr.out,cH⟩);have HR:=aa (El.Row.js (show fR.Row y2 k2 (.slice (some ⟨k2,0,none⟩) n n) (List.replicate n I_) from hrow) fg (fun j hj e=>by have A7:k2=j:=(by simpa [Value.ownBlock] using hj);omega) ru trivial);have TA:aA w.heap.size w y2:=HW.out.trans ((show aA k2 x1 y2 from dI).mono (by rw[<-LV];exact HW.out.size))
 have Ql:=bA TA fg Wa.out;have hb:=Ql;clear hb;replace aE:Hid (W1.heap[kf]?=some (.cells #[.int .i64 o,.bool b,.slice ao l c,.string nm,.slice (some ⟨k2,0,none⟩) n n] 29 (0,0))):=aa lZ;replace HW:=aa Ql;clear hrow dI fg lZ nN ru TA Ql Cr LV;have U0:Hid (w.heap.size<=kf/\kf<k2):=aa ⟨Wa.out,hlf⟩;clear hlf Wa Gq bL jc;have Yx:Hid ((t.kids.map (rW s)).length=n):=aa (by rw[cT];exact HN.out.symm);have jz:=aa (ax k2 W1);have qw:=aE;go_wp2_with fail;go_loopw [15] (Ur k2 n W1 (t.kids.map (rW s))) (fun i _=>n - (ei i).toNat)
 case atStart=>exact⟨0,_,rfl,au _,aa gI,aa (fun q _ _ h=>absurd h (ay _)),HR,jz⟩
 case round =>
  obtain⟨wl,rfl⟩:∃ q,q=wr:=⟨_,rfl⟩;clear HR aE jz;obtain⟨j,el,rfl,hj,HE,HT,HR,HB⟩:=hrel;have aE:=aa ((HB.out.block kf U0.out.2).trans qw.out);have N9:Hid (aA w.heap.size w wl):=aa (HW.out.trans (HB.out.mono (by have:=U0.out;omega)));have RP:Hid (k2<wl.heap.size):=aa (HR.out.ge rfl).2;by_cases hlt:j<n
  ·have HJ:Hid (j<t.kids.length):=aa (by rw[<-HN.out];exact hlt);obtain⟨x,hx⟩:∃ x,x=t.kids[j]'HJ.out:=⟨_,rfl⟩;have hxs:x ∈ s:=DL.out x (by rw[hx];exact ct HJ.out);obtain⟨i,hi⟩:∃ i,i=idx s x:=⟨_,rfl⟩;obtain⟨ko9,kc9,e9,-,tJ⟩:=HV.out.wM (dz.aN N9.out);injection e9 with e1 e2 e3;subst e1;obtain⟨a,rfl,-,ca⟩:=tJ j (by rw[cT];exact HJ.out);rw[gp,<-hx,<-hi] at ca;have hib:i<=1000000:=by rw[hi];exact ah (wK (BG hxs)) (ah HS.out.len (by decide))
   have V0:Hid (s[i]?=some x):=aa (by rw[hi];exact iL hxs);obtain⟨sx,zk⟩:∃ z,z=eI x.op:=⟨_,rfl⟩;have Ag:=aa zk;have HX:=aa hx;have HII:=aa hi;have Wd:=aa hib;clear tJ e2 e3 hx hxs hi hib zk;go_upto_region 5 with fail;clear ca;have fB:=ae aE.out;have ik:Hid (∀ q,q<0->(fun q=>0) q<wl.heap.size):=aa (fun q h=>absurd h (ay _));refine R7.region (by kernel_rfl) [[],[0],[],[],[3],[],[],[3,4,5,6],[3,4,5,6,7],[0,1,2,3,4,5,6,7,8],[0,1,2,3,4,5,6,7,8,9]] [] [] (fun q=>0) 0 10 (by kernel_rfl) (by kernel_rfl) (by rfl) ik.out (fun q q' h h' hn=>absurd hn (by omega)) ?_;refine R7.aB.da ?_ (by rfl) (fun T xs wr hA=>?_) ?_;rotate_left 1
   ·have e4:=hA.pre 4 (by kernel_rfl);simp only[g_,iC,iz] at e4;clear hA;refine⟨(by rfl),?_⟩;go_simp<;>(try with_reducible rfl)
   refine R7.aB.da ?_ (by rfl) (fun T xs wr hA=>?_) ?_;rotate_left 1
   ·have Lj:=hA.tm 0 20 (by rfl) (by rfl);have f20:xs 0=_:=hA.fa 0 (by rfl);(try simp (disch:=first | rfl | decide) only [R7.an] at f20);rw[f20] at Lj;clear f20;have bx:wr.heap[kf]?=_:=(hA.bl _ fB (fun q h=>absurd h (ay _))).trans aE.out;have q0:=af (v:=.int .i64 o) bx 0 rfl;have q1:=af (v:=.bool b) bx 1 rfl;have q2:=af (v:=.slice ao l c) bx 2 rfl;have q3:=af (v:=.string nm) bx 3 rfl;have q4:=af (v:=.slice (some ⟨k2,0,none⟩) n n) bx 4 rfl;clear bx;clear hA;refine⟨(by rfl),?_⟩;go_simp<;>(try with_reducible rfl)
   refine R7.aB.da ?_ (by rfl) (fun T xs wr hA=>?_) ?_;rotate_left 1
   ·have e7:=hA.pre 7 (by kernel_rfl);simp only[g_,iC,iz] at e7;clear hA;refine⟨(by rfl),?_⟩;go_simp<;>(try with_reducible rfl)
   refine R7.aB.da ?_ (by rfl) (fun T xs wr hA=>?_) ?_;rotate_left 1
   ·have e8:=hA.pre 8 (by kernel_rfl);simp only[g_,iC,iz] at e8;clear hA;refine⟨(by rfl),?_⟩;go_simp<;>(try with_reducible rfl)
   refine R7.aB.call (fun xs v w=>v=.string (mZ i)) (fun _ _ _ _ h _=>h) (fun _ _ _ _ _ h _ _=>h) (by rfl) (fun T xs wr hA=>?_) ?_
   ·have th:=(hA.be 0 (au _) (fun _ _=>au _)).size;have Li:=hA.tm 3 23 (by rfl) (by rfl);have f23:xs 3=_:=hA.fa 3 (by rfl);(try simp (disch:=first | rfl | decide) only [R7.an] at f23);rw[f23] at Li;clear f23;have kD:=cm (hA.be wl.heap.size (ai _) (fun q h=>absurd h (ay q)));have P2:=HS.out.below (N9.out.trans (kD.mono N9.out.size));clear hA;refine⟨(by rfl),fun K hK=>?_⟩;go_simp;refine (Nf i Wd.out _ P2.tx).mono ?_;rintro e w' ⟨rfl,hb'⟩;exact hK.out _ _ rfl hb'
   refine R7.aB.da ?_ (by rfl) (fun T xs wr hA=>?_) ?_;rotate_left 1
   ·have e0:=hA.pre 0 (by kernel_rfl);simp only[g_,iz] at e0;clear hA;refine⟨(by rfl),?_⟩;go_simp<;>(try with_reducible rfl)
   refine R7.aB.da ?_ (by rfl) (fun T xs wr hA=>?_) ?_;rotate_left 1
   ·have e8:=hA.pre 8 (by kernel_rfl);simp only[g_,iC,iz] at e8;clear hA;refine⟨(by rfl),?_⟩;go_simp<;>(try with_reducible rfl)
   refine R7.aB.call (fun xs v w=>v=.int .i64 sx) (fun _ _ _ _ h _=>h) (fun _ _ _ _ _ h _ _=>h) (by rfl) (fun T xs wr hA=>?_) ?_
   ·have th:=(hA.be 0 (au _) (fun _ _=>au _)).size;have O0:=hA.tm 5 25 (by rfl) (by rfl);have f25:xs 5=_:=hA.fa 5 (by rfl);(try simp (disch:=first | rfl | decide) only [R7.an] at f25);rw[f25] at O0;clear f25;have Ua:=hA.tm 6 26 (by rfl) (by rfl);have f26:xs 6=_:=hA.fa 6 (by rfl);(try simp (disch:=first | rfl | decide) only [R7.an] at f26);rw[f26] at Ua;clear f26;have kD:=cm (hA.be wl.heap.size (ai _) (fun q h=>absurd h (ay q)));have P2:=HS.out.below (N9.out.trans (kD.mono N9.out.size));clear hA;refine⟨(by rfl),fun K hK=>?_⟩;go_simp;refine (Bw _ P2 i x V0.out).mono ?_;rintro e w' ⟨rfl,hb'⟩;rw[<-Ag.out];exact hK.out _ _ rfl hb'
   refine R7.aB.call (fun xs v w=>v=.agg #[.int .i64 (mI sx),.bool false,.slice none 0 0,.string (mZ i),.slice none 0 0]) (fun _ _ _ _ h _=>h) (fun _ _ _ _ _ h _ _=>h) (by rfl) (fun T xs wr hA=>?_) ?_
   ·have th:=(hA.be 0 (au _) (fun _ _=>au _)).size;have I1:=hA.tm 4 24 (by rfl) (by rfl);have f24:xs 4=(.string (mZ i)):=hA.fa 4 (by rfl);rw[f24] at I1;clear f24;have T_:=hA.tm 7 27 (by rfl) (by rfl);have f27:xs 7=(.int .i64 sx):=hA.fa 7 (by rfl);rw[f27] at T_;clear f27;have kD:=cm (hA.be wl.heap.size (ai _) (fun q h=>absurd h (ay q)));clear hA;refine⟨(by rfl),fun K hK=>?_⟩;go_simp;refine (RZ _ _ _).mono ?_;rintro e w' ⟨rfl,hb'⟩;exact hK.out _ _ rfl hb'
   refine R7.aB.da ?_ (by rfl) (fun T xs wr hA=>?_) ?_;rotate_left 1
   ·have L_:=hA.tm 1 21 (by rfl) (by rfl);have f21:xs 1=_:=hA.fa 1 (by rfl);(try simp (disch:=first | rfl | decide) only [R7.an] at f21);rw[f21] at L_;clear f21;have L9:=hA.tm 2 22 (by rfl) (by rfl);have f22:xs 2=_:=hA.fa 2 (by rfl);(try simp (disch:=first | rfl | decide) only [R7.an] at f22);rw[f22] at L9;clear f22;clear hA;refine⟨(by rfl),?_⟩;go_simp<;>(try with_reducible rfl)
   refine R7.aB.done (fun xs AD hL=>?_);obtain⟨⟨iY,dw⟩,hf,-,-⟩:=hL;have f0:xs 0=_:=hf 0 (by decide);(try simp (disch:=first | rfl | decide) only [R7.an] at f0);have f1:xs 1=_:=hf 1 (by decide);(try simp (disch:=first | rfl | decide) only [R7.an] at f1);have f2:xs 2=_:=hf 2 (by decide);(try simp (disch:=first | rfl | decide) only [R7.an] at f2);have f3:xs 3=_:=hf 3 (by decide);(try simp (disch:=first | rfl | decide) only [R7.an] at f3);have f4:xs 4=(.string (mZ i)):=hf 4 (by decide);have f5:xs 5=_:=hf 5 (by decide);(try simp (disch:=first | rfl | decide) only [R7.an] at f5);have f6:xs 6=_:=hf 6 (by decide);(try simp (disch:=first | rfl | decide) only [R7.an] at f6);have f7:xs 7=(.int .i64 sx):=hf 7 (by decide)
   have f8:xs 8=(.agg #[.int .i64 (mI sx),.bool false,.slice none 0 0,.string (mZ i),.slice none 0 0]):=hf 8 (by decide);have f9:xs 9=_:=hf 9 (by decide);(try simp (disch:=first | rfl | decide) only [R7.an] at f9);have hb0:aA 0 wl AD:=cm (iY 0 (au _) (fun _ _=>au _));have mP:∀ j,j<wl.heap.size->(∀ q,q<0->(fun q=>0) q≠j)->AD.heap[j]?=wl.heap[j]?:=dw;clear iY dw hf;have hb:aA wl.heap.size wl AD:=⟨hb0.os,hb0.tape,hb0.output,hb0.size,fun q hq=>mP q hq (fun q h=>absurd h (ay _))⟩;refine R7.jD (by decide) (by kernel_rfl) ?_;simp only[R7.fill,Jo,Jn,Jm,Jl,GG,GF,GD,f0,f1,f2,f3,f4,f5,f6,f7,f8,f9];clear hb0 mP ik fB f0 f1 f2 f3 f4 f5 f6 f7 f8 f9;replace HR:=aa (HR.out.below hb)
   replace HB:=aa (HB.out.trans (hb.mono (wK RP.out)));replace HT:=aa (fun q h1 h2 h3=>(HT.out q h1 h2 h3).below hb);replace hb:=aa hb;obtain⟨⟨g0,g1,g2,g3,g4⟩,i0,i1,i2,i3,i4⟩:=Row.N3 HR.out HE.out.symm (i:=j) (by rw[HE.out];exact hlt);go_wp2_with fail;go_roundw
   case rel =>
    obtain⟨r1,r2⟩:=Row.uP HR.out j (by rw[HE.out];exact hlt) HE.out.symm (⟨mI sx,⟨none,0,0,0⟩,mZ i,none,0,0⟩:FU) rfl;have RE:=bB AD k2 j (⟨mI sx,⟨none,0,0,0⟩,mZ i,none,0,0⟩:FU);refine⟨j+1,el.set j (⟨mI sx,⟨none,0,0,0⟩,mZ i,none,0,0⟩:FU),by go_num,hlt,aa (by rw[bY];exact HE.out),aa (fun q h1 h2 h3=>?_),aa r1,aa (HB.out.trans (jH RE (wK (HR.out.ge rfl).2) (ai _)))⟩;by_cases hqj:q=j
    ·subst hqj;rw[IP,gp,<-HX.out,Ag.out,HII.out];exact PF
    rw[List.getElem_set_ne (fun e=>hqj e.symm)];exact (HT.out q (by rw[bY] at h1;exact h1) h2 (by omega)).grown RE (KN.gS r2) (fun b hb e=>hb.elim)
   case measure=>simp[ei];omega
  have ej:j=n:=by omega
  subst ej;obtain⟨⟨c0,c1,c2,c3,c4⟩,cA,cG,cF,cE,cC⟩:=ak aE.out;go_wp2_with fail;have hfl:FL wl (fun b=>b=k2) 1 (.slice (some ⟨k2,0,none⟩) j j) (t.kids.map (rW s)):=FL.Jg HR.out HE.out.symm (by rw[HE.out];exact Yx.out.symm) rfl (fun q h1 h2=>(HT.out q h1 h2 (by have h3:=HE.out;omega)).mono fun b hb=>hb.elim);have FW:=FC.mk (nm:=nm) HIR.out (HZ.out.below N9.out) hfl;have ek:F.node o t.num nm (t.kids.map (rW s))=CX s t:=by rw[HO.out,Mf.out];rfl
  rw[ek] at FW;refine (Mw 2 _ (CX s t) _ _ FW (D9 HG.out.1) (yE HG.out.2 (ah HS.out.len (by decide)) DL.out) (ah (xU 2 _ (yE HG.out.2 (ah HS.out.len (by decide)) DL.out)) (FI 2 (by decide))) (HS.out.below N9.out).tx).mono ?_;rintro e w' ⟨rfl,hb⟩;clear c0 cA c1 cG c2 cF c3 cE c4 cC hfl FW ek;have HF:=aa (N9.out.trans (hb.mono N9.out.size));clear hb;go_wp2_with fail;go_ret;exact⟨rfl,HF.out⟩
end Go.Proofs.YtoncclhbdkjhmaaGreatDoor
namespace Go.Proofs.YtoncclhbdkjhmaaGreatDoor
open Go.RowKit
set_option maxRecDepth 100000
set_option linter.unusedVariables false
namespace kJ
open R7
def vz (d:Nat->Bool) (i:Nat):Nat->Bool:=fun j=>decide (j=i) || d j
section
variable {P:Program} {ops:List Oper} {D:List (List Nat)} {m:Nat} {t0:Array aq} {ds:List Deferred} {Q:Exit->Act->ag->Prop}
theorem main (hok:ok ops D m t0.size=true) (hin:uW ops m=true) (J:(Nat->Bool)->Array aq->ag->Prop)
  (hstep:∀ d T wc i o,J d T wc->ops[i]?=some o->i<m->d i=false->(∀ j,(dep D i).contains j=true->d j=true)->(∀ j k,d j=true->(dep D j).contains k=true->d k=true)->o.guard=none/\∀ K:Act->ag->Prop,Hid (∀ T' w',J (vz d i) T' w'->K ⟨T',ds⟩ w')->o.wp P ⟨T,ds⟩ wc K Q)
  (FQ:∀ T wc,J (fun j=>decide (j<m)) T wc->qy P ops.toArray Q (ops.drop m) ⟨T,ds⟩ wc) :
  ∀ (fuel:Nat) (l:Array Bool) (T:Array aq) (w:ag),l.size=ops.length->l.toList.count false=fuel->(∀ j,l.getD j false=true->j<m)->(∀ j k,l.getD j false=true->(dep D j).contains k=true->l.getD k false=true)->J (fun j=>l.getD j false) T w->wpAny P .any ops.toArray Q fuel l ⟨T,ds⟩ w:=by
 have hml:=rX hok;have fin:∀ (l:Array Bool) (T:Array aq) (w:ag),l.size=ops.length->(∀ j,l.getD j false=true->j<m)->(∀ j,j<m->l.getD j false=true)->J (fun j=>l.getD j false) T w->wpAny P .any ops.toArray Q (l.toList.count false) l ⟨T,ds⟩ w:=by
  intro l T w hs hlt hall hJ;have hl:l=AV ops.length m:=by
   refine Array.ext (by simp[AV,hs];omega) fun i h1 h2=>?_
   have e1:l[i]=l.getD i false:=by simp[Array.getD_eq_getD_getElem?,h1]
   rw[e1];by_cases hi:i<m
   ·rw[hall i hi];simp[AV,hi]
   have:l.getD i false=false:=by
    cases h:l.getD i false with
    | false=>rfl
    | true=>exact absurd (hlt i h) hi
   rw[this];simp[AV,List.getElem_append,hi]
  have VE:(fun j=>l.getD j false)=fun j=>decide (j<m):=funext fun j=>by
   by_cases hj:j<m
   ·rw[hall j hj];simp[hj]
   cases h:l.getD j false with
   | false=>simp[hj]
   | true=>exact absurd (hlt j h) hj
  rw[VE] at hJ;have hc:l.toList.count false=ops.length - m:=by rw[hl];simp[AV,List.count_append,List.count_replicate]
  rw[hc,hl];refine yO (ops.length - m) m (by omega) (fun i h1 h2=>?_) _ _ (FQ T w hJ);unfold uW at hin;have:=List.all_eq_true.1 hin i (List.mem_range.2 h2);simp only[e_,decide_eq_true_eq,beq_iff_eq] at this;exact this.resolve_left (by omega)
 intro fuel;induction fuel with
 | zero =>
  intro l T w hs hc hlt dO hJ;rw[<-hc];refine fin l T w hs hlt (fun j hj=>?_) hJ;rw[Array.getD_eq_getD_getElem?,Array.getElem?_eq_getElem (by omega)];simp only[jb];have h0:=List.count_eq_zero.1 hc;cases h:l[j]'(by omega) with
  | true=>rfl
  | false=>exact absurd (by rw[<-h];simp) h0
 | succ fuel ih =>
  intro l T w hs hc hlt dO hJ;by_cases hall:∀ j,j<m->l.getD j false=true
  ·rw[<-hc];exact fin l T w hs hlt hall hJ
  have tf:∀ i,i<ops.length->(l.getD i true=false ↔ l.getD i false=false):=fun i hi=>by simp[Array.getD_eq_getD_getElem?,show i<l.size by omega]
  refine⟨fun h0=>?_,fun i hi=>?_⟩
  ·have:∃ j,(j<m/\l.getD j false≠true)/\∀ i,i<j->l.getD i false=true:=by
    obtain⟨j,hj⟩:=Classical.not_forall.1 hall;obtain⟨ZJ,A7⟩:=Classical.not_imp.1 hj;clear hj;induction j using Nat.strongRecOn with
    | ind j ihj =>
     by_cases h:∀ i,i<j->l.getD i false=true
     ·exact⟨j,⟨ZJ,A7⟩,h⟩
     obtain⟨i,hi⟩:=Classical.not_forall.1 h;obtain⟨vY,qm⟩:=Classical.not_imp.1 hi;exact ihj i vY (by omega) qm
   obtain⟨j,⟨ZJ,A7⟩,Xg⟩:=this;have lN:j<ops.length:=by omega
   have hm:j ∈ Region.ready .any ops.toArray l:=by
    rw[mem_ready];refine⟨(tf j lN).2 (by simpa using A7),ops[j],by simp[lN],fun e he hb=>Xg _ ?_⟩;exact (n_ hok (List.getElem?_eq_getElem lN)).1 e he hb
   rw[h0] at hm;cases hm
  obtain⟨h1,o,ho,he⟩:=mem_ready.1 hi;have ji:ops[i]?=some o:=by simpa using ho
  have qO:i<ops.length:=(List.getElem?_eq_some_iff.1 ji).1;have L0:=(tf i qO).1 h1;have hk:=n_ hok ji;have aH:∀ j,(dep D i).contains j=true->l.getD j false=true:=fun j hj=>by
   obtain⟨⟨e,e1,e2,e3⟩,-,-⟩:=hk.2.1 j hj;have:=he e e1 e2;rcases e3 with e3 | e3
   ·rw[<-e3];exact this
   exact dO _ _ this e3
  have DK:i<m:=by
   rcases hk.2.2.1 with h | h
   ·exact h
   exact absurd (fun j hj=>aH j (h j hj)) hall
  obtain⟨hg,hw⟩:=hstep _ T w i o hJ ji DK L0 aH dO;unfold wpOp;rw[ho];have SG:Region.wanted o (yielded ops.toArray T)=true:=by unfold Region.wanted;rw[hg]
  simp only[SG,if_true];refine Or.inl (hw _ (aa fun T' w' hJ'=>?_));have Nx:i<l.size:=by omega
  have WS:(fun j=>(l.setIfInBounds i true).getD j false)=vz (fun j=>l.getD j false) i:=funext fun j=>R7.eJ Nx
  have Xl:l.toList[i]?=some false:=by
   rw[Array.getElem?_toList,Array.getElem?_eq_getElem Nx];have:=L0;rw[Array.getD_eq_getD_getElem?,Array.getElem?_eq_getElem Nx] at this;exact congrArg some this
  refine ih _ T' w' (by simpa using hs) ?_ (fun j hj=>?_) (fun j k hj DJ=>?_) (by rw[WS];exact hJ')
  ·rw[Array.toList_setIfInBounds];have:=pF Xl;omega
  ·rw[R7.eJ Nx,e_,decide_eq_true_eq] at hj;rcases hj with rfl | hj
   ·exact DK
   exact hlt j hj
  rw[R7.eJ Nx,e_,decide_eq_true_eq] at hj ⊢;rcases hj with rfl | hj
  ·exact .inr (aH k DJ)
  exact .inr (dO j k hj DJ)
theorem region {id:Nat} {w:ag} (hm:P.follows .mixedOrders=true) (D:List (List Nat)) (m:Nat) (hok:ok ops D m t0.size=true) (hin:uW ops m=true) (J:(Nat->Bool)->Array aq->ag->Prop)
  (h0:J (fun _=>false) t0 w.drew)
  (hstep:∀ d T wc i o,J d T wc->ops[i]?=some o->i<m->d i=false->(∀ j,(dep D i).contains j=true->d j=true)->(∀ j k,d j=true->(dep D j).contains k=true->d k=true)->o.guard=none/\∀ K:Act->ag->Prop,Hid (∀ T' w',J (vz d i) T' w'->K ⟨T',ds⟩ w')->o.wp P ⟨T,ds⟩ wc K Q)
  (FQ:∀ T wc,J (fun j=>decide (j<m)) T wc->qy P ops.toArray Q (ops.drop m) ⟨T,ds⟩ wc):(Code.region id ops.toArray true).wp P Q ⟨t0,ds⟩ w:=by
 refine wp_region_any hm ?_;have hno:(fun j=>(nT ops.toArray.size false).getD j false)=fun _=>false:=funext fun j=>by
  rw[Array.getD_eq_getD_getElem?];by_cases h:j<ops.length<;>simp[h]
 have hnn:∀ j,(nT ops.toArray.size false).getD j false=true->False:=fun j hj=>by
  have:=congrFun hno j;rw[this] at hj;cases hj
 have hc:(nT ops.toArray.size false).toList.count false=ops.toArray.size:=by simp
 exact main hok hin J hstep FQ _ _ t0 _ (by simp) hc (fun j hj=>(hnn j hj).elim) (fun j k hj=>(hnn j hj).elim) (by rw[hno];exact h0)
end
end kJ
end Go.Proofs.YtoncclhbdkjhmaaGreatDoor
namespace Go.Proofs.YtoncclhbdkjhmaaGreatDoor
open Go.RowKit
set_option maxRecDepth 100000
set_option linter.unusedVariables false
set_option linter.unusedSimpArgs false
def zFA:Obj:=.cells #[.int .i64 0,.bool false,.slice none 0 0,.string ⟨#[]⟩,.slice none 0 0] 29 (0,0)
def Wz (g:Nat):aq:=.pointer (some ⟨g,0,none⟩)
section
variable {W0:ag} {t0:Array aq} {sl:Nat->Nat} {X Y:aq} {D1 D3:Nat} {P1 P3:F->Prop} {d:Nat->Bool} {T:Array aq} {w w':ag}
theorem jr {T:Array aq} {i j:Nat} {v:aq} (h:j≠i):(T.setIfInBounds i v)[j]?=T[j]?:=by
 rw[Array.getElem?_setIfInBounds];simp[h.symm]
theorem kZ {T:Array aq} {i:Nat} {v:aq} (h:i<T.size):(T.setIfInBounds i v)[i]?=some v:=by
 rw[Array.getElem?_setIfInBounds];simp[h]
theorem uJ {d:Nat->Bool} {i k:Nat} (h:k≠i):kJ.vz d i k=d k:=by unfold kJ.vz;simp[h]
end
section
variable {W0:ag} {t0:Array aq} {n q:Nat} {sl:Nat->Nat} {Fk:Nat->aq->ag->Prop} {Rk:Nat->aq->aq->ag->Prop} {d:Nat->Bool} {T:Array aq} {w w':ag}
end
def WI (b:Bool) (o:Option cB) (l c:Nat):aq:=.agg #[.int .i64 0,.bool b,.slice o l c,.string ⟨#[]⟩,.slice none 0 0]
def F8 (X:ag) (pn:ByteArray) (V1 V3:aq) (t3 P:F):Nat->aq->ag->Prop
 | 0,v,_=>v=V1
 | 1,v,_=>v=.string pn
 | 2,v,w=>NmL w v [pn,i9]
 | 3,v,_=>v=V3
 | 4,v,w=>∃ b o l c,v=WI b o l c/\CI w (.agg #[.bool b,.slice o l c]) 1 600
 | 5,v,w=>FL w (fun b=>b<w.heap.size) 4 v [t3,WC]
 | 6,v,w=>FC w (fun b=>b<w.heap.size) 9 v P
 | 7,v,w=>∃ g,v=Wz g/\X.heap.size<=g/\w.heap[g]?=some zFA
 | _,_,_=>True
structure JP (W0:ag) (t0:Array aq) (n q:Nat) (sl:Nat->Nat) (G:ag->ag->Prop) (Fk:Nat->aq->ag->Prop) (d:Nat->Bool) (T:Array aq) (w:ag):Prop where
 be:G W0 w
 bl:d q=false->aA W0.heap.size W0 w
 sz:T.size=t0.size
 kQ:∀ j,(∀ i,i<n->j≠sl i)->T[j]?=t0[j]?
 val:∀ k,k<n->d k=true->∃ v,T[sl k]?=some v/\Fk k v w
section
variable {W0:ag} {t0:Array aq} {n q:Nat} {sl:Nat->Nat} {G:ag->ag->Prop} {Fk:Nat->aq->ag->Prop} {d:Nat->Bool} {T:Array aq} {w w':ag}
theorem JP.start (hG:G W0 W0.drew):JP W0 t0 n q sl G Fk (fun _=>false) t0 W0.drew:=
 ⟨hG,fun _=>(ax _ _).drew,rfl,fun _ _=>rfl,fun k _ h=>absurd h lQ⟩
theorem JP.put (h:JP W0 t0 n q sl G Fk d T w) (hne:∀ i j,i<n->j<n->i≠j->sl i≠sl j) (hlt:∀ i,i<n->sl i<t0.size) (i:Nat) (hi:i<n) (v:aq) (iY:G W0 w') (dw:kJ.vz d i q=false->aA W0.heap.size W0 w')
  (h1:Fk i v w') (h2:∀ k,k<n->k≠i->d k=true->∀ x,Fk k x w->Fk k x w'):JP W0 t0 n q sl G Fk (kJ.vz d i) (T.setIfInBounds (sl i) v) w':=by
 have hsz:sl i<T.size:=by rw[h.sz];exact hlt i hi
 refine⟨iY,dw,by rw[bP,h.sz],fun j hj=>?_,fun k hk hu=>?_⟩
 ·rw[jr (hj i hi)];exact h.kQ j hj
 by_cases hki:k=i
 ·subst hki;exact⟨v,kZ hsz,h1⟩
 rw[uJ hki] at hu;obtain⟨x,hx,hf⟩:=h.val k hk hu;exact⟨x,by rw[jr (hne k i hk hi hki)];exact hx,h2 k hk hki hu x hf⟩
theorem JP.step (h:JP W0 t0 n q sl G Fk d T w) (hG:∀ w w':ag,G W0 w->aA w.heap.size w w'->G W0 w') (hF:∀ k v (w w':ag),aA w.heap.size w w'->Fk k v w->Fk k v w') (hne:∀ i j,i<n->j<n->i≠j->sl i≠sl j) (hlt:∀ i,i<n->sl i<t0.size) (i:Nat) (hi:i<n) (hiq:q≠i) (v:aq) (hb:aA w.heap.size w w') (h1:Fk i v w'):JP W0 t0 n q sl G Fk (kJ.vz d i) (T.setIfInBounds (sl i) v) w':=
 h.put hne hlt i hi v (hG w w' h.be hb) (fun hu=>by rw[uJ hiq] at hu;exact (h.bl hu).trans (hb.mono (h.bl hu).size)) h1 (fun k _ _ _ x hx=>hF k x w w' hb hx)
theorem JP.Jh (h:JP W0 t0 n q sl G Fk d T w) (hq:q<n) (hne:∀ i j,i<n->j<n->i≠j->sl i≠sl j) (hlt:∀ i,i<n->sl i<t0.size) (v:aq) (iY:G W0 w') (h1:Fk q v w') (h2:∀ k,k<n->k≠q->d k=true->∀ x,Fk k x w->Fk k x w'):JP W0 t0 n q sl G Fk (kJ.vz d q) (T.setIfInBounds (sl q) v) w':=
 h.put hne hlt q hq v iY (fun hu=>by unfold kJ.vz at hu;simp at hu) h1 h2
end
section
variable {W0:ag} {t0:Array aq} {n:Nat} {sl:Nat->Nat} {G:Nat->ag->ag->Prop} {Fk:Nat->aq->ag->Prop} {d:Nat->Bool} {T:Array aq} {w w':ag}
end
theorem K6 {T t0:Array aq} {s0 s1 s2 s3 s4 s5 s6 s7 s8 s9:Nat} {u0 u1 u2 u3 u4 u5 u6 u7 u8 u9:aq} (hsz:T.size=t0.size) (hlt:∀ s ∈ [s0,s1,s2,s3,s4,s5,s6,s7,s8,s9],s<t0.size) (h0:T[s0]?=some u0) (h1:T[s1]?=some u1) (h2:T[s2]?=some u2) (h3:T[s3]?=some u3) (h4:T[s4]?=some u4) (h5:T[s5]?=some u5) (h6:T[s6]?=some u6) (h7:T[s7]?=some u7) (h8:T[s8]?=some u8) (h9:T[s9]?=some u9) (ho:∀ j,(∀ s ∈ [s0,s1,s2,s3,s4,s5,s6,s7,s8,s9],j≠s)->T[j]?=t0[j]?):T=((((((((((t0.setIfInBounds s0 u0).setIfInBounds s1 u1).setIfInBounds s2 u2).setIfInBounds s3 u3).setIfInBounds s4 u4).setIfInBounds s5 u5).setIfInBounds s6 u6).setIfInBounds s7 u7).setIfInBounds s8 u8).setIfInBounds s9 u9):=by
 have l0:=hlt s0 (by simp);have l1:=hlt s1 (by simp);have l2:=hlt s2 (by simp);have l3:=hlt s3 (by simp);have l4:=hlt s4 (by simp);have l5:=hlt s5 (by simp);have l6:=hlt s6 (by simp);have l7:=hlt s7 (by simp);have l8:=hlt s8 (by simp);have l9:=hlt s9 (by simp);apply Array.ext_getElem?;intro j;by_cases j9:j=s9
 ·subst j9;rw[kZ (by (try simp only[bP]);exact l9)];exact h9
 rw[jr j9];by_cases j8:j=s8
 ·subst j8;rw[kZ (by (try simp only[bP]);exact l8)];exact h8
 rw[jr j8];by_cases j7:j=s7
 ·subst j7;rw[kZ (by (try simp only[bP]);exact l7)];exact h7
 rw[jr j7];by_cases j6:j=s6
 ·subst j6;rw[kZ (by (try simp only[bP]);exact l6)];exact h6
 rw[jr j6];by_cases j5:j=s5
 ·subst j5;rw[kZ (by (try simp only[bP]);exact l5)];exact h5
 rw[jr j5];by_cases j4:j=s4
 ·subst j4;rw[kZ (by (try simp only[bP]);exact l4)];exact h4
 rw[jr j4];by_cases j3:j=s3
 ·subst j3;rw[kZ (by (try simp only[bP]);exact l3)];exact h3
 rw[jr j3];by_cases j2:j=s2
 ·subst j2;rw[kZ (by (try simp only[bP]);exact l2)];exact h2
 rw[jr j2];by_cases j1:j=s1
 ·subst j1;rw[kZ (by (try simp only[bP]);exact l1)];exact h1
 rw[jr j1];by_cases j0:j=s0
 ·subst j0;rw[kZ (by (try simp only[bP]);exact l0)];exact h0
 rw[jr j0];refine ho j (fun s hs=>?_);simp only[bz,aU,or_false] at hs;rcases hs with rfl | rfl | rfl | rfl | rfl | rfl | rfl | rfl | rfl | rfl<;>assumption
theorem DU {o:Oper} {a:Act} {w w':ag} {v x v':aq} {t:bn} {K:Act->ag->Prop} {Q:Exit->Act->ag->Prop} (s y:Operand)
  (ho:o.op=.call { callee:=.builtin .append,args:=#[s,y],argTypes:=#[t,t] }) (hs:a.eval s=v) (hx:a.eval y=x) (hr:(jv #[t,t] o.type #[v,x]).run aj w=.ok v' w') (hK:K (a.put o.dst v') w'):o.wp aj a w K Q:=by
 unfold Oper.wp execOp;simp only[ho,resolve,invoke,builtin,IM,IK,rA,uz,aO,bM,hs,hx,hr];exact hK
theorem AL {α:Type} {E:El α} {w w':ag} {B:Nat} {v v':aq} {el ns:List α} {a:cB} {m c:Nat} (h:E.Row w B v el) (hx:E.At w (.slice (some a) m c) ns) (h0:0<ns.length) (hlen:el.length+ns.length<=1000000) (ty:bn) (hr:(jv #[E.t,E.t] ty #[v,.slice (some a) m c]).run aj w=.ok v' w'):mX w v v':=by
 obtain⟨i,hi,hz,gV,pJ⟩:=info_parts E.info;have hm:m=ns.length:=by obtain⟨_,_,e,_⟩:=hx;injection e
 subst hm;have hl:(ns.flatMap E.f).length=ns.length*i.size:=by rw[gV];exact jI E.f E.len ns
 have h1:∀ u ∈ ns.flatMap E.f,u.oneCell'=true:=fun u hu=>by
  obtain⟨b,_,hb⟩:=List.mem_flatMap.1 hu;exact E.one b u hb
 have hown:w.ownsRow B E.e i.size v el.length (el.flatMap E.f):=by rw[gV];exact h.own
 exact pP (P:=aj) E.ht hi hz hown hl hx.news h1 (by omega) (by rw[pJ];exact ah (iU hlen E.I2) (by decide)) h0 (by rw[gV];exact E.zs) (by rw[gV];exact E.pos) hr
attribute [local go_sem] eF eE eC eB
def Ext (s s':List F) (n:Nat):Prop:=∃ m,s'=s++m/\m.length<=n
theorem Ext.refl (s:List F):Ext s s 0:=⟨[],by simp,ai _⟩
theorem Ext.trans {a b c:List F} {m n k:Nat} (h:Ext a b m) (g:Ext b c n) (hk:m+n<=k):Ext a c k:=by
 obtain⟨x,rfl,hx⟩:=h;obtain⟨y,rfl,hy⟩:=g;exact⟨x++y,by rw[List.append_assoc],by rw[eY];omega⟩
theorem Ext.up {a b:List F} {m n:Nat} (h:Ext a b m) (hn:m<=n):Ext a b n:=by
 obtain⟨x,h1,h2⟩:=h;exact⟨x,h1,ah h2 hn⟩
theorem Ext.get {a b:List F} {n i:Nat} {t:F} (h:Ext a b n) (hi:a[i]?=some t):b[i]?=some t:=by
 obtain⟨x,rfl,-⟩:=h;obtain⟨hl,e⟩:=List.getElem?_eq_some_iff.1 hi;rw[List.getElem?_append_left hl];exact hi
theorem Ext.len {a b:List F} {n:Nat} (h:Ext a b n):b.length<=a.length+n:=by
 obtain⟨x,rfl,hx⟩:=h;rw[eY];omega
def gO (B k:Nat) (E:Nat->Prop) (L s:List F) (t:F) (n:Nat) (w:ag) (e:Ending) (w':ag):Prop:=∃ (i:Nat) (s':List F),e=.returned (.int .i64 ((i:Nat):Int))/\St B k E L s' w'/\Ext s s' n/\s'[i]?=some t/\dz B k w w'
theorem I9 (w:ag):(zeroValue 116).run aj w=.ok (.int .i64 0) w:=by kernel_rfl
theorem Kk {d:Nat} {s:List F} {t:F} (ht:Tg d t) (hs:s.length<=1000000) (hk:∀ c ∈ t.kids,c ∈ s):(mJ s t).length<=bI:=by
 have h1:=xU 2 _ (yE ht hs hk);have h2:=FI 2 (by decide);unfold mJ bI
 omega
theorem Pa.more {B k:Nat} {E:Nat->Prop} {L s:List F} {w w':ag} {km:Nat} {v v':aq} {us:List Co} {M:Bs->Option aq} (h:Pa B k E L s w km v us M) {t:F} {u:Co} (hn:t ∉ s) (hg:Gd t) (hks:∀ x ∈ t.kids,x ∈ s) (W9:s.length+1<=900000)
  (hst:dz B k w w') (bk:w'.heap[k]?=some (.cells #[.map (some km),v'] 163 (0,0))) (mp:kP aj 9 w' km (fun x=>if x=mJ s t then some (.int .i64 ((s.length:Nat):Int)) else M x)) (row:nR.Row w' (k+1) v' (us++[u]))
  (hft:FT w' (NS B k E w') 9 u.u t) (jU:IL B k E w' (.slice u.ko u.kl u.kc) (t.kids.map (idx s))) (hb:u.b=false):St B k E L (s++[t]) w':=by
 have hid:∀ x ∈ s,x.kids.map (idx (s++[t]))=x.kids.map (idx s):=fun x hx=>pA fun c hc=>BH (h.cl x hx c hc)
 have Xj:t.kids.map (idx (s++[t]))=t.kids.map (idx s):=pA fun c hc=>BH (hks c hc)
 have get:∀ (i:Nat) (x:Co) (y:F),(us++[u])[i]?=some x->(s++[t])[i]?=some y->(us[i]?=some x/\s[i]?=some y)\/(x=u/\y=t):=by
  intro i x y hx hy;by_cases hi:i<s.length
  ·rw[List.getElem?_append_left (by rw[h.len];exact hi)] at hx;rw[List.getElem?_append_left hi] at hy;exact .inl ⟨hx,hy⟩
  rw[List.getElem?_append_right (by rw[h.len];omega),h.len] at hx;rw[List.getElem?_append_right (by omega)] at hy;have e:i - s.length=0:=by
   have:=(List.getElem?_eq_some_iff.1 hy).1;simp only[mS,uA] at this;omega
  rw[e] at hx hy;exact .inr ⟨by simpa using hx.symm,by simpa using hy.symm⟩
 have hkey:∀ x ∈ s,mJ (s++[t]) x=mJ s x:=fun x hx=>CZ (h.cl x hx)
 have ng:mJ (s++[t]) t=mJ s t:=CZ hks;have hne:∀ x ∈ s,mJ s x≠mJ s t:=fun x hx e=>hn (by
  have:=CY (h.good x hx).2 hg.2 (h.good x hx).1 hg.1 (ah h.max (by decide)) (h.cl x hx) hks e;rw[<-this];exact hx)
 refine⟨km,v',us++[u],(fun x=>if x=mJ s t then some (.int .i64 ((s.length:Nat):Int)) else M x),?_⟩;exact {
  bk:=bk
  kB:=h.kB
  mB:=h.mB
  sz:=ah h.sz hst.size
  mp:=mp
  dom:=by
   obtain⟨l,hl,hx⟩:=h.dom;refine⟨mJ s t::l,by rw[mS,eY];simpa using hl,fun x hm=>?_⟩;by_cases e:x=mJ s t
   ·rw[e];simp
   refine List.mem_cons_of_mem _ (hx x ?_);have DH:(if x=mJ s t then some (fm .i64 ((s.length:Nat):Int)) else M x).isSome=true:=hm;rw[if_neg e] at DH;exact DH
  m1:=fun i x hi=>by
   by_cases hl:i<s.length
   ·rw[List.getElem?_append_left hl] at hi;have hx:=List.mem_of_getElem? hi;rw[hkey x hx,if_neg (hne x hx)];exact h.m1 i x hi
   rw[List.getElem?_append_right (by omega)] at hi;have e:i=s.length:=by
    have:=(List.getElem?_eq_some_iff.1 hi).1;simp only[mS,uA] at this;omega
   subst e;have:x=t:=by simpa using hi.symm
   subst this;rw[ng,if_pos rfl]
  m2:=fun x q hm0=>by
   have hm:(if x=mJ s t then some (fm .i64 ((s.length:Nat):Int)) else M x)=some q:=hm0;by_cases e:x=mJ s t
   ·rw[if_pos e] at hm;injection hm with hm;exact⟨s.length,t,by simp,by rw[ng,e],hm.symm⟩
   rw[if_neg e] at hm;obtain⟨i,y,h1,h2,h3⟩:=h.m2 x q hm;have hl:=(List.getElem?_eq_some_iff.1 h1).1;exact⟨i,y,by rw[List.getElem?_append_left hl];exact h1,by rw[hkey y (List.mem_of_getElem? h1)];exact h2,h3⟩
  row:=row
  len:=by rw[eY,eY,h.len];rfl
  nd:=by
   rw[List.nodup_append];exact⟨h.nd,by simp,fun a ha b hb e=>by rw[aZ] at hb;rw[e,hb] at ha;exact hn ha⟩
  good:=fun x hx=>by
   rcases List.mem_append.1 hx with hx | hx
   ·exact h.good x hx
   rw[aZ] at hx;rw[hx];exact hg
  cl:=fun x hx c hc=>by
   rcases List.mem_append.1 hx with hx | hx
   ·exact uF _ (h.cl x hx c hc)
   rw[aZ] at hx;rw[hx] at hc;exact uF _ (hks c hc)
  ft:=fun i x y hx hy=>by
   rcases get i x y hx hy with ⟨h1,h2⟩ | ⟨rfl,rfl⟩
   ·exact (h.ft i x y h1 h2).wM hst
   exact hft
  ids:=fun i x y hx hy=>by
   rcases get i x y hx hy with ⟨h1,h2⟩ | ⟨rfl,rfl⟩
   ·rw[hid y (List.mem_of_getElem? h2)];exact (h.ids i x y h1 h2).wM hst
   rw[Xj];exact jU
  AV:=fun i x y hx hy=>by
   rcases get i x y hx hy with ⟨h1,h2⟩ | ⟨rfl,rfl⟩
   ·exact h.AV i x y h1 h2
   rw[hb];exact⟨fun e=>absurd e lQ,fun e=>absurd (h.sub _ e) hn⟩
  sub:=fun x hx=>uF _ (h.sub x hx)
  max:=by rw[eY];exact W9
  ex:=fun g hg=>az (h.ex g hg) hst.size
  tx:=by
   obtain⟨w0,h1,h2,h3⟩:=h.tx;exact⟨w0,h1,h2,h3.trans (hst.below h.sz)⟩ }
theorem Pa.none {B k:Nat} {E:Nat->Prop} {L s:List F} {w:ag} {km:Nat} {v:aq} {us:List Co} {M:Bs->Option aq} (h:Pa B k E L s w km v us M) {t:F} (hn:t ∉ s) (hg:Gd t) (hks:∀ x ∈ t.kids,x ∈ s):M (mJ s t)=none:=by
 cases hm:M (mJ s t) with
 | none=>rfl
 | some q =>
  obtain⟨i,y,h1,h2,-⟩:=h.m2 _ q hm;have hy:=List.mem_of_getElem? h1;have:=CY (h.good y hy).2 hg.2 (h.good y hy).1 hg.1 (ah h.max (by decide)) (h.cl y hy) hks h2;rw[this] at hy;exact absurd hy hn
def Vi (B:Nat) (W:ag) (ks:Nat) (nv fv:aq) (u:FU) (vo:Option cB) (vl vc:Nat) (us:List Co):Nat->aq->ag->Prop
 | 0,v,_=>v=.pointer (some ⟨ks,0,none⟩)
 | 1,v,_=>v=.pointer (some ⟨ks,0,none⟩)
 | 2,v,_=>v=.pointer (some ⟨ks,0,none⟩)
 | 3,v,_=>v=.pointer (some ⟨ks,1,none⟩)
 | 4,v,_=>v=nv
 | 5,v,_=>v=fv
 | 6,v,_=>v=.slice vo vl vc
 | 7,v,_=>v=.agg #[.int .i64 u.k,.bool (decide (u.n.z<0)),.slice u.n.o u.n.l u.n.c,.string u.nm,.slice u.ko u.kl u.kc,.slice vo vl vc,.bool false]
 | 8,v,w=>∃ g,v=.slice (some ⟨g,0,none⟩) 1 1/\W.heap.size<=g/\w.heap[g]?=some (.cells #[.int .i64 u.k,.bool (decide (u.n.z<0)),.slice u.n.o u.n.l u.n.c,.string u.nm,.slice u.ko u.kl u.kc,.slice vo vl vc,.bool false] 167 (0,0))
 | 9,v,w=>nR.Row w (ks+1) v (us++[⟨u,vo,vl,vc,false⟩])/\∀ g,v.ownBlock=some g->nv.ownBlock=some g\/W.heap.size<=g
 | _,_,_=>True
theorem Vi.below {B:Nat} {W:ag} {ks:Nat} {nv fv:aq} {u:FU} {vo:Option cB} {vl vc:Nat} {us:List Co}:∀ k v (w w':ag),aA w.heap.size w w'->Vi B W ks nv fv u vo vl vc us k v w->Vi B W ks nv fv u vo vl vc us k v w'
 | 0,_,_,_,_,h=>h
 | 1,_,_,_,_,h=>h
 | 2,_,_,_,_,h=>h
 | 3,_,_,_,_,h=>h
 | 4,_,_,_,_,h=>h
 | 5,_,_,_,_,h=>h
 | 6,_,_,_,_,h=>h
 | 7,_,_,_,_,h=>h
 | 8,_,_,_,hb,⟨g,h1,h2,h3⟩=>⟨g,h1,h2,by rw[hb.block g (ae h3)];exact h3⟩
 | 9,_,_,_,hb,h=>⟨El.Row.below h.1 hb,h.2⟩
 | _+10,_,_,_,_,_=>trivial
def GP (B ks km:Nat) (a b:ag):Prop:=dz B ks a b/\b.heap[ks]?=a.heap[ks]? /\ b.heap[km]?=a.heap[km]?
theorem GP.step {B ks km:Nat} {a b c:ag} (h:GP B ks km a b) (h1:ks<a.heap.size) (h2:km<a.heap.size) (k:aA b.heap.size b c):GP B ks km a c:=
 ⟨h.1.trans (.aN k),(k.block _ (az h1 h.1.size)).trans h.2.1,(k.block _ (az h2 h.1.size)).trans h.2.2⟩
theorem kP.obj {P:Program} {k:bn} {w:ag} {b:Nat} {m:Bs->Option aq} (h:kP P k w b m):∃ es cl,w.heap[b]?=some (.map es cl):=by
 obtain⟨n,D,⟨es,cl,h1,-⟩,-⟩:=h;exact⟨es,cl,h1⟩
open Classical in
theorem PJ {B ks:Nat} {E:Nat->Prop} {L s:List F} (w:ag) (h:St B ks E L s w) (hm:s.length+1<=900000) (u:FU) (t:F) (hf:FT w (NS B ks E w) 9 u t) (hg:Gd t) (vo:Option cB) (vl vc:Nat) (hv:IL B ks E w (.slice vo vl vc) (t.kids.map (idx s))) (hks:∀ x ∈ t.kids,x ∈ s) :
  aW aj 119 #[.pointer (some ⟨ks,0,none⟩),.agg #[.int .i64 u.k,.bool (decide (u.n.z<0)),.slice u.n.o u.n.l u.n.c,.string u.nm,.slice u.ko u.kl u.kc],.slice vo vl vc] w (gO B ks E L s t 1 w):=by
 have HS:=aa h;have HF:=aa hf;have HV:=aa hv;have HG:=aa hg;have DL:=aa hks;have HM:=aa hm;clear h hf hv hg hks hm;have HW:=aa (ax w.heap.size w);go_enter Tryz.func119,Tryz.ntmps119;obtain⟨x1,kf,ef,jK,bL,jc,aE⟩:=aM w #[.int .i64 u.k,.bool (decide (u.n.z<0)),.slice u.n.o u.n.l u.n.c,.string u.nm,.slice u.ko u.kl u.kc] 29;replace HW:=aa (HW.out.trans (bL.out.mono HW.out.size));replace HS:=aa (HS.out.below bL.out);replace HF:=aa (HF.out.wM (dz.aN bL.out));replace HV:=aa (HV.out.wM (dz.aN bL.out));obtain⟨⟨c0,c1,c2,c3,c4⟩,cA,cG,cF,cE,cC⟩:=ak aE.out;go_wp2_with fail;refine (Mv x1 HS.out (NS B ks E x1) 9 _ _ _ _ _ _ _ _ _ t ⟨u,rfl,HF.out⟩ HG.out _ HV.out DL.out).mono ?_;rintro e x2 ⟨rfl,hb⟩
 clear c0 cA c1 cG c2 cF c3 cE c4 cC;replace aE:=aS hb aE;replace HW:=aa (HW.out.trans (hb.mono HW.out.size));replace HS:=aa (HS.out.below hb);replace HF:=aa (HF.out.wM (dz.aN hb));replace HV:=aa (HV.out.wM (dz.aN hb));clear hb;obtain⟨K,hK⟩:∃ K,K=mJ s t:=⟨_,rfl⟩;rw[<-hK];have Oj:=aa hK;have UZ:Hid (K.length<=bI):=aa (by rw[hK];exact Kk HG.out.2 (ah HS.out.len (by decide)) DL.out);clear hK;obtain⟨km,v,us,M,hU⟩:=HS.out;obtain⟨no,nc,rfl,xY,IW,hn3⟩:=hU.row.form;have hnm:nc<=9223372036854775807:=IW;obtain⟨n,hn⟩:∃ n,n=us.length:=⟨_,rfl⟩;rw[<-hn] at hU xY;have HN:Hid (n=s.length):=aa (by rw[hn];exact hU.len);have HUS:=aa hn;have HU:=aa hU;clear hU hn hn3;have V7:=aa HU.out.mp
 have Fi:=aa HU.out.bk;have Fi:=aa HU.out.bk;by_cases hin:t ∈ s
 ·obtain⟨i,hi⟩:∃ i,i=idx s t:=⟨_,rfl⟩;have V0:Hid (s[i]?=some t):=aa (by rw[hi];exact iL hin);have Yu:Hid (M K=some (.int .i64 ((i:Nat):Int))):=aa (by rw[Oj.out];exact HU.out.m1 i t V0.out);clear hi hin;obtain⟨d0,d1,tK,A_⟩:=cO Fi.out;obtain⟨⟨c0,c1,c2,c3,c4⟩,cA,cG,cF,cE,cC⟩:=ak aE.out;go_wp2_with (first | (at_lookup;refine yy _ rfl _ _ 160 rfl 9 116 fh Tryz.underlying160 (I9 _) km M rfl V7.out K rfl UZ.out ?_;rw[Yu.out];simp only[Option.isSome_some,Option.isSome_none,jb,Option.getD_none]) | fail);go_ret;exact⟨i,s,rfl,HS.out,(Ext.refl s).up (au _),V0.out,dz.aN HW.out⟩
 have Yu:Hid (M K=none):=aa (by rw[Oj.out];exact HU.out.none hin HG.out DL.out);have DA:=aa hin;clear hin;have HDM:=aa HU.out.dom;have Yr:Hid (s.length<bI):=aa (by have:=HM.out;unfold bI;omega);obtain⟨d0,d1,tK,A_⟩:=cO Fi.out;obtain⟨⟨c0,c1,c2,c3,c4⟩,cA,cG,cF,cE,cC⟩:=ak aE.out;go_upto_region 6 with (first | (at_lookup;refine yy _ rfl _ _ 160 rfl 9 116 fh Tryz.underlying160 (I9 _) km M rfl V7.out K rfl UZ.out ?_;rw[Yu.out];simp only[Option.isSome_some,Option.isSome_none,jb,Option.getD_none]) | (at_mapUpdate;refine Gw _ rfl _ _ _ 160 rfl 9 116 fh Tryz.underlying160 km M rfl V7.out HDM.out Yr.out K rfl UZ.out _ rfl ?_;intro wz ZC IY) | fail)
 clear d0 tK d1 A_ c0 cA c1 cG c2 cF c3 cE c4 cC;have hMO:=V7.out.obj;obtain⟨Y6,Y7,hmo⟩:=hMO;have Qe:ks≠km:=fun e=>by have h1:=Fi.out;rw[e,hmo] at h1;cases h1
 have S_:kf≠km:=fun e=>by have h1:=aE.out;rw[e,hmo] at h1;cases h1
 have hbk:=(IY.block ks (ae Fi.out) (fun e=>by injection e with e;exact Qe e)).trans Fi.out;have bL:=(IY.block kf (ae aE.out) (fun e=>by injection e with e;exact S_ e)).trans aE.out;have SN:dz B ks x2 wz:=.aL IY (fun g e=>by injection e with e;subst e;exact⟨HU.out.mB,.inl ⟨Y6,Y7,hmo⟩⟩) (fun e=>by injection e with e;exact Qe e);have hrow:nR.Row wz (ks+1) (.slice no n nc) us:=by
  have h0:=HU.out.row;refine⟨World.ownsRow.kept h0.own IY ?_,fun g hg=>?_,fun _ _=>trivial⟩
  ·rcases hr:(jm no n nc).ownBlock with _ | j
   ·exact .inl rfl
   refine .inr (fun e=>?_);obtain⟨c9,tJ,-⟩:=h0.n32 j hr;injection e with e;rw[e,hmo] at tJ;cases tJ
  obtain⟨c9,tJ,h32⟩:=h0.n32 g hg;refine⟨c9,(IY.block g (ae tJ) (fun e=>?_)).trans tJ,h32⟩;injection e with e;rw[e,hmo] at tJ;cases tJ
 have WV:B<=wz.heap.size:=ah HU.out.sz IY.size;have Yy:=aa (ae hbk);have HLM:Hid (km<wz.heap.size):=aa (az (ae hmo) IY.size);have Oe:=aa hrow;have Ye:=aa SN;have cr:=aa hbk;have HBF:=aa bL;have Yt:=aa ZC;have zT:Hid (us.length=n):=aa HUS.out.symm;clear hrow SN hbk bL ZC IY hmo Qe S_ WV Fi aE;have lO:Hid (∀ i j,i<10->j<10->i≠j->(fun i=>[36,37,38,39,40,41,42,43,44,45].getD i 0) i≠(fun i=>[36,37,38,39,40,41,42,43,44,45].getD i 0) j):=aa (fun i j hi hj=>(show ∀ i,i<10->∀ j,j<10->i≠j->(fun i=>[36,37,38,39,40,41,42,43,44,45].getD i 0) i≠(fun i=>[36,37,38,39,40,41,42,43,44,45].getD i 0) j by decide) i hi j hj)
 have lE:Hid (∀ i,i<10->(fun i=>[36,37,38,39,40,41,42,43,44,45].getD i 0) i<46):=aa (by decide);refine kJ.region (by kernel_rfl) [[],[],[1],[1,2],[1,2,3],[],[],[5,6],[5,6,7],[1,2,3,4,5,6,7,8],[0,1,2,3,4,5,6,7,8,9],[0,1,2,3,4,5,6,7,8,9,10],[0,1,2,3,4,5,6,7,8,9,10,11]] 10 (by kernel_rfl) (by kernel_rfl) (JP wz _ 10 9 (fun i=>[36,37,38,39,40,41,42,43,44,45].getD i 0) (GP B ks km) (Vi B wz ks (.slice no n nc) (.agg #[.int .i64 u.k,.bool (decide (u.n.z<0)),.slice u.n.o u.n.l u.n.c,.string u.nm,.slice u.ko u.kl u.kc]) u vo vl vc us)) (JP.start ⟨.aN (ax _ _).drew,rfl,rfl⟩) ?_ ?_
 ·intro d T wc i o hJ ho hi hd aH dO;have hstep:=fun (hq:(9:Nat)≠i) (v:aq) (w2:ag)=>hJ.step (v:=v) (w':=w2) (fun a b h k=>GP.step h Yy.out HLM.out k) Vi.below lO.out (fun i hi=>az (lE.out i hi) (of_decide_eq_true rfl)) i hi hq
  have HJ:=aa hJ;obtain rfl | rfl | rfl | rfl | rfl | rfl | rfl | rfl | rfl | rfl:i=0\/i=1\/i=2\/i=3\/i=4\/i=5\/i=6\/i=7\/i=8\/i=9:=by omega
  ·injection ho with ho;subst ho;have es:T[0]?=some (.pointer (some ⟨ks,0,none⟩)):=(hJ.kQ 0 (by decide)).trans (by rfl);clear hJ aH dO;refine⟨rfl,fun K9 hK=>?_⟩;have bO:=aa (hstep (by decide));clear hstep;go_simp;exact hK.out _ _ (bO.out _ _ (ax _ _) rfl)
  ·injection ho with ho;subst ho;have es:T[0]?=some (.pointer (some ⟨ks,0,none⟩)):=(hJ.kQ 0 (by decide)).trans (by rfl);clear hJ aH dO;refine⟨rfl,fun K9 hK=>?_⟩;have bO:=aa (hstep (by decide));clear hstep;go_simp;exact hK.out _ _ (bO.out _ _ (ax _ _) rfl)
  ·injection ho with ho;subst ho;obtain⟨s1,Dg,rfl⟩:=hJ.val 1 (by decide) (aH 1 (by rfl));replace Dg:T[37]?=_:=Dg;clear hJ aH dO;refine⟨rfl,fun K9 hK=>?_⟩;have bO:=aa (hstep (by decide));clear hstep;go_simp;exact hK.out _ _ (bO.out _ _ (ax _ _) rfl)
  ·injection ho with ho;subst ho;obtain⟨s2,Df,rfl⟩:=hJ.val 2 (by decide) (aH 2 (by rfl));replace Df:T[38]?=_:=Df;clear hJ aH dO;refine⟨rfl,fun K9 hK=>?_⟩;have bO:=aa (hstep (by decide));clear hstep;go_simp;exact hK.out _ _ (bO.out _ _ (ax _ _) rfl)
  ·injection ho with ho;subst ho;obtain⟨s3,Ba,rfl⟩:=hJ.val 3 (by decide) (aH 3 (by rfl));replace Ba:T[39]?=_:=Ba;have dw:=hJ.bl (by cases h9:d 9 with | false=>rfl | true=>exact absurd (dO 9 4 h9 (by rfl)) (by rw[hd];exact lQ));have bx:=(dw.block _ Yy.out).trans cr.out;have q0:=af (v:=.slice no n nc) bx 1 rfl;clear bx dw hJ aH dO;refine⟨rfl,fun K9 hK=>?_⟩;have bO:=aa (hstep (by decide));clear hstep;go_simp;exact hK.out _ _ (bO.out _ _ (ax _ _) rfl)
  ·injection ho with ho;subst ho;have es:T[4]?=some (.pointer (some ⟨kf,0,none⟩)):=(hJ.kQ 4 (by decide)).trans (by rfl);have dw:=hJ.bl (by cases h9:d 9 with | false=>rfl | true=>exact absurd (dO 9 5 h9 (by rfl)) (by rw[hd];exact lQ));have bx:=(dw.block _ (ae HBF.out)).trans HBF.out;have q0:=af (v:=.int .i64 u.k) bx 0 rfl;have q1:=af (v:=.bool (decide (u.n.z<0))) bx 1 rfl;have q2:=af (v:=.slice u.n.o u.n.l u.n.c) bx 2 rfl;have q3:=af (v:=.string u.nm) bx 3 rfl;have q4:=af (v:=.slice u.ko u.kl u.kc) bx 4 rfl;clear bx dw hJ aH dO;refine⟨rfl,fun K9 hK=>?_⟩;have bO:=aa (hstep (by decide));clear hstep;go_simp;exact hK.out _ _ (bO.out _ _ (ax _ _) rfl)
  ·injection ho with ho;subst ho;have es:T[2]?=some (.slice vo vl vc):=(hJ.kQ 2 (by decide)).trans (by rfl);clear hJ aH dO;refine⟨rfl,fun K9 hK=>?_⟩;have bO:=aa (hstep (by decide));clear hstep;go_simp;exact hK.out _ _ (bO.out _ _ (ax _ _) rfl)
  ·injection ho with ho;subst ho;obtain⟨s5,Cm,rfl⟩:=hJ.val 5 (by decide) (aH 5 (by rfl));replace Cm:T[41]?=_:=Cm;obtain⟨s6,Cl,rfl⟩:=hJ.val 6 (by decide) (aH 6 (by rfl));replace Cl:T[42]?=_:=Cl;clear hJ aH dO;refine⟨rfl,fun K9 hK=>?_⟩;have bO:=aa (hstep (by decide));clear hstep;go_simp;exact hK.out _ _ (bO.out _ _ (ax _ _) rfl)
  ·injection ho with ho;subst ho;obtain⟨s7,tL,rfl⟩:=hJ.val 7 (by decide) (aH 7 (by rfl));replace tL:T[43]?=_:=tL;have th:=hJ.be.1.size;clear hJ aH dO;refine⟨rfl,fun K9 hK=>?_⟩;have bO:=aa (hstep (by decide));clear hstep;go_simp;exact hK.out _ _ (bO.out _ _ ((ax _ _).alloc (ai _) _) ⟨_,rfl,th,bT wc _⟩)
  injection ho with ho;subst ho;obtain⟨s4,Af,rfl⟩:=hJ.val 4 (by decide) (aH 4 (by rfl));replace Af:T[40]?=_:=Af;obtain⟨s8,uw,g,rfl,fg,fK⟩:=hJ.val 8 (by decide) (aH 8 (by rfl));replace uw:T[44]?=_:=uw;have dw:=hJ.bl hd;clear aH dO hstep;refine⟨rfl,fun K9 hK=>?_⟩;have hx:nR.At wc (.slice (some ⟨g,0,none⟩) 1 1) [⟨u,vo,vl,vc,false⟩]:=El.At.block (E:=nR) (el:=[⟨u,vo,vl,vc,false⟩]) fK (by show 1<=bI;decide) (fun _ _=>trivial);have hr0:=El.Row.below Oe.out dw;obtain⟨v9,w9,r1,r2,r3,r4,r5⟩:=hr0.run hx 161 (by have h1:=zT.out;have h2:=HN.out;have h3:=HM.out;simp only[mS,uA];omega) (ah Yy.out dw.size);have KV:=AL hr0 hx (by simp) (by have h1:=zT.out;have h2:=HN.out;have h3:=HM.out;simp only[mS,uA];omega) 161 r1;have hbz:=dw.size
  refine DU (.tmp 40) (.tmp 44) rfl (by simp[Act.eval,Af]) (by simp[Act.eval,uw]) r1 (hK.out _ _ ?_);have hown:∀ j,(jm no n nc).ownBlock=some j->Own B ks wc j:=fun j hj=>by
   obtain⟨c9,tJ,h32⟩:=hr0.n32 j hj;have Ny:=hJ.be.2.1.trans cr.out;have Nz:=(hr0.ge hj).1;exact⟨ah HU.out.kB (by omega),.inr ⟨c9,_,tJ,.inr ⟨rfl,Nz,_,_,Ny,hj⟩,h32⟩⟩
  have Tn:GP B ks km wz w9:=by
   have h1:=hJ.be;have Ny:=h1.2.1.trans cr.out;refine⟨h1.1.trans (.aL r5 hown (fun e=>by have h2:=(hr0.ge e.symm).1;omega)),?_,?_⟩
   ·refine (r5.block ks (ae Ny) (fun e=>?_)).trans h1.2.1;obtain⟨c9,tJ,-⟩:=hr0.n32 ks e.symm;rw[Ny] at tJ;injection tJ with tJ;injection tJ with _ tJ;exact absurd tJ (by decide)
   obtain⟨aJa,aJb,DH⟩:=Yt.out.obj;have Th:=h1.2.2.trans DH;refine (r5.block km (ae Th) (fun e=>?_)).trans h1.2.2;obtain⟨c9,tJ,-⟩:=hr0.n32 km e.symm;rw[Th] at tJ;cases tJ
  refine HJ.out.Jh (by decide) lO.out (fun i hi=>az (lE.out i hi) (of_decide_eq_true rfl)) _ Tn ⟨r2,fun g hg=>(KV g hg).imp id (fun h=>ah hbz h)⟩ (fun k hk sk _ x hx=>?_);have h10:k=0\/k=1\/k=2\/k=3\/k=4\/k=5\/k=6\/k=7\/k=8:=by omega
  rcases h10 with rfl | rfl | rfl | rfl | rfl | rfl | rfl | rfl | rfl<;>first | exact hx | skip
  obtain⟨g2,h1,h2,h3⟩:=hx;refine⟨g2,h1,h2,(r5.block g2 (ae h3) (fun e=>?_)).trans h3⟩;obtain⟨c9,tJ,-⟩:=Oe.out.n32 g2 e.symm;have h4:=ae tJ;omega
 intro T wt hJ;obtain⟨s0,a0,b0⟩:=hJ.val 0 (by decide) rfl;obtain⟨s1,a1,b1⟩:=hJ.val 1 (by decide) rfl;obtain⟨s2,a2,b2⟩:=hJ.val 2 (by decide) rfl;obtain⟨s3,a3,b3⟩:=hJ.val 3 (by decide) rfl;obtain⟨s4,a4,b4⟩:=hJ.val 4 (by decide) rfl;obtain⟨s5,a5,b5⟩:=hJ.val 5 (by decide) rfl;obtain⟨s6,a6,b6⟩:=hJ.val 6 (by decide) rfl;obtain⟨s7,a7,b7⟩:=hJ.val 7 (by decide) rfl;obtain⟨s8,a8,b8⟩:=hJ.val 8 (by decide) rfl;obtain⟨s9,a9,b9⟩:=hJ.val 9 (by decide) rfl;subst b0;subst b1;subst b2;subst b3;subst b4;subst b5;subst b6;subst b7;obtain⟨g8,rfl,-,-⟩:=b8;obtain⟨VD,KV⟩:nR.Row wt (ks+1) s9 (us++[(⟨u,vo,vl,vc,false⟩:Co)])/\∀ g,s9.ownBlock=some g->(jm no n nc).ownBlock=some g\/wz.heap.size<=g:=b9;have Tn:=hJ.be;obtain⟨so,sc,rfl,-,-,-⟩:=VD.form
 rw[show (us++[(⟨u,vo,vl,vc,false⟩:Co)]).length=n+1 by rw[eY,zT.out];rfl] at VD a9 KV;have hfr:=K6 (s0:=36) (s1:=37) (s2:=38) (s3:=39) (s4:=40) (s5:=41) (s6:=42) (s7:=43) (s8:=44) (s9:=45) hJ.sz (by intro s hs;simp only[bz,aU,or_false] at hs;rcases hs with rfl | rfl | rfl | rfl | rfl | rfl | rfl | rfl | rfl | rfl<;>exact of_decide_eq_true rfl) a0 a1 a2 a3 a4 a5 a6 a7 a8 a9 (fun j hj=>hJ.kQ j (fun i hi=>by have h9:i=0\/i=1\/i=2\/i=3\/i=4\/i=5\/i=6\/i=7\/i=8\/i=9:=(by omega);rcases h9 with rfl | rfl | rfl | rfl | rfl | rfl | rfl | rfl | rfl | rfl<;>exact hj _ (show _ ∈ [36,37,38,39,40,41,42,43,44,45] by decide)));clear hJ lO lE a0 a1 a2 a3 a4 a5 a6 a7 a8 a9;rw[hfr];clear hfr;simp only[aY,bS,bD]
 simp only[cL,cx];have LZ:=Tn.2.1.trans cr.out;have d0:=af (v:=.map (some km)) LZ 0 rfl;have d1:=af (v:=.slice no n nc) LZ 1 rfl;have A_:=aP LZ 1;have V4:=aa VD;have YF:=aa KV;clear KV;have YE:=aa Tn;have Wf:=aa LZ;clear VD Tn LZ;go_wp2_with fail;go_ret;have fg:wt.grownBy (wt.setCell ⟨ks,1,none⟩ (.slice so (n+1) sc)) (some ks):=aF (aI _ _) _;have lZ:=heap_setCell_same wt ks 1 _ _ (.slice so (n+1) sc) Wf.out;obtain⟨W2,kg⟩:∃ q,q=wt.setCell ⟨ks,1,none⟩ (.slice so (n+1) sc):=⟨_,rfl⟩;rw[<-kg] at fg lZ ⊢
 have h32:pQ (#[Value.map (some km),.slice no n nc]:Array aq).toList:=by intro x hx z;simp only[bz,aU,or_false] at hx;rcases hx with rfl | rfl<;>(intro h;cases h)
 have Qi:Fr 163 wt W2:=.aL fg (fun j hj=>by injection hj with hj;subst hj;exact⟨_,Wf.out,h32⟩);have P4:dz B ks wz W2:=by
  have h1:=YE.out.1;have hks:Own B ks wz ks:=⟨HU.out.kB,.inr ⟨_,_,cr.out,.inl rfl,h32⟩⟩;refine⟨fg.os.trans h1.os,fg.tape.trans h1.tape,fg.output.trans h1.output,ah h1.size fg.size,fun g hg hn=>(fg.block g (az hg h1.size) (fun e=>?_)).trans (h1.block g hg hn),?_⟩
  ·injection e with e;subst e;exact hn hks
  rintro g hg ⟨q1,q2,q3,q4,q5⟩;have q6:W2.heap[ks]?=some (.cells #[.map (some km),.slice so (n+1) sc] 163 (0,0)):=lZ;rw[q6] at q4;injection q4 with q4;injection q4 with q4;injection q4 with q4;injection q4 with _ q4;injection q4 with q4 _;rw[<-q4] at q5;rcases YF.out g q5 with h9 | h9
  ·exact⟨q1,_,_,cr.out,h9⟩
  omega
 have hst:=Ye.out.trans P4;obtain⟨Y6,Y7,hmo⟩:=Yt.out.obj;have m_:=YE.out.2.2.trans hmo;have hkk:km≠ks:=fun e=>by have h1:=Wf.out;rw[<-e,m_] at h1;cases h1
 have DH:W2.heap[km]?=wz.heap[km]?:=(fg.block km (ae m_) (fun e=>by injection e with e;exact hkk e)).trans YE.out.2.2;have hmp:=Yt.out.keep DH;rw[Oj.out,HN.out] at hmp;have hrow:=El.Row.js V4.out fg (fun j hj e=>by subst e;obtain⟨c9,tJ,-⟩:=V4.out.n32 j hj;rw[Wf.out] at tJ;injection tJ with tJ;injection tJ with _ tJ;exact absurd tJ (by decide)) Qi trivial;have hbk:W2.heap[ks]?=some (.cells #[.map (some km),.slice so (n+1) sc] 163 (0,0)):=lZ;refine⟨n,s++[t],rfl,HU.out.more (u:=⟨u,vo,vl,vc,false⟩) DA.out HG.out DL.out HM.out hst hbk hmp hrow (HF.out.wM hst) (HV.out.wM hst) rfl,⟨[t],rfl,ai _⟩,?_,(dz.aN HW.out).trans hst⟩;rw[HN.out];simp
theorem FT.tight {w:ag} {S:Nat->Prop}:∀ {d:Nat} {u:FU} {t:F},FT w S d u t->∀ {e:Nat},Tg e t->FT w S e u t
 | 0,_,_,h,_,_=>absurd h id
 | d+1,u,t,⟨h1,h2,el,h3,h4,h5,h6⟩,0,hm=>absurd hm id
 | d+1,u,t,⟨h1,h2,el,h3,h4,h5,h6⟩,e+1,hm=>⟨h1,h2,el,h3,h4,h5,fun i hi=>⟨(h6 i hi).1,(h6 i hi).2.tight (hm.2.2.2.2 _ (by rw[<-h3];exact List.mem_map_of_mem (ct hi)))⟩⟩
theorem FC.tight {w:ag} {S:Nat->Prop} {d e:Nat} {v:aq} {t:F} (h:FC w S d v t) (hm:Tg e t):FC w S e v t:=by
 obtain⟨u,h1,h2⟩:=h;exact⟨u,h1,h2.tight hm⟩
theorem FC.wM {B k:Nat} {E:Nat->Prop} {w w':ag} {d:Nat} {v:aq} {t:F} (h:FC w (NS B k E w) d v t) (hk:dz B k w w'):FC w' (NS B k E w') d v t:=by
 obtain⟨u,h1,h2⟩:=h;exact⟨u,h1,h2.wM hk⟩
theorem yQ {B k:Nat} {E:Nat->Prop} {L s:List F} (w:ag) (h:St B k E L s w) (hm:s.length+1<=900000) (d:Nat) (v:aq) (t:F) (hf:FC w (NS B k E w) d v t) (hg:Gd t) (vi:aq) (hv:IL B k E w vi (t.kids.map (idx s))) (hks:∀ x ∈ t.kids,x ∈ s) :
  aW aj 119 #[.pointer (some ⟨k,0,none⟩),v,vi] w (gO B k E L s t 1 w):=by
 obtain⟨u,rfl,Ad⟩:=hf.tight hg.2;obtain⟨vo,vc,e,h1⟩:=id hv;subst e;exact PJ w h hm u t Ad hg _ _ _ hv hks
theorem St.nd {B k:Nat} {E:Nat->Prop} {L s:List F} {w:ag} (h:St B k E L s w):s.Nodup:=by
 obtain⟨km,v,us,M,hU⟩:=h;exact hU.nd
theorem St.good {B k:Nat} {E:Nat->Prop} {L s:List F} {w:ag} (h:St B k E L s w):∀ t ∈ s,Gd t:=by
 obtain⟨km,v,us,M,hU⟩:=h;exact hU.good
theorem xW {s:List F} (hn:s.Nodup):∀ (ids:List Nat) (ts:List F),ids.map (fun i=>s[i]?)=ts.map some->ids=ts.map (idx s)
 | [],[],_=>rfl
 | [],_::_,h=>by cases h
 | _::_,[],h=>by cases h
 | i::ids,t::ts,h=>by
  rw[aO,aO] at h;injection h with h1 h2;rw[aO,<-xW hn ids ts h2,Ek hn h1]
theorem xV {s:List F}:∀ (ids:List Nat) (ts:List F),ids.map (fun i=>s[i]?)=ts.map some->∀ t ∈ ts,t ∈ s
 | [],[],_,t,h=>by cases h
 | [],_::_,h,_,_=>by cases h
 | _::_,[],h,_,_=>by cases h
 | i::ids,t::ts,h,x,hx=>by
  rw[aO,aO] at h;injection h with h1 h2;rcases List.mem_cons.1 hx with rfl | hx
  ·exact List.mem_of_getElem? h1
  exact xV ids ts h2 x hx
theorem X9 (w:ag):CI w (.agg #[.bool false,.slice none 0 0]) 0 600:=NR0.out w
theorem FL.wM {B k:Nat} {E:Nat->Prop} {w w':ag} {d:Nat} {v:aq} {ts:List F} (h:FL w (NS B k E w) d v ts) (hk:dz B k w w'):FL w' (NS B k E w') d v ts:=by
 obtain⟨el,h1,h2⟩:=h;exact⟨el,(Es.At.keep (fun g hg=>hk.block g hg.2 hg.1.1) hk.kn h1.lt).mono (fun g hg=>⟨hk.no hg.2 hg.1.1,hg.1.2⟩),h2⟩
theorem p_ {B k:Nat} {E:Nat->Prop} {L s:List F} (w:ag) (h:St B k E L s w) (hm:s.length+1<=900000) (op:Int) (hop:IR op) (v:aq) (ids:List Nat) (hv:IL B k E w v ids) (ts:List F) (hi:ids.map (fun i=>s[i]?)=ts.map some) (hg:Gd (fo op ts)) :
  aW aj 122 #[.pointer (some ⟨k,0,none⟩),.int .i64 op,v] w (gO B k E L s (fo op ts) 1 w):=by
 have Et:ts.length<=8:=hg.2.2.2.2.1;have qO:ids.length<=900000:=by have:=de hi;omega
 have HS:=aa h;have HV:=aa hv;have HI:=aa hi;have HG:=aa hg;have HM:=aa hm;have jy:=aa hop;have xR:=aa qO;clear h hv hi hg hm hop Et qO;go_enter Tryz.func122,Tryz.ntmps122;go_wp2_with fail;refine (zA w HS.out v ids HV.out ts HI.out xR.out).mono ?_;rintro e x1 ⟨v',rfl,hfl,hb⟩;obtain⟨XR,fc,rfl,lZ,Ad,-⟩:=hfl.form;have Ok:=aa hfl;have HB:=aa hb;have hfm:fc<=9223372036854775807:=Ad;clear hfl hb Ad;go_wp2_with fail;have FW:FC x1 (NS B k E x1) 10 (.agg #[.int .i64 op,.bool false,.slice none 0 0,.string ⟨#[]⟩,.slice XR ts.length fc]) (fo op ts):=FC.mk (nm:=⟨#[]⟩) jy.out (X9 x1) Ok.out;have hs1:=HS.out.below HB.out;have r8:=HV.out.wM (dz.aN HB.out);rw[xW hs1.nd ids ts HI.out] at r8
 refine (yQ x1 hs1 HM.out 10 _ _ FW HG.out _ r8 (xV ids ts HI.out)).mono ?_;rintro e x2 ⟨i,s',rfl,h1,h2,h3,h4⟩;have H1:=aa h1;have H2:=aa h2;have H3:=aa h3;have H4:=aa ((dz.aN HB.out).trans h4);clear h1 h2 h3 h4 FW hs1 r8;go_wp2_with fail;go_ret;exact⟨i,s',rfl,H1.out,H2.out,H3.out,H4.out⟩
theorem XO {n:Int} (h:n.natAbs<aG ^ 4):Gd (nF n):=⟨rfl,(qn (d:=5) (e:=9) h (by omega)).2.g⟩
theorem qH {B k:Nat} {E:Nat->Prop} {L s:List F} (w:ag) (h:St B k E L s w) (hm:s.length+1<=900000) (n:Int) (h1 : -9223372036854775808<=n) (h2:n<=9223372036854775807) :
  aW aj 127 #[.pointer (some ⟨k,0,none⟩),.int .i64 n] w (gO B k E L s (nF n) 1 w):=by
 have HS:=aa h;have HM:=aa hm;have HN:Hid (n.natAbs<aG ^ 4):=aa (Nat.lt_of_le_of_lt (show n.natAbs<=9223372036854775808 by omega) (by decide));have HR:Hid (-9223372036854775808<=n/\n<=9223372036854775807):=aa ⟨h1,h2⟩;clear h hm h1 h2;go_enter Tryz.func127,Tryz.ntmps127;go_wp2_with fail;refine (SB n w HR.out.1 HR.out.2).mono ?_;rintro e x1 ⟨b,o,l,c,rfl,hc,hb⟩;have HC:=aa hc;have HB:=aa hb;clear hc hb;go_wp2_with fail;have FW:FC x1 (NS B k E x1) 1 (.agg #[.int .i64 0,.bool b,.slice o l c,.string ⟨#[]⟩,.slice none 0 0]) (nF n):=FC.mk (op:=0) (nm:=⟨#[]⟩) ⟨by decide,by decide⟩ HC.out (FL.nil x1 (NS B k E x1) 0);refine (yQ x1 (HS.out.below HB.out) HM.out 1 _ _ FW (XO HN.out) _ (IL.nil B k E x1) (fun x hx=>by cases hx)).mono ?_
 rintro e x2 ⟨i,s',rfl,h1,h2,h3,h4⟩;have H1:=aa h1;have H2:=aa h2;have H3:=aa h3;have H4:=aa ((dz.aN HB.out).trans h4);clear h1 h2 h3 h4 FW;go_wp2_with fail;go_ret;exact⟨i,s',rfl,H1.out,H2.out,H3.out,H4.out⟩
theorem di {t x:F} (h:Gd t) (hx:x ∈ t.kids):Gd x:=by
 obtain⟨o,z,nm,ks⟩:=t;exact⟨(j_ h.1).2.2 x hx,(show Tg 8 x from h.2.2.2.2.2 x hx).LR⟩
theorem kM {B k:Nat} {E:Nat->Prop} {L s:List F} (w:ag) (h:St B k E L s w) (hm:s.length+1<=900000) (i:Nat) (a:F) (hi:s[i]?=some a) (hg:Gd (cY a)) :
  aW aj 131 #[.pointer (some ⟨k,0,none⟩),.int .i64 ((i:Nat):Int)] w (gO B k E L s (cY a) 1 w):=by
 have HS:=aa h;have HM:=aa hm;have HG:=aa hg;have HI:=aa hi;clear h hm hg hi;go_enter Tryz.func131,Tryz.ntmps131;obtain⟨x1,kq,eq,zE,gQ,sk,jX⟩:=aM w #[.int .i64 ((i:Nat):Int)] 116;go_wp2_with fail;refine (p_ x1 (HS.out.below gQ.out) HM.out 6 ⟨by decide,by decide⟩ _ [i] (IL.block (cs:=[.int .i64 ((i:Nat):Int)]) jX.out (by decide) (HS.out.fresh sk.out) (by show 1<=bI;decide) rfl) [a] (by simp only[aO,bM,HI.out]) HG.out).mono ?_;rintro e x2 ⟨j,s',rfl,h1,h2,h3,h4⟩;have H1:=aa h1;have H2:=aa h2;have H3:=aa h3;have H4:=aa ((dz.aN gQ.out).trans h4);clear h1 h2 h3 h4;go_wp2_with fail;go_ret;exact⟨j,s',rfl,H1.out,H2.out,H3.out,H4.out⟩
theorem yV {B k:Nat} {E:Nat->Prop} {L s:List F} (w:ag) (h:St B k E L s w) (hm:s.length+1<=900000) (i:Nat) (a:F) (hi:s[i]?=some a) (hg:Gd (bW a)) :
  aW aj 167 #[.pointer (some ⟨k,0,none⟩),.int .i64 ((i:Nat):Int)] w (gO B k E L s (bW a) 1 w):=by
 have HS:=aa h;have HM:=aa hm;have HG:=aa hg;have HI:=aa hi;clear h hm hg hi;go_enter Tryz.func167,Tryz.ntmps167;obtain⟨x1,kq,eq,zE,gQ,sk,jX⟩:=aM w #[.int .i64 ((i:Nat):Int)] 116;go_wp2_with fail;refine (p_ x1 (HS.out.below gQ.out) HM.out 17 ⟨by decide,by decide⟩ _ [i] (IL.block (cs:=[.int .i64 ((i:Nat):Int)]) jX.out (by decide) (HS.out.fresh sk.out) (by show 1<=bI;decide) rfl) [a] (by simp only[aO,bM,HI.out]) HG.out).mono ?_;rintro e x2 ⟨j,s',rfl,h1,h2,h3,h4⟩;have H1:=aa h1;have H2:=aa h2;have H3:=aa h3;have H4:=aa ((dz.aN gQ.out).trans h4);clear h1 h2 h3 h4;go_wp2_with fail;go_ret;exact⟨j,s',rfl,H1.out,H2.out,H3.out,H4.out⟩
theorem za {B k:Nat} {E:Nat->Prop} {L s:List F} (w:ag) (h:St B k E L s w) (hm:s.length+1<=900000) (i j:Nat) (a b:F) (hi:s[i]?=some a) (hj:s[j]?=some b) (hg:Gd (dV a b)) :
  aW aj 130 #[.pointer (some ⟨k,0,none⟩),.int .i64 ((i:Nat):Int),.int .i64 ((j:Nat):Int)] w (gO B k E L s (dV a b) 1 w):=by
 have HS:=aa h;have HM:=aa hm;have HG:=aa hg;have HI:=aa hi;have HJ:=aa hj;clear h hm hg hi hj;go_enter Tryz.func130,Tryz.ntmps130;obtain⟨x1,kq,eq,zE,gQ,sk,jX⟩:=aM w #[.int .i64 ((i:Nat):Int),.int .i64 ((j:Nat):Int)] 116;go_wp2_with fail;refine (p_ x1 (HS.out.below gQ.out) HM.out 15 ⟨by decide,by decide⟩ _ [i,j] (IL.block (cs:=[.int .i64 ((i:Nat):Int),.int .i64 ((j:Nat):Int)]) jX.out (by decide) (HS.out.fresh sk.out) (by show 2<=bI;decide) rfl) [a,b] (by simp only[aO,bM,HI.out,HJ.out]) HG.out).mono ?_;rintro e x2 ⟨q,s',rfl,h1,h2,h3,h4⟩;have H1:=aa h1;have H2:=aa h2;have H3:=aa h3;have H4:=aa ((dz.aN gQ.out).trans h4);clear h1 h2 h3 h4;go_wp2_with fail;go_ret;exact⟨q,s',rfl,H1.out,H2.out,H3.out,H4.out⟩
theorem k6 {B k:Nat} {E:Nat->Prop} {L s:List F} (w:ag) (h:St B k E L s w) (hm:s.length+1<=900000) (i j:Nat) (a b:F) (hi:s[i]?=some a) (hj:s[j]?=some b) (hg:Gd (b_ a b)) :
  aW aj 121 #[.pointer (some ⟨k,0,none⟩),.int .i64 ((i:Nat):Int),.int .i64 ((j:Nat):Int)] w (gO B k E L s (b_ a b) 1 w):=by
 have HS:=aa h;have HM:=aa hm;have HG:=aa hg;have HI:=aa hi;have HJ:=aa hj;clear h hm hg hi hj;go_enter Tryz.func121,Tryz.ntmps121;obtain⟨x1,kq,eq,zE,gQ,sk,jX⟩:=aM w #[.int .i64 ((i:Nat):Int),.int .i64 ((j:Nat):Int)] 116;go_wp2_with fail;refine (p_ x1 (HS.out.below gQ.out) HM.out 16 ⟨by decide,by decide⟩ _ [i,j] (IL.block (cs:=[.int .i64 ((i:Nat):Int),.int .i64 ((j:Nat):Int)]) jX.out (by decide) (HS.out.fresh sk.out) (by show 2<=bI;decide) rfl) [a,b] (by simp only[aO,bM,HI.out,HJ.out]) HG.out).mono ?_;rintro e x2 ⟨q,s',rfl,h1,h2,h3,h4⟩;have H1:=aa h1;have H2:=aa h2;have H3:=aa h3;have H4:=aa ((dz.aN gQ.out).trans h4);clear h1 h2 h3 h4;go_wp2_with fail;go_ret;exact⟨q,s',rfl,H1.out,H2.out,H3.out,H4.out⟩
theorem nO {B k:Nat} {E:Nat->Prop} {L s:List F} (w:ag) (h:St B k E L s w) (hm:s.length+1<=900000) (v:aq) (ids:List Nat) (hv:IL B k E w v ids) (ts:List F) (hi:ids.map (fun i=>s[i]?)=ts.map some) (hg:Gd (gB ts)) :
  aW aj 125 #[.pointer (some ⟨k,0,none⟩),v] w (gO B k E L s (gB ts) 1 w):=by
 have HS:=aa h;have HM:=aa hm;have HG:=aa hg;have HV:=aa hv;have HI:=aa hi;clear h hm hg hv hi;go_enter Tryz.func125,Tryz.ntmps125;go_wp2_with fail;refine (p_ w HS.out HM.out 19 ⟨by decide,by decide⟩ _ ids HV.out ts HI.out HG.out).mono ?_;rintro e x2 ⟨q,s',rfl,h1,h2,h3,h4⟩;have H1:=aa h1;have H2:=aa h2;have H3:=aa h3;have H4:=aa h4;clear h1 h2 h3 h4;go_wp2_with fail;go_ret;exact⟨q,s',rfl,H1.out,H2.out,H3.out,H4.out⟩
theorem FF {B k:Nat} {E:Nat->Prop} {L s:List F} (w:ag) (h:St B k E L s w) (hm:s.length+2<=900000) (i:Nat) (a:F) (hi:s[i]?=some a) (hg:Gd (gE a (nF 1))) :
  aW aj 132 #[.pointer (some ⟨k,0,none⟩),.int .i64 ((i:Nat):Int)] w (gO B k E L s (gE a (nF 1)) 2 w):=by
 have HS:=aa h;have HM:=aa hm;have HG:=aa hg;have HI:=aa hi;clear h hm hg hi;go_enter Tryz.func132,Tryz.ntmps132;go_wp2_with fail;refine (qH w HS.out (by have:=HM.out;omega) 1 (by decide) (by decide)).mono ?_;rintro e x1 ⟨j,s1,rfl,h1,h2,h3,h4⟩;have H1:=aa h1;have H2:=aa h2;have H3:=aa h3;have H4:=aa h4;clear h1 h2 h3 h4;obtain⟨x2,kq,eq,zE,gQ,sk,jX⟩:=aM x1 #[.int .i64 ((i:Nat):Int),.int .i64 ((j:Nat):Int)] 116;go_wp2_with fail
 refine (p_ x2 (H1.out.below gQ.out) (by have:=HM.out;have:=H2.out.len;omega) 2 ⟨by decide,by decide⟩ _ [i,j] (IL.block (cs:=[.int .i64 ((i:Nat):Int),.int .i64 ((j:Nat):Int)]) jX.out (by decide) (H1.out.fresh sk.out) (by show 2<=bI;decide) rfl) [a,nF 1] (by simp only[aO,bM,H2.out.get HI.out,H3.out]) HG.out).mono ?_;rintro e x3 ⟨q,s2,rfl,h1,h2,h3,h4⟩;have G1:=aa h1;have G2:=aa h2;have G3:=aa h3;have G4:=aa ((H4.out.trans (dz.aN gQ.out)).trans h4);clear h1 h2 h3 h4;go_wp2_with fail;go_ret;exact⟨q,s2,rfl,G1.out,H2.out.trans G2.out (by omega),G3.out,G4.out⟩
theorem A9 {B k:Nat} {E:Nat->Prop} {L s:List F} (w:ag) (h:St B k E L s w) (hm:s.length+3<=900000) (i:Nat) (a:F) (hi:s[i]?=some a) (hg:Gd (gC a)) :
  aW aj 126 #[.pointer (some ⟨k,0,none⟩),.int .i64 ((i:Nat):Int)] w (gO B k E L s (gC a) 3 w):=by
 have HS:=aa h;have HM:=aa hm;have HG:=aa hg;have HI:=aa hi;clear h hm hg hi;go_enter Tryz.func126,Tryz.ntmps126;go_wp2_with fail;refine (qH w HS.out (by have:=HM.out;omega) 1 (by decide) (by decide)).mono ?_;rintro e x1 ⟨j,s1,rfl,h1,h2,h3,h4⟩;have H1:=aa h1;have H2:=aa h2;have H3:=aa h3;have H4:=aa h4;clear h1 h2 h3 h4;go_wp2_with fail;refine (kM x1 H1.out (by have:=HM.out;have:=H2.out.len;omega) i a (H2.out.get HI.out) (di HG.out (by simp[gC,dV,fo,F.kids]))).mono ?_;rintro e x2 ⟨p,s2,rfl,h1,h2,h3,h4⟩;have G1:=aa h1;have G2:=aa h2;have G3:=aa h3;have G4:=aa (H4.out.trans h4);clear h1 h2 h3 h4;go_wp2_with fail
 refine (za x2 G1.out (by have:=HM.out;have:=H2.out.len;have:=G2.out.len;omega) j p (nF 1) (cY a) (G2.out.get H3.out) G3.out HG.out).mono ?_;rintro e x3 ⟨q,s3,rfl,h1,h2,h3,h4⟩;have K1:=aa h1;have K2:=aa h2;have K3:=aa h3;have K4:=aa (G4.out.trans h4);clear h1 h2 h3 h4;go_wp2_with fail;go_ret;exact⟨q,s3,rfl,K1.out,(H2.out.trans G2.out (ai _)).trans K2.out (by omega),K3.out,K4.out⟩
def vL (cost:Nat->Nat) (d:Nat->Bool):Nat->Nat
 | 0=>0
 | n+1=>vL cost d n+if d n then cost n else 0
theorem yH {cost:Nat->Nat} {d:Nat->Bool} {n i:Nat} (hd:d i=false):vL cost (kJ.vz d i) n=vL cost d n+if i<n then cost i else 0:=by
 induction n with
 | zero=>rfl
 | succ n ih =>
  rw[vL,vL,ih];by_cases e:i=n
  ·subst e;have h2:kJ.vz d i i=true:=by unfold kJ.vz;simp
   rw[h2,hd,if_neg (Nat.lt_irrefl _),if_pos (Nat.lt_succ_self _)];simp
  have h2:kJ.vz d i n=d n:=uJ (fun h=>e h.symm);rw[h2];by_cases hl:i<n
  ·rw[if_pos hl,if_pos (show i<n+1 by omega)];omega
  rw[if_neg hl,if_neg (show ¬ i<n+1 by omega)];omega
theorem Fs (cost:Nat->Nat) (d:Nat->Bool):∀ n,vL cost d n<=vL cost (fun _=>true) n
 | 0=>ai _
 | n+1=>by
  have:=Fs cost d n;rw[vL,vL]
  split<;>simp<;>omega
theorem AJ (cost:Nat->Nat):∀ n,vL cost (fun _=>false) n=0
 | 0=>rfl
 | n+1=>by rw[vL,AJ];rfl
structure JF (B k:Nat) (E:Nat->Prop) (L:List F) (W0:ag) (s0:List F) (t0:Array aq) (n:Nat) (sl cost:Nat->Nat) (Fk:Nat->aq->List F->ag->Prop) (d:Nat->Bool) (T:Array aq) (w:ag) (s:List F):Prop where
 st:St B k E L s w
 ext:Ext s0 s (vL cost d n)
 be:dz B k W0 w
 sz:T.size=t0.size
 kQ:∀ j,(∀ i,i<n->j≠sl i)->T[j]?=t0[j]?
 val:∀ j,j<n->d j=true->∃ v,T[sl j]?=some v/\Fk j v s w
section
variable {B k:Nat} {E:Nat->Prop} {L:List F} {W0:ag} {s0:List F} {t0:Array aq} {n:Nat} {sl cost:Nat->Nat} {Fk:Nat->aq->List F->ag->Prop} {d:Nat->Bool} {T:Array aq} {w w':ag} {s s':List F}
theorem JF.start (h:St B k E L s0 W0):∃ s,JF B k E L W0 s0 t0 n sl cost Fk (fun _=>false) t0 W0.drew s:=
 ⟨s0,h.below (ax _ _).drew,by rw[AJ];exact Ext.refl s0,.aN (ax _ _).drew,rfl,fun _ _=>rfl,fun j _ h=>absurd h lQ⟩
theorem JF.step (h:JF B k E L W0 s0 t0 n sl cost Fk d T w s) (hF:∀ j v (s s':List F) (w w':ag),(∃ c,Ext s s' c)->dz B k w w'->Fk j v s w->Fk j v s' w') (hne:∀ i j,i<n->j<n->i≠j->sl i≠sl j) (hlt:∀ i,i<n->sl i<t0.size) (i:Nat) (hi:i<n) (hd:d i=false) (v:aq)
  (hst:St B k E L s' w') (he:Ext s s' (cost i)) (hb:dz B k w w') (h1:Fk i v s' w'):∃ s,JF B k E L W0 s0 t0 n sl cost Fk (kJ.vz d i) (T.setIfInBounds (sl i) v) w' s:=by
 have hsz:sl i<T.size:=by rw[h.sz];exact hlt i hi
 refine⟨s',hst,h.ext.trans he (by rw[yH hd,if_pos hi];exact ai _),h.be.trans hb,by rw[bP,h.sz],fun j hj=>?_,fun j hj hu=>?_⟩
 ·rw[jr (hj i hi)];exact h.kQ j hj
 by_cases hki:j=i
 ·subst hki;exact⟨v,kZ hsz,h1⟩
 rw[uJ hki] at hu;obtain⟨x,hx,hf⟩:=h.val j hj hu;exact⟨x,by rw[jr (hne j i hj hi hki)];exact hx,hF j x s s' w w' ⟨_,he⟩ hb hf⟩
theorem JF.room (h:JF B k E L W0 s0 t0 n sl cost Fk d T w s) (i:Nat) (hi:i<n) (hd:d i=false) {N:Nat} (hN:s0.length+vL cost (fun _=>true) n<=N):s.length+cost i<=N:=by
 have h1:=h.ext.len;have h2:=Fs cost (kJ.vz d i) n;rw[yH hd,if_pos hi] at h2
 omega
end
inductive Vs (T:Array aq) (sl:Nat->Nat):Nat->List aq->Prop
 | nil {j:Nat}:Vs T sl j []
 | cons {j:Nat} {v:aq} {l:List aq} (a:T[sl j]?=some v) (h:Vs T sl (j+1) l):Vs T sl j (v::l)
def l_ (sl:Nat->Nat):List aq->Nat->Array aq->Array aq
 | [],_,t=>t
 | v::l,j,t=>l_ sl l (j+1) (t.setIfInBounds (sl j) v)
theorem Vs.fill {T:Array aq} {sl:Nat->Nat}:∀ {vs:List aq} {j:Nat} {t:Array aq},Vs T sl j vs->T.size=t.size->(∀ i,j<=i->i<j+vs.length->sl i<t.size)->(∀ q,(∀ i,j<=i->i<j+vs.length->q≠sl i)->T[q]?=t[q]?)->T=l_ sl vs j t
 | [],j,t,_,hs,_,ho=>Array.ext_getElem? fun q=>ho q fun i h1 h2=>by simp only[uA] at h2;omega
 | v::l,j,t,.cons a h,hs,hl,ho=>by
  show T=l_ sl l (j+1) (t.setIfInBounds (sl j) v)
  refine Vs.fill h (by rw[bP];exact hs) (fun i h1 h2=>?_) (fun q hq=>?_)
  ·rw[bP];exact hl i (by omega) (by rw[mS];omega)
  by_cases e:q=sl j
  ·subst e;rw[kZ (hl j (ai _) (by rw[mS];omega))];exact a
  rw[jr e];refine ho q fun i h1 h2=>?_
  by_cases e2:i=j
  ·rw[e2];exact e
  exact hq i (by omega) (by rw[mS] at h2;omega)
def Q5 (v:aq) (t:F) (s:List F):Prop:=∃ i:Nat,v=.int .i64 ((i:Nat):Int)/\s[i]?=some t
theorem Q5.ext {v:aq} {t:F} {s s':List F} {c:Nat} (h:Q5 v t s) (he:Ext s s' c):Q5 v t s':=by
 obtain⟨i,h1,h2⟩:=h;exact⟨i,h1,he.get h2⟩
def uC (B k:Nat) (E:Nat->Prop) (v:aq) (ts:List F) (s:List F) (w:ag):Prop:=∃ ids,IL B k E w v ids/\ids.map (fun i=>s[i]?)=ts.map some
theorem uC.ext {B k:Nat} {E:Nat->Prop} {v:aq} {ts:List F} {s s':List F} {w w':ag} {c:Nat} (h:uC B k E v ts s w) (he:Ext s s' c) (hb:dz B k w w'):uC B k E v ts s' w':=by
 obtain⟨ids,h1,h2⟩:=h;refine⟨ids,h1.wM hb,?_⟩;have key:∀ (l:List Nat) (ts:List F),l.map (fun i=>s[i]?)=ts.map some->l.map (fun i=>s'[i]?)=ts.map some:=by
  intro l;induction l with
  | nil=>intro ts h;cases ts with | nil=>rfl | cons a m=>cases h
  | cons i l ih =>
   intro ts h;cases ts with
   | nil=>cases h
   | cons a m =>
    rw[aO,aO] at h;injection h with e1 e2;rw[aO,aO,ih m e2,he.get e1]
 exact key ids ts h2
section
variable {B k:Nat} {E:Nat->Prop} {L:List F} {W0:ag} {s0:List F} {t0:Array aq} {n:Nat} {sl cost:Nat->Nat} {Fk:Nat->aq->List F->ag->Prop} {d:Nat->Bool} {T:Array aq} {w:ag} {s:List F}
theorem JF.vE (h:JF B k E L W0 s0 t0 n sl cost Fk d T w s) (j q:Nat) (hq:sl j=q) (hj:j<n) (hd:d j=true) {V:aq} (hF:∀ v,Fk j v s w->v=V):T[q]?=some V:=by
 obtain⟨v,e,f⟩:=h.val j hj hd;rw[<-hq,e,hF v f]
theorem JF.vI (h:JF B k E L W0 s0 t0 n sl cost Fk d T w s) (j q:Nat) (hq:sl j=q) (hj:j<n) (hd:d j=true) {t:F} (hF:∀ v,Fk j v s w->Q5 v t s):∃ i:Nat,T[q]?=some (.int .i64 ((i:Nat):Int))/\Hid (s[i]?=some t):=by
 obtain⟨v,e,f⟩:=h.val j hj hd;obtain⟨i,rfl,hi⟩:=hF v f;exact⟨i,by rw[<-hq,e],aa hi⟩
theorem JF.fin (h:JF B k E L W0 s0 t0 n sl cost Fk d T w s) (hlt:∀ i,i<n->sl i<t0.size) {vs:List aq} (hl:vs.length=n) (hv:Vs T sl 0 vs):T=l_ sl vs 0 t0:=
 hv.fill h.sz (fun i _ h2=>hlt i (by omega)) (fun q hq=>h.kQ q (fun i hi=>hq i (au _) (by omega)))
end
def JX (B k:Nat) (E:Nat->Prop) (L:List F) (W0:ag) (s0:List F) (t0:Array aq) (n:Nat) (sl cost:Nat->Nat) (Fk:Nat->aq->List F->ag->Prop) (d:Nat->Bool) (T:Array aq) (w:ag):Prop:=∃ s,JF B k E L W0 s0 t0 n sl cost Fk d T w s
theorem CI.ug {w:ag} {v:aq} {z:Int} {k:Nat} (h:CI w v z k):∃ b o l c,v=.agg #[.bool b,.slice o l c]:=by
 obtain⟨va,rfl,⟨o,c,rfl,-⟩,-⟩:=h;exact⟨_,_,_,_,rfl⟩
theorem CI.WE {w:ag} {v:aq} {z:Int} {k k':Nat} (h:CI w v z k) (hz:z.natAbs<aG ^ k'):CI w v z k':=by
 obtain⟨va,h1,h2,-⟩:=h;exact⟨va,h1,h2,hz⟩
theorem FL.ug {w:ag} {S:Nat->Prop} {d:Nat} {v:aq} {ts:List F} (h:FL w S d v ts):∃ o l c,v=.slice o l c:=by
 obtain⟨el,⟨ko,kc,e,-⟩,-⟩:=h;exact⟨_,_,_,e⟩
theorem FC.ug {w:ag} {S:Nat->Prop} {d:Nat} {v:aq} {t:F} (h:FC w S d v t):∃ x,v=.agg x:=by
 obtain⟨u,e,-⟩:=h;exact⟨_,e⟩
def Fj (v:aq) (t:F) (s:List F) (w:ag):Prop:=∃ g i:Nat,v=.slice (some ⟨g,0,none⟩) 1 1/\w.heap[g]?=some (.cells #[.int .i64 ((i:Nat):Int)] 116 (0,0))/\s[i]?=some t
theorem Fj.ext {B k:Nat} {v:aq} {t:F} {s s':List F} {w w':ag} {c:Nat} (h:Fj v t s w) (he:Ext s s' c) (hb:dz B k w w'):Fj v t s' w':=by
 obtain⟨g,i,h1,h2,h3⟩:=h;exact⟨g,i,h1,(hb.block g (ae h2) (NO.cells h2 (by decide))).trans h2,he.get h3⟩
inductive FD where
 | any
 | eqv (v:aq)
 | lM (t:F)
 | C0 (ts:List F)
 | blk (t:F)
 | fl (ts:List F)
 | fc (t:F)
 | ci (z:Int) (n:Nat)
def FD.holds (B k:Nat) (E:Nat->Prop):FD->aq->List F->ag->Prop
 | .any,_,_,_=>True
 | .eqv x,v,_,_=>v=x
 | .lM t,v,s,_=>Q5 v t s
 | .C0 ts,v,s,w=>uC B k E v ts s w
 | .blk t,v,s,w=>Fj v t s w
 | .fl ts,v,_,w=>FL w (NS B k E w) 9 v ts
 | .fc t,v,_,w=>FC w (NS B k E w) 10 v t
 | .ci z n,v,_,w=>CI w v z n
def EC (B k:Nat) (E:Nat->Prop) (l:List FD) (j:Nat) (v:aq) (s:List F) (w:ag):Prop:=(l.getD j .any).holds B k E v s w
theorem mU {B k:Nat} {E:Nat->Prop} (l:List FD):∀ j v (s s':List F) (w w':ag),(∃ c,Ext s s' c)->dz B k w w'->EC B k E l j v s w->EC B k E l j v s' w':=by
 rintro j v s s' w w' ⟨c,he⟩ hb h;unfold EC at h ⊢;cases hd:l.getD j .any with
 | any=>trivial
 | eqv x=>rw[hd] at h;exact h
 | lM t=>rw[hd] at h;exact Q5.ext h he
 | C0 ts=>rw[hd] at h;exact uC.ext h he hb
 | blk t=>rw[hd] at h;exact Fj.ext h he hb
 | fl ts=>rw[hd] at h;exact FL.wM h hb
 | fc t=>rw[hd] at h;exact FC.wM h hb
 | ci z n=>rw[hd] at h;exact CI.kn h hb.kn
attribute [local go_sem] eF eE eC eB
def vp (B k:Nat) (E:Nat->Prop) (L s:List F) (ts:List F) (n:Nat) (w:ag) (e:Ending) (w':ag):Prop:=∃ v s',e=.returned v/\uC B k E v ts s' w'/\St B k E L s' w'/\Ext s s' n/\dz B k w w'
theorem F2 {B k:Nat} {E:Nat->Prop} {L s:List F} (w:ag) (h:St B k E L s w) (hm:s.length+7<=900000) (i:Nat) (a:F) (hi:s[i]?=some a) (hg:Gd (kN a)) :
  aW aj 120 #[.pointer (some ⟨k,0,none⟩),.int .i64 ((i:Nat):Int)] w (gO B k E L s (kN a) 7 w):=by
 have HS:=aa h;have HM:=aa hm;have HG:=aa hg;have HI:=aa hi;have G1:Hid (Gd (bW (dV (cY a) (nF 0)))):=aa (di hg (by simp[kN,gB,fo,F.kids]));have G2:Hid (Gd (b_ a lS)):=aa (di hg (by simp[kN,gB,fo,F.kids]));have G3:Hid (Gd (dV (cY a) (nF 0))):=aa (di G1.out (by simp[bW,fo,F.kids]));have G4:Hid (Gd (cY a)):=aa (di G3.out (by simp[dV,fo,F.kids]));have G5:Hid (Gd lS):=aa (di G2.out (by simp[b_,fo,F.kids]));clear h hm hg hi;go_enter Tryz.func120,Tryz.ntmps120;go_wp2_with fail;refine (kM w HS.out (by have:=HM.out;omega) i a HI.out G4.out).mono ?_;rintro e y1 ⟨j1,s1,rfl,h1,h2,h3,h4⟩;have S1:=aa h1;have J1:=aa h3;have E1:Hid (Ext s s1 1):=aa ((Ext.refl s).trans h2 (by omega))
 have T1:Hid (dz B k w y1):=aa (h4);clear h1 h2 h3 h4;go_wp2_with fail;refine (qH y1 S1.out (by have:=HM.out;have:=E1.out.len;omega) 0 (by decide) (by decide)).mono ?_;rintro e y2 ⟨j2,s2,rfl,h1,h2,h3,h4⟩;have S2:=aa h1;replace J1:=aa (h2.get J1.out);have J2:=aa h3;have E2:Hid (Ext s s2 2):=aa (E1.out.trans h2 (by omega));have T2:Hid (dz B k w y2):=aa (T1.out.trans h4);clear h1 h2 h3 h4;go_wp2_with fail;refine (za y2 S2.out (by have:=HM.out;have:=E2.out.len;omega) j1 j2 (cY a) (nF 0) J1.out J2.out G3.out).mono ?_;rintro e y3 ⟨j3,s3,rfl,h1,h2,h3,h4⟩;have S3:=aa h1;replace J1:=aa (h2.get J1.out);replace J2:=aa (h2.get J2.out);have J3:=aa h3;have E3:Hid (Ext s s3 3):=aa (E2.out.trans h2 (by omega))
 have T3:Hid (dz B k w y3):=aa (T2.out.trans h4);clear h1 h2 h3 h4;go_wp2_with fail;refine (yV y3 S3.out (by have:=HM.out;have:=E3.out.len;omega) j3 _ J3.out G1.out).mono ?_;rintro e y4 ⟨j4,s4,rfl,h1,h2,h3,h4⟩;have S4:=aa h1;replace J1:=aa (h2.get J1.out);replace J2:=aa (h2.get J2.out);replace J3:=aa (h2.get J3.out);have J4:=aa h3;have E4:Hid (Ext s s4 4):=aa (E3.out.trans h2 (by omega));have T4:Hid (dz B k w y4):=aa (T3.out.trans h4);clear h1 h2 h3 h4;go_wp2_with fail;refine (p_ y4 S4.out (by have:=HM.out;have:=E4.out.len;omega) 9 ⟨by decide,by decide⟩ _ [] (IL.nil B k E y4) [] rfl G5.out).mono ?_;rintro e y5 ⟨j5,s5,rfl,h1,h2,h3,h4⟩;have S5:=aa h1;replace J1:=aa (h2.get J1.out);replace J2:=aa (h2.get J2.out)
 replace J3:=aa (h2.get J3.out);replace J4:=aa (h2.get J4.out);have J5:=aa h3;have E5:Hid (Ext s s5 5):=aa (E4.out.trans h2 (by omega));have T5:Hid (dz B k w y5):=aa (T4.out.trans h4);clear h1 h2 h3 h4;go_wp2_with fail;refine (k6 y5 S5.out (by have:=HM.out;have:=E5.out.len;omega) i j5 a lS (E5.out.get HI.out) J5.out G2.out).mono ?_;rintro e y6 ⟨j6,s6,rfl,h1,h2,h3,h4⟩;have S6:=aa h1;replace J1:=aa (h2.get J1.out);replace J2:=aa (h2.get J2.out);replace J3:=aa (h2.get J3.out);replace J4:=aa (h2.get J4.out);replace J5:=aa (h2.get J5.out);have J6:=aa h3;have E6:Hid (Ext s s6 6):=aa (E5.out.trans h2 (by omega));have T6:Hid (dz B k w y6):=aa (T5.out.trans h4);clear h1 h2 h3 h4
 obtain⟨z6,kq,eq,zE,gQ,sk,jX⟩:=aM y6 #[.int .i64 ((j4:Nat):Int),.int .i64 ((j6:Nat):Int)] 116;go_wp2_with fail;refine (nO z6 (S6.out.below gQ.out) (by have:=HM.out;have:=E6.out.len;omega) _ [j4,j6] (IL.block (cs:=[.int .i64 ((j4:Nat):Int),.int .i64 ((j6:Nat):Int)]) jX.out (by decide) (S6.out.fresh sk.out) (by show 2<=bI;decide) rfl) [bW (dV (cY a) (nF 0)),b_ a lS] (by simp only[aO,bM,J4.out,J6.out]) HG.out).mono ?_;rintro e y7 ⟨j7,s7,rfl,h1,h2,h3,h4⟩;have S7:=aa h1;replace J1:=aa (h2.get J1.out);replace J2:=aa (h2.get J2.out);replace J3:=aa (h2.get J3.out);replace J4:=aa (h2.get J4.out);replace J5:=aa (h2.get J5.out);replace J6:=aa (h2.get J6.out);have J7:=aa h3
 have E7:Hid (Ext s s7 7):=aa (E6.out.trans h2 (by omega));have T7:Hid (dz B k w y7):=aa ((T6.out.trans (dz.aN gQ.out)).trans h4);clear h1 h2 h3 h4;go_wp2_with fail;go_ret;exact⟨j7,s7,rfl,S7.out,E7.out,J7.out,T7.out⟩
theorem Fq {B k:Nat} {E:Nat->Prop} {L s:List F} (w:ag) (h:St B k E L s w) (hm:s.length+2<=900000) (i f:Nat) (a p:F) (hi:s[i]?=some a) (hf:s[f]?=some p) (hg:Gd (gB [bW p,a])) (ka kb:Nat) (ha:w.heap[ka]?=some (.cells #[.pointer (some ⟨k,0,none⟩)] 112 (0,0))) (hb:w.heap[kb]?=some (.cells #[.int .i64 ((f:Nat):Int)] 116 (0,0))) :
  aW aj 169 #[.int .i64 ((i:Nat):Int),.pointer (some ⟨ka,0,none⟩),.pointer (some ⟨kb,0,none⟩)] w (gO B k E L s (gB [bW p,a]) 2 w):=by
 have HS:=aa h;have HM:=aa hm;have HG:=aa hg;have HI:=aa hi;have HF:=aa hf;have gm:=aa ha;have Ai:=aa hb;have G1:Hid (Gd (bW p)):=aa (di hg (by simp[gB,fo,F.kids]));clear h hm hg hi hf ha hb;go_enter Tryz.func169,Tryz.ntmps169;go_upto_region 1 with fail;have lO:Hid (∀ i j,i<7->j<7->i≠j->(fun i=>i+5) i≠(fun i=>i+5) j):=aa (fun i j _ _ h e=>h (cQ e));have lE:Hid (∀ i,i<7->(fun i=>i+5) i<12):=aa (fun i h=>by show i+5<12;omega)
 refine kJ.region (by kernel_rfl) [[],[],[],[1,2],[],[1,2,3,4],[0,1,2,3,4,5],[0,1,2,3,4,5,6]] 7 (by kernel_rfl) (by kernel_rfl) (JX B k E L w s _ 7 (fun i=>i+5) (fun i=>[0,0,0,1,0,0,1].getD i 0) (EC B k E [.eqv (.pointer (some ⟨k,0,none⟩)),.eqv (.pointer (some ⟨k,0,none⟩)),.eqv (.int .i64 ((f:Nat):Int)),.lM (bW p),.eqv (.int .i64 ((i:Nat):Int)),.C0 [bW p,a],.lM (gB [bW p,a])])) (JF.start HS.out) ?_ ?_
 ·rintro d T wc n9 o ⟨s9,hJ⟩ ho hi hd aH dO;have hstep:=fun (v:aq) (s8:List F) (w2:ag)=>hJ.step (v:=v) (s':=s8) (w':=w2) (mU (B:=B) (k:=k) (E:=E) _) lO.out (fun i hi=>az (lE.out i hi) (of_decide_eq_true rfl)) n9 hi hd
  have bh:=aa hJ.st;have cM:=aa (hJ.room n9 hi hd (N:=900000) (show s.length+2<=900000 from by have:=HM.out;omega));have m1:T[1]?=some (.pointer (some ⟨ka,0,none⟩)):=(hJ.kQ 1 (by decide)).trans (by rfl);have bx:=(hJ.be.block ka (ae gm.out) (NO.cells gm.out (by decide))).trans gm.out;have Vr:=af (v:=.pointer (some ⟨k,0,none⟩)) bx 0 rfl;clear bx;have m2:T[2]?=some (.pointer (some ⟨kb,0,none⟩)):=(hJ.kQ 2 (by decide)).trans (by rfl);have bx:=(hJ.be.block kb (ae Ai.out) (NO.cells Ai.out (by decide))).trans Ai.out;have qb0:=af (v:=.int .i64 ((f:Nat):Int)) bx 0 rfl;clear bx;have m0:T[0]?=some (.int .i64 ((i:Nat):Int)):=(hJ.kQ 0 (by decide)).trans (by rfl)
  obtain rfl | rfl | rfl | rfl | rfl | rfl | rfl:n9=0\/n9=1\/n9=2\/n9=3\/n9=4\/n9=5\/n9=6:=by omega
  all_goals (injection ho with ho)
  all_goals (subst ho)
  all_goals (try (clear hJ aH dO;refine⟨rfl,fun K9 hK=>?_⟩;have bO:=aa hstep;clear hstep;go_simp;exact hK.out _ _ (bO.out _ _ _ bh.out ((Ext.refl _).up (au _)) (dz.refl _ _ _) rfl)))
  ·have e6:=hJ.vE 1 6 rfl (by decide) (aH 1 (by rfl)) (fun _ h=>h);have e7:=hJ.vE 2 7 rfl (by decide) (aH 2 (by rfl)) (fun _ h=>h);have c_:=aa hJ.ext;clear hJ aH dO;refine⟨rfl,fun K9 hK=>?_⟩;have bO:=aa hstep;clear hstep;go_simp;refine (yV wc bh.out cM.out f p (c_.out.get HF.out) G1.out).mono ?_;rintro e w8 ⟨i8,s8,rfl,p1,p2,p3,p4⟩;exact hK.out _ _ (bO.out _ _ _ p1 p2 p4 ⟨i8,rfl,p3⟩)
  ·obtain⟨i3,e8,H3⟩:=hJ.vI 3 8 rfl (by decide) (aH 3 (by rfl)) (fun _ h=>h);have e9:=hJ.vE 4 9 rfl (by decide) (aH 4 (by rfl)) (fun _ h=>h);have c_:=aa hJ.ext;clear hJ aH dO;refine⟨rfl,fun K9 hK=>?_⟩;have bO:=aa hstep;clear hstep;go_simp;have hal:aA wc.heap.size wc (wc.alloc _):=(ax _ _).alloc (ai _) (.cells #[.int .i64 ((i3:Nat):Int),.int .i64 ((i:Nat):Int)] 116)
   exact hK.out _ _ (bO.out _ _ _ (bh.out.below hal) ((Ext.refl _).up (au _)) (.aN hal) ⟨[i3,i],IL.block (l:=[i3,i]) (cs:=[.int .i64 ((i3:Nat):Int),.int .i64 ((i:Nat):Int)]) (show (wc.alloc (.cells #[.int .i64 ((i3:Nat):Int),.int .i64 ((i:Nat):Int)] 116)).heap[wc.heap.size]?=some (.cells [.int .i64 ((i3:Nat):Int),.int .i64 ((i:Nat):Int)].toArray 116 (0,0)) from bT wc _) (by decide) (bh.out.fresh (ai _)) (by show 2<=bI;decide) rfl,by simp only[aO,bM,H3.out,c_.out.get HI.out]⟩)
  have e5:=hJ.vE 0 5 rfl (by decide) (aH 0 (by rfl)) (fun _ h=>h);obtain⟨v5,ER,f5⟩:=hJ.val 5 (by decide) (aH 5 (by rfl));obtain⟨l5,QC,h5⟩:=(show uC B k E v5 [bW p,a] s9 wc from f5);obtain⟨q5o,q5c,g5,-⟩:=id QC;rw[g5] at ER QC;replace ER:T[10]?=_:=ER;have A5:=aa QC;have H5:=aa h5;clear f5 QC h5 g5;clear hJ aH dO;refine⟨rfl,fun K9 hK=>?_⟩;have bO:=aa hstep;clear hstep;go_simp;refine (nO wc bh.out cM.out _ l5 A5.out [bW p,a] H5.out HG.out).mono ?_;rintro e w8 ⟨i8,s8,rfl,p1,p2,p3,p4⟩;exact hK.out _ _ (bO.out _ _ _ p1 p2 p4 ⟨i8,rfl,p3⟩)
 rintro T wt ⟨s9,hJ⟩;have a0:=hJ.vE 0 5 rfl (by decide) rfl (fun _ h=>h);have a1:=hJ.vE 1 6 rfl (by decide) rfl (fun _ h=>h);have a2:=hJ.vE 2 7 rfl (by decide) rfl (fun _ h=>h);obtain⟨i3,a3,H3⟩:=hJ.vI 3 8 rfl (by decide) rfl (fun _ h=>h);have a4:=hJ.vE 4 9 rfl (by decide) rfl (fun _ h=>h);obtain⟨v5,a5,f5⟩:=hJ.val 5 (by decide) rfl;obtain⟨l5,QC,h5⟩:=(show uC B k E v5 [bW p,a] s9 wt from f5);have A5:=aa QC;clear f5 QC h5;obtain⟨i6,a6,H6⟩:=hJ.vI 6 11 rfl (by decide) rfl (fun _ h=>h);have hfr:=hJ.fin (fun i hi=>az (lE.out i hi) (of_decide_eq_true rfl)) rfl (.cons a0 (.cons a1 (.cons a2 (.cons a3 (.cons a4 (.cons a5 (.cons a6 .nil)))))));have bh:=aa hJ.st;have iT:Hid (Ext s s9 2):=aa hJ.ext;have jL:=aa hJ.be;clear hJ lO lE a0 a1 a2 a3 a4 a5 a6
 rw[hfr];clear hfr;simp only[l_,fH,aY,bS,bD];simp only[cL,cx];go_wp2_with fail;go_ret;exact⟨i6,s9,rfl,bh.out,iT.out,H6.out,jL.out⟩
theorem ME {B k:Nat} {E:Nat->Prop} {L s:List F} (w:ag) (h:St B k E L s w) (hm:s.length+20<=900000) (i l:Nat) (X Y:F) (hx:s[i]?=some X) (hy:s[l]?=some Y) (hg:∀ t ∈ mY X Y,Gd t) :
  aW aj 124 #[.pointer (some ⟨k,0,none⟩),.int .i64 ((i:Nat):Int),.int .i64 ((l:Nat):Int)] w (vp B k E L s (mY X Y) 20 w):=by
 have HS:=aa h;have HM:=aa hm;have HX:=aa hx;have HY:=aa hy;have g1:=hg (gB [bW (gC Y),b_ (cY Y) (gE (cY X) (nF 1))]) (by simp[mY]);have g2:=hg (gB [gC Y,b_ X lS]) (by simp[mY]);have g3:=hg (gB [bW (gC Y),b_ Y (qp (xZ Y) X)]) (by simp[mY]);have g4:=di g1 (x:=b_ (cY Y) (gE (cY X) (nF 1))) (by simp[gB,fo,F.kids]);have g5:=di g2 (x:=b_ X lS) (by simp[gB,fo,F.kids]);have g6:=di g3 (x:=b_ Y (qp (xZ Y) X)) (by simp[gB,fo,F.kids]);have g7:=di g2 (x:=gC Y) (by simp[gB,fo,F.kids]);have g8:=di g4 (x:=gE (cY X) (nF 1)) (by simp[b_,fo,F.kids]);have g9:=di g4 (x:=cY Y) (by simp[b_,fo,F.kids]);have g10:=di g8 (x:=cY X) (by simp[gE,fo,F.kids])
 have g11:=di g6 (x:=qp (xZ Y) X) (by simp[b_,fo,F.kids]);have g12:=di g11 (x:=xZ Y) (by simp[qp,fo,F.kids]);have g13:=di g5 (x:=lS) (by simp[b_,fo,F.kids]);have G1:=aa g1;have G2:=aa g2;have G3:=aa g3;have G4:=aa g4;have G5:=aa g5;have G6:=aa g6;have G7:=aa g7;have G8:=aa g8;have G9:=aa g9;have G10:=aa g10;have G11:=aa g11;have G12:=aa g12;have G13:=aa g13;clear h hm hx hy hg g1 g2 g3 g4 g5 g6 g7 g8 g9 g10 g11 g12 g13;go_enter Tryz.func124,Tryz.ntmps124;have HW:=aa (ax w.heap.size w);obtain⟨x1,kS,eS,Z_,NK,ZG,cr⟩:=aM w #[.pointer (some ⟨k,0,none⟩)] 112;replace HS:=aa (HS.out.below NK.out);replace HW:=aa (HW.out.trans (NK.out.mono HW.out.size))
 have c0:=af (v:=.pointer (some ⟨k,0,none⟩)) cr.out 0 rfl;have cA:=aP cr.out 0;go_wp2_with fail;refine (A9 x1 HS.out (by have:=HM.out;omega) l Y HY.out G7.out).mono ?_;rintro e x3 ⟨f,s1,rfl,h1,h2,h3,h4⟩;have pY:=aa h1;have HE1:=aa h2;have HF:=aa h3;have pX:=aa ((dz.aN HW.out).trans h4);replace HX:=aa (h2.get HX.out);replace HY:=aa (h2.get HY.out);replace cr:=aa ((h4.block kS (ae cr.out) (NO.cells cr.out (by decide))).trans cr.out);have Yw:Hid (s1.length+17<=900000):=aa (by have:=HM.out;have:=h2.len;omega);clear h1 h2 h3 h4 HM HS HW;clear c0 cA;skip;obtain⟨AD,kf,ef,jK,bL,jc,aE⟩:=aM x3 #[.int .i64 ((f:Nat):Int)] 116;replace cr:=aS bL.out cr;replace pY:=aa (pY.out.below bL.out)
 replace pX:=aa (pX.out.trans (dz.aN bL.out));have c0:=af (v:=.pointer (some ⟨k,0,none⟩)) cr.out 0 rfl;have cA:=aP cr.out 0;have d0:=af (v:=.int .i64 ((f:Nat):Int)) aE.out 0 rfl;have tK:=aP aE.out 0;go_upto_region 3 with fail;clear c0 cA d0 tK;have lO:Hid (∀ i j,i<35->j<35->i≠j->(fun i=>i+13) i≠(fun i=>i+13) j):=aa (fun i j _ _ h e=>h (cQ e));have lE:Hid (∀ i,i<35->(fun i=>i+13) i<48):=aa (fun i h=>by show i+13<48;omega)
 refine kJ.region (by kernel_rfl) [[],[],[],[],[2,3],[],[],[],[2,3,4,6,7],[2,3,4,5,6,7,8],[1,2,3,4,5,6,7,8,9],[0,1,2,3,4,5,6,7,8,9,10],[],[],[],[],[],[0,1,2,3,4,5,6,7,8,9,10,11,16],[0,1,2,3,4,5,6,7,8,9,10,11,14,15,16,17],[0,1,2,3,4,5,6,7,8,9,10,11,13,14,15,16,17,18],[0,1,2,3,4,5,6,7,8,9,10,11,12,13,14,15,16,17,18,19],[],[],[],[],[],[],[26],[0,1,2,3,4,5,6,7,8,9,10,11,12,13,14,15,16,17,18,19,20,25,26,27],[],[0,1,2,3,4,5,6,7,8,9,10,11,12,13,14,15,16,17,18,19,20,25,26,27,28,29],[0,1,2,3,4,5,6,7,8,9,10,11,12,13,14,15,16,17,18,19,20,24,25,26,27,28,29,30],[0,1,2,3,4,5,6,7,8,9,10,11,12,13,14,15,16,17,18,19,20,22,23,24,25,26,27,28,29,30,31],[0,1,2,3,4,5,6,7,8,9,10,11,12,13,14,15,16,17,18,19,20,21,22,23,24,25,26,27,28,29,30,31,32],[0,1,2,3,4,5,6,7,8,9,10,11,12,13,14,15,16,17,18,19,20,21,22,23,24,25,26,27,28,29,30,31,32,33],[0,1,2,3,4,5,6,7,8,9,10,11,12,13,14,15,16,17,18,19,20,21,22,23,24,25,26,27,28,29,30,31,32,33,34]] 35 (by kernel_rfl) (by kernel_rfl) (JX B k E L AD s1 _ 35 (fun i=>i+13) (fun i=>[0,0,0,0,1,0,0,0,1,2,1,2,0,0,0,0,0,1,1,0,1,0,0,0,0,0,0,0,1,0,0,1,1,2,0].getD i 0) (EC B k E [.eqv (.func (.func 169) #[] #[.pointer (some ⟨kS,0,none⟩),.pointer (some ⟨kf,0,none⟩)]),.eqv (.pointer (some ⟨k,0,none⟩)),.eqv (.pointer (some ⟨k,0,none⟩)),.eqv (.int .i64 ((l:Nat):Int)),.lM (cY Y),.eqv (.pointer (some ⟨k,0,none⟩)),.eqv (.pointer (some ⟨k,0,none⟩)),.eqv (.int .i64 ((i:Nat):Int)),.lM (cY X),.lM (gE (cY X) (nF 1)),.lM (b_ (cY Y) (gE (cY X) (nF 1))),.lM (gB [bW (gC Y),b_ (cY Y) (gE (cY X) (nF 1))]),.eqv (.pointer (some ⟨k,0,none⟩)),.eqv (.int .i64 ((f:Nat):Int)),.eqv (.pointer (some ⟨k,0,none⟩)),.eqv (.int .i64 ((i:Nat):Int)),.eqv (.pointer (some ⟨k,0,none⟩)),.lM (lS),.lM (b_ X lS),.C0 [gC Y,b_ X lS],.lM (gB [gC Y,b_ X lS]),.eqv (.func (.func 169) #[] #[.pointer (some ⟨kS,0,none⟩),.pointer (some ⟨kf,0,none⟩)]),.eqv (.pointer (some ⟨k,0,none⟩)),.eqv (.int .i64 ((l:Nat):Int)),.eqv (.pointer (some ⟨k,0,none⟩)),.eqv (.pointer (some ⟨k,0,none⟩)),.eqv (.int .i64 ((l:Nat):Int)),.C0 [Y],.lM (xZ Y),.eqv (.int .i64 ((i:Nat):Int)),.C0 [xZ Y,X],.lM (qp (xZ Y) X),.lM (b_ Y (qp (xZ Y) X)),.lM (gB [bW (gC Y),b_ Y (qp (xZ Y) X)]),.C0 [gB [bW (gC Y),b_ (cY Y) (gE (cY X) (nF 1))],gB [gC Y,b_ X lS],gB [bW (gC Y),b_ Y (qp (xZ Y) X)]]])) (JF.start pY.out) ?_ ?_
 ·rintro d T wc n9 o ⟨s9,hJ⟩ ho hi hd aH dO;have hstep:=fun (v:aq) (s8:List F) (w2:ag)=>hJ.step (v:=v) (s':=s8) (w':=w2) (mU (B:=B) (k:=k) (E:=E) _) lO.out (fun i hi=>az (lE.out i hi) (of_decide_eq_true rfl)) n9 hi hd
  have bh:=aa hJ.st;have cM:=aa (hJ.room n9 hi hd (N:=900000) (show s1.length+15<=900000 from by have:=Yw.out;omega));have m8:T[8]?=some (.func (.func 169) #[] #[.pointer (some ⟨kS,0,none⟩),.pointer (some ⟨kf,0,none⟩)]):=(hJ.kQ 8 (by decide)).trans (by rfl);have m3:T[3]?=some (.pointer (some ⟨kS,0,none⟩)):=(hJ.kQ 3 (by decide)).trans (by rfl);have bx:=(hJ.be.block kS (ae cr.out) (NO.cells cr.out (by decide))).trans cr.out;have qS0:=af (v:=.pointer (some ⟨k,0,none⟩)) bx 0 rfl;clear bx;have m2:T[2]?=some (.int .i64 ((l:Nat):Int)):=(hJ.kQ 2 (by decide)).trans (by rfl);have m1:T[1]?=some (.int .i64 ((i:Nat):Int)):=(hJ.kQ 1 (by decide)).trans (by rfl);have m7:T[7]?=some (.pointer (some ⟨kf,0,none⟩)):=(hJ.kQ 7 (by decide)).trans (by rfl)
  have bx:=(hJ.be.block kf (ae aE.out) (NO.cells aE.out (by decide))).trans aE.out;have qf0:=af (v:=.int .i64 ((f:Nat):Int)) bx 0 rfl;clear bx;obtain rfl | rfl | rfl | rfl | rfl | rfl | rfl | rfl | rfl | rfl | rfl | rfl | rfl | rfl | rfl | rfl | rfl | rfl | rfl | rfl | rfl | rfl | rfl | rfl | rfl | rfl | rfl | rfl | rfl | rfl | rfl | rfl | rfl | rfl | rfl:n9=0\/n9=1\/n9=2\/n9=3\/n9=4\/n9=5\/n9=6\/n9=7\/n9=8\/n9=9\/n9=10\/n9=11\/n9=12\/n9=13\/n9=14\/n9=15\/n9=16\/n9=17\/n9=18\/n9=19\/n9=20\/n9=21\/n9=22\/n9=23\/n9=24\/n9=25\/n9=26\/n9=27\/n9=28\/n9=29\/n9=30\/n9=31\/n9=32\/n9=33\/n9=34:=by omega
  all_goals (injection ho with ho)
  all_goals (subst ho)
  all_goals (try (clear hJ aH dO;refine⟨rfl,fun K9 hK=>?_⟩;have bO:=aa hstep;clear hstep;go_simp;exact hK.out _ _ (bO.out _ _ _ bh.out ((Ext.refl _).up (au _)) (dz.refl _ _ _) rfl)))
  ·have RK:=hJ.vE 2 15 rfl (by decide) (aH 2 (by rfl)) (fun _ h=>h);have O1:=hJ.vE 3 16 rfl (by decide) (aH 3 (by rfl)) (fun _ h=>h);have c_:=aa hJ.ext;clear hJ aH dO;refine⟨rfl,fun K9 hK=>?_⟩;have bO:=aa hstep;clear hstep;go_simp;refine (kM wc bh.out cM.out l Y (c_.out.get HY.out) G9.out).mono ?_;rintro e w8 ⟨i8,s8,rfl,p1,p2,p3,p4⟩;exact hK.out _ _ (bO.out _ _ _ p1 p2 p4 ⟨i8,rfl,p3⟩)
  ·have Dh:=hJ.vE 6 19 rfl (by decide) (aH 6 (by rfl)) (fun _ h=>h);have Lj:=hJ.vE 7 20 rfl (by decide) (aH 7 (by rfl)) (fun _ h=>h);have c_:=aa hJ.ext;clear hJ aH dO;refine⟨rfl,fun K9 hK=>?_⟩;have bO:=aa hstep;clear hstep;go_simp;refine (kM wc bh.out cM.out i X (c_.out.get HX.out) G10.out).mono ?_;rintro e w8 ⟨i8,s8,rfl,p1,p2,p3,p4⟩;exact hK.out _ _ (bO.out _ _ _ p1 p2 p4 ⟨i8,rfl,p3⟩)
  ·have QI:=hJ.vE 5 18 rfl (by decide) (aH 5 (by rfl)) (fun _ h=>h);obtain⟨i8,L_,H8⟩:=hJ.vI 8 21 rfl (by decide) (aH 8 (by rfl)) (fun _ h=>h);clear hJ aH dO;refine⟨rfl,fun K9 hK=>?_⟩;have bO:=aa hstep;clear hstep;go_simp;refine (FF wc bh.out cM.out i8 _ H8.out G8.out).mono ?_;rintro e w8 ⟨i8,s8,rfl,p1,p2,p3,p4⟩;exact hK.out _ _ (bO.out _ _ _ p1 p2 p4 ⟨i8,rfl,p3⟩)
  ·have X7:=hJ.vE 1 14 rfl (by decide) (aH 1 (by rfl)) (fun _ h=>h);obtain⟨i4,QJ,H4⟩:=hJ.vI 4 17 rfl (by decide) (aH 4 (by rfl)) (fun _ h=>h);obtain⟨i9,L9,H9⟩:=hJ.vI 9 22 rfl (by decide) (aH 9 (by rfl)) (fun _ h=>h);clear hJ aH dO;refine⟨rfl,fun K9 hK=>?_⟩;have bO:=aa hstep;clear hstep;go_simp;refine (k6 wc bh.out cM.out i4 i9 _ _ H4.out H9.out G4.out).mono ?_;rintro e w8 ⟨i8,s8,rfl,p1,p2,p3,p4⟩;exact hK.out _ _ (bO.out _ _ _ p1 p2 p4 ⟨i8,rfl,p3⟩)
  ·have X8:=hJ.vE 0 13 rfl (by decide) (aH 0 (by rfl)) (fun _ h=>h);obtain⟨i10,Li,Vg⟩:=hJ.vI 10 23 rfl (by decide) (aH 10 (by rfl)) (fun _ h=>h);have c_:=aa hJ.ext;have lA:=(hJ.be.block kS (ae cr.out) (NO.cells cr.out (by decide))).trans cr.out;have pL:=(hJ.be.block kf (ae aE.out) (NO.cells aE.out (by decide))).trans aE.out;have qZ:=aa lA;have IJ:=aa pL;clear lA pL;clear hJ aH dO;refine⟨rfl,fun K9 hK=>?_⟩;have bO:=aa hstep;clear hstep;go_simp;refine (Fq wc bh.out cM.out i10 f _ _ Vg.out (c_.out.get HF.out) G1.out kS kf qZ.out IJ.out).mono ?_;rintro e w8 ⟨i8,s8,rfl,p1,p2,p3,p4⟩;exact hK.out _ _ (bO.out _ _ _ p1 p2 p4 ⟨i8,rfl,p3⟩)
  ·have e29:=hJ.vE 16 29 rfl (by decide) (aH 16 (by rfl)) (fun _ h=>h);clear hJ aH dO;refine⟨rfl,fun K9 hK=>?_⟩;have bO:=aa hstep;clear hstep;go_simp;refine (p_ wc bh.out cM.out 9 ⟨by decide,by decide⟩ _ [] (IL.nil B k E wc) [] rfl G13.out).mono ?_;rintro e w8 ⟨i8,s8,rfl,p1,p2,p3,p4⟩;exact hK.out _ _ (bO.out _ _ _ p1 p2 p4 ⟨i8,rfl,p3⟩)
  ·have T_:=hJ.vE 14 27 rfl (by decide) (aH 14 (by rfl)) (fun _ h=>h);have X4:=hJ.vE 15 28 rfl (by decide) (aH 15 (by rfl)) (fun _ h=>h);obtain⟨i17,X3,Pg⟩:=hJ.vI 17 30 rfl (by decide) (aH 17 (by rfl)) (fun _ h=>h);have c_:=aa hJ.ext;clear hJ aH dO;refine⟨rfl,fun K9 hK=>?_⟩;have bO:=aa hstep;clear hstep;go_simp;refine (k6 wc bh.out cM.out i i17 X lS (c_.out.get HX.out) Pg.out G5.out).mono ?_;rintro e w8 ⟨i8,s8,rfl,p1,p2,p3,p4⟩;exact hK.out _ _ (bO.out _ _ _ p1 p2 p4 ⟨i8,rfl,p3⟩)
  ·have Ua:=hJ.vE 13 26 rfl (by decide) (aH 13 (by rfl)) (fun _ h=>h);obtain⟨i18,X0,H18⟩:=hJ.vI 18 31 rfl (by decide) (aH 18 (by rfl)) (fun _ h=>h);have c_:=aa hJ.ext;clear hJ aH dO;refine⟨rfl,fun K9 hK=>?_⟩;have bO:=aa hstep;clear hstep;go_simp;have hal:aA wc.heap.size wc (wc.alloc _):=(ax _ _).alloc (ai _) (.cells #[.int .i64 ((f:Nat):Int),.int .i64 ((i18:Nat):Int)] 116)
   exact hK.out _ _ (bO.out _ _ _ (bh.out.below hal) ((Ext.refl _).up (au _)) (.aN hal) ⟨[f,i18],IL.block (l:=[f,i18]) (cs:=[.int .i64 ((f:Nat):Int),.int .i64 ((i18:Nat):Int)]) (show (wc.alloc (.cells #[.int .i64 ((f:Nat):Int),.int .i64 ((i18:Nat):Int)] 116)).heap[wc.heap.size]?=some (.cells [.int .i64 ((f:Nat):Int),.int .i64 ((i18:Nat):Int)].toArray 116 (0,0)) from bT wc _) (by decide) (bh.out.fresh (ai _)) (by show 2<=bI;decide) rfl,by simp only[aO,bM,c_.out.get HF.out,H18.out]⟩)
  ·have O0:=hJ.vE 12 25 rfl (by decide) (aH 12 (by rfl)) (fun _ h=>h);obtain⟨Wm,VQ,f19⟩:=hJ.val 19 (by decide) (aH 19 (by rfl));obtain⟨Y',EK,VM⟩:=(show uC B k E Wm [gC Y,b_ X lS] s9 wc from f19);obtain⟨aJ4,aJ5,g19,-⟩:=id EK;rw[g19] at VQ EK;replace VQ:T[32]?=_:=VQ;have A19:=aa EK;have H19:=aa VM;clear f19 EK VM g19;clear hJ aH dO;refine⟨rfl,fun K9 hK=>?_⟩;have bO:=aa hstep;clear hstep;go_simp;refine (nO wc bh.out cM.out _ Y' A19.out _ H19.out G2.out).mono ?_;rintro e w8 ⟨i8,s8,rfl,p1,p2,p3,p4⟩;exact hK.out _ _ (bO.out _ _ _ p1 p2 p4 ⟨i8,rfl,p3⟩)
  ·have Ba:=hJ.vE 26 39 rfl (by decide) (aH 26 (by rfl)) (fun _ h=>h);have c_:=aa hJ.ext;clear hJ aH dO;refine⟨rfl,fun K9 hK=>?_⟩;have bO:=aa hstep;clear hstep;go_simp;have hal:aA wc.heap.size wc (wc.alloc _):=(ax _ _).alloc (ai _) (.cells #[.int .i64 ((l:Nat):Int)] 116);exact hK.out _ _ (bO.out _ _ _ (bh.out.below hal) ((Ext.refl _).up (au _)) (.aN hal) ⟨[l],IL.block (l:=[l]) (cs:=[.int .i64 ((l:Nat):Int)]) (show (wc.alloc (.cells #[.int .i64 ((l:Nat):Int)] 116)).heap[wc.heap.size]?=some (.cells [.int .i64 ((l:Nat):Int)].toArray 116 (0,0)) from bT wc _) (by decide) (bh.out.fresh (ai _)) (by show 1<=bI;decide) rfl,by simp only[aO,bM,c_.out.get HY.out]⟩)
  ·have Df:=hJ.vE 25 38 rfl (by decide) (aH 25 (by rfl)) (fun _ h=>h);obtain⟨Wl,Af,f27⟩:=hJ.val 27 (by decide) (aH 27 (by rfl));obtain⟨Y_,EJ,VK⟩:=(show uC B k E Wl [Y] s9 wc from f27);obtain⟨aJ2,aJ3,Z7,-⟩:=id EJ;rw[Z7] at Af EJ;replace Af:T[40]?=_:=Af;have A27:=aa EJ;have H27:=aa VK;clear f27 EJ VK Z7;clear hJ aH dO;refine⟨rfl,fun K9 hK=>?_⟩;have bO:=aa hstep;clear hstep;go_simp;refine (p_ wc bh.out cM.out 7 ⟨by decide,by decide⟩ _ Y_ A27.out [Y] H27.out G12.out).mono ?_;rintro e w8 ⟨i8,s8,rfl,p1,p2,p3,p4⟩;exact hK.out _ _ (bO.out _ _ _ p1 p2 p4 ⟨i8,rfl,p3⟩)
  ·obtain⟨i28,Cm,Ve⟩:=hJ.vI 28 41 rfl (by decide) (aH 28 (by rfl)) (fun _ h=>h);have Cl:=hJ.vE 29 42 rfl (by decide) (aH 29 (by rfl)) (fun _ h=>h);have c_:=aa hJ.ext;clear hJ aH dO;refine⟨rfl,fun K9 hK=>?_⟩;have bO:=aa hstep;clear hstep;go_simp;have hal:aA wc.heap.size wc (wc.alloc _):=(ax _ _).alloc (ai _) (.cells #[.int .i64 ((i28:Nat):Int),.int .i64 ((i:Nat):Int)] 116)
   exact hK.out _ _ (bO.out _ _ _ (bh.out.below hal) ((Ext.refl _).up (au _)) (.aN hal) ⟨[i28,i],IL.block (l:=[i28,i]) (cs:=[.int .i64 ((i28:Nat):Int),.int .i64 ((i:Nat):Int)]) (show (wc.alloc (.cells #[.int .i64 ((i28:Nat):Int),.int .i64 ((i:Nat):Int)] 116)).heap[wc.heap.size]?=some (.cells [.int .i64 ((i28:Nat):Int),.int .i64 ((i:Nat):Int)].toArray 116 (0,0)) from bT wc _) (by decide) (bh.out.fresh (ai _)) (by show 2<=bI;decide) rfl,by simp only[aO,bM,Ve.out,c_.out.get HX.out]⟩)
  ·have Dg:=hJ.vE 24 37 rfl (by decide) (aH 24 (by rfl)) (fun _ h=>h);obtain⟨v30,tL,f30⟩:=hJ.val 30 (by decide) (aH 30 (by rfl));obtain⟨Y9,EI,VI⟩:=(show uC B k E v30 [xZ Y,X] s9 wc from f30);obtain⟨aJ0,aJ1,Z6,-⟩:=id EI;rw[Z6] at tL EI;replace tL:T[43]?=_:=tL;have A30:=aa EI;have H30:=aa VI;clear f30 EI VI Z6;clear hJ aH dO;refine⟨rfl,fun K9 hK=>?_⟩;have bO:=aa hstep;clear hstep;go_simp;refine (p_ wc bh.out cM.out 10 ⟨by decide,by decide⟩ _ Y9 A30.out [xZ Y,X] H30.out G11.out).mono ?_;rintro e w8 ⟨i8,s8,rfl,p1,p2,p3,p4⟩;exact hK.out _ _ (bO.out _ _ _ p1 p2 p4 ⟨i8,rfl,p3⟩)
  ·have e35:=hJ.vE 22 35 rfl (by decide) (aH 22 (by rfl)) (fun _ h=>h);have Gc:=hJ.vE 23 36 rfl (by decide) (aH 23 (by rfl)) (fun _ h=>h);obtain⟨i31,uw,Vd⟩:=hJ.vI 31 44 rfl (by decide) (aH 31 (by rfl)) (fun _ h=>h);have c_:=aa hJ.ext;clear hJ aH dO;refine⟨rfl,fun K9 hK=>?_⟩;have bO:=aa hstep;clear hstep;go_simp;refine (k6 wc bh.out cM.out l i31 Y _ (c_.out.get HY.out) Vd.out G6.out).mono ?_;rintro e w8 ⟨i8,s8,rfl,p1,p2,p3,p4⟩;exact hK.out _ _ (bO.out _ _ _ p1 p2 p4 ⟨i8,rfl,p3⟩)
  ·have Z':=hJ.vE 21 34 rfl (by decide) (aH 21 (by rfl)) (fun _ h=>h);obtain⟨i32,xA,Vc⟩:=hJ.vI 32 45 rfl (by decide) (aH 32 (by rfl)) (fun _ h=>h);have c_:=aa hJ.ext;have lA:=(hJ.be.block kS (ae cr.out) (NO.cells cr.out (by decide))).trans cr.out;have pL:=(hJ.be.block kf (ae aE.out) (NO.cells aE.out (by decide))).trans aE.out;have qZ:=aa lA;have IJ:=aa pL;clear lA pL;clear hJ aH dO;refine⟨rfl,fun K9 hK=>?_⟩;have bO:=aa hstep;clear hstep;go_simp;refine (Fq wc bh.out cM.out i32 f _ _ Vc.out (c_.out.get HF.out) G3.out kS kf qZ.out IJ.out).mono ?_;rintro e w8 ⟨i8,s8,rfl,p1,p2,p3,p4⟩;exact hK.out _ _ (bO.out _ _ _ p1 p2 p4 ⟨i8,rfl,p3⟩)
  obtain⟨i11,I1,Ph⟩:=hJ.vI 11 24 rfl (by decide) (aH 11 (by rfl)) (fun _ h=>h);obtain⟨i20,e33,Vf⟩:=hJ.vI 20 33 rfl (by decide) (aH 20 (by rfl)) (fun _ h=>h);obtain⟨i33,wA,H33⟩:=hJ.vI 33 46 rfl (by decide) (aH 33 (by rfl)) (fun _ h=>h);clear hJ aH dO;refine⟨rfl,fun K9 hK=>?_⟩;have bO:=aa hstep;clear hstep;go_simp;have hal:aA wc.heap.size wc (wc.alloc _):=(ax _ _).alloc (ai _) (.cells #[.int .i64 ((i11:Nat):Int),.int .i64 ((i20:Nat):Int),.int .i64 ((i33:Nat):Int)] 116)
  exact hK.out _ _ (bO.out _ _ _ (bh.out.below hal) ((Ext.refl _).up (au _)) (.aN hal) ⟨[i11,i20,i33],IL.block (l:=[i11,i20,i33]) (cs:=[.int .i64 ((i11:Nat):Int),.int .i64 ((i20:Nat):Int),.int .i64 ((i33:Nat):Int)]) (show (wc.alloc (.cells #[.int .i64 ((i11:Nat):Int),.int .i64 ((i20:Nat):Int),.int .i64 ((i33:Nat):Int)] 116)).heap[wc.heap.size]?=some (.cells [.int .i64 ((i11:Nat):Int),.int .i64 ((i20:Nat):Int),.int .i64 ((i33:Nat):Int)].toArray 116 (0,0)) from bT wc _) (by decide) (bh.out.fresh (ai _)) (by show 3<=bI;decide) rfl,by simp only[aO,bM,Ph.out,Vf.out,H33.out]⟩)
 rintro T wt ⟨s9,hJ⟩;have a0:=hJ.vE 0 13 rfl (by decide) rfl (fun _ h=>h);have a1:=hJ.vE 1 14 rfl (by decide) rfl (fun _ h=>h);have a2:=hJ.vE 2 15 rfl (by decide) rfl (fun _ h=>h);have a3:=hJ.vE 3 16 rfl (by decide) rfl (fun _ h=>h);obtain⟨i4,a4,H4⟩:=hJ.vI 4 17 rfl (by decide) rfl (fun _ h=>h);have a5:=hJ.vE 5 18 rfl (by decide) rfl (fun _ h=>h);have a6:=hJ.vE 6 19 rfl (by decide) rfl (fun _ h=>h);have a7:=hJ.vE 7 20 rfl (by decide) rfl (fun _ h=>h);obtain⟨i8,a8,H8⟩:=hJ.vI 8 21 rfl (by decide) rfl (fun _ h=>h);obtain⟨i9,a9,H9⟩:=hJ.vI 9 22 rfl (by decide) rfl (fun _ h=>h);obtain⟨i10,Dw,Vg⟩:=hJ.vI 10 23 rfl (by decide) rfl (fun _ h=>h);obtain⟨i11,Dv,Ph⟩:=hJ.vI 11 24 rfl (by decide) rfl (fun _ h=>h);have a12:=hJ.vE 12 25 rfl (by decide) rfl (fun _ h=>h)
 have Du:=hJ.vE 13 26 rfl (by decide) rfl (fun _ h=>h);have Lz:=hJ.vE 14 27 rfl (by decide) rfl (fun _ h=>h);have O':=hJ.vE 15 28 rfl (by decide) rfl (fun _ h=>h);have O_:=hJ.vE 16 29 rfl (by decide) rfl (fun _ h=>h);obtain⟨i17,O9,Pg⟩:=hJ.vI 17 30 rfl (by decide) rfl (fun _ h=>h);obtain⟨i18,O8,H18⟩:=hJ.vI 18 31 rfl (by decide) rfl (fun _ h=>h);obtain⟨Wm,O7,f19⟩:=hJ.val 19 (by decide) rfl;obtain⟨Y',EK,VM⟩:=(show uC B k E Wm [gC Y,b_ X lS] s9 wt from f19);have A19:=aa EK;clear f19 EK VM;obtain⟨i20,a20,Vf⟩:=hJ.vI 20 33 rfl (by decide) rfl (fun _ h=>h);have a21:=hJ.vE 21 34 rfl (by decide) rfl (fun _ h=>h);have a22:=hJ.vE 22 35 rfl (by decide) rfl (fun _ h=>h);have Uq:=hJ.vE 23 36 rfl (by decide) rfl (fun _ h=>h)
 have a24:=hJ.vE 24 37 rfl (by decide) rfl (fun _ h=>h);have Up:=hJ.vE 25 38 rfl (by decide) rfl (fun _ h=>h);have Uo:=hJ.vE 26 39 rfl (by decide) rfl (fun _ h=>h);obtain⟨Wl,Un,f27⟩:=hJ.val 27 (by decide) rfl;obtain⟨Y_,EJ,VK⟩:=(show uC B k E Wl [Y] s9 wt from f27);have A27:=aa EJ;clear f27 EJ VK;obtain⟨i28,a28,Ve⟩:=hJ.vI 28 41 rfl (by decide) rfl (fun _ h=>h);have Um:=hJ.vE 29 42 rfl (by decide) rfl (fun _ h=>h);obtain⟨v30,Ul,f30⟩:=hJ.val 30 (by decide) rfl;obtain⟨Y9,EI,VI⟩:=(show uC B k E v30 [xZ Y,X] s9 wt from f30);have A30:=aa EI;clear f30 EI VI;obtain⟨i31,a31,Vd⟩:=hJ.vI 31 44 rfl (by decide) rfl (fun _ h=>h);obtain⟨i32,a32,Vc⟩:=hJ.vI 32 45 rfl (by decide) rfl (fun _ h=>h)
 obtain⟨i33,Uk,H33⟩:=hJ.vI 33 46 rfl (by decide) rfl (fun _ h=>h);obtain⟨v34,Uj,f34⟩:=hJ.val 34 (by decide) rfl;obtain⟨l34,TQ,Z5⟩:=(show uC B k E v34 [gB [bW (gC Y),b_ (cY Y) (gE (cY X) (nF 1))],gB [gC Y,b_ X lS],gB [bW (gC Y),b_ Y (qp (xZ Y) X)]] s9 wt from f34);have A34:=aa TQ;have H34:=aa Z5;clear f34 TQ Z5
 have hfr:=hJ.fin (fun i hi=>az (lE.out i hi) (of_decide_eq_true rfl)) rfl (.cons a0 (.cons a1 (.cons a2 (.cons a3 (.cons a4 (.cons a5 (.cons a6 (.cons a7 (.cons a8 (.cons a9 (.cons Dw (.cons Dv (.cons a12 (.cons Du (.cons Lz (.cons O' (.cons O_ (.cons O9 (.cons O8 (.cons O7 (.cons a20 (.cons a21 (.cons a22 (.cons Uq (.cons a24 (.cons Up (.cons Uo (.cons Un (.cons a28 (.cons Um (.cons Ul (.cons a31 (.cons a32 (.cons Uk (.cons Uj .nil)))))))))))))))))))))))))))))))))));have bh:=aa hJ.st;have iT:Hid (Ext s1 s9 15):=aa hJ.ext;have jL:=aa hJ.be;clear hJ lO lE a0 a1 a2 a3 a4 a5 a6 a7 a8 a9 Dw Dv a12 Du Lz O' O_ O9 O8 O7 a20 a21 a22 Uq a24 Up Uo Un a28 Um Ul a31 a32 Uk Uj;rw[hfr];clear hfr
 simp only[l_,fH,aY,bS,bD];simp only[cL,cx];go_wp2_with fail;go_ret;exact⟨_,s9,rfl,⟨l34,A34.out,H34.out⟩,bh.out,HE1.out.trans iT.out (by omega),pX.out.trans jL.out⟩
theorem PU:(Tryz.prog.info? 116).map (fun i=>(i.zero,i.size,i.bytes))=some (some (.int .i64 0),1,8):=by kernel_rfl
def iI:El Nat where
 e:=116
 t:=114
 n:=1
 b:=8
 z:=.int .i64 0
 f i:=[.int .i64 ((i:Nat):Int)]
 R _ _:=True
 ok _:=True
 pos:=by decide
 I2:=by decide
 zs:=rfl
 z32:=by intro u hu z;simp only[Value.cells,bz,aU,or_false] at hu;subst hu;intro h;cases h
 ht:=Tryz.underlying114
 info:=PU
 len _:=rfl
 one n:=by intro u hu;rw[aZ] at hu;subst hu;rfl
 n32 n:=by intro u hu z;rw[aZ] at hu;subst hu;intro h;cases h
 fr _ _ _:=trivial
 own:=trivial
theorem uX (l:List Nat):l.flatMap iI.f=l.map fun i=>fm .i64 ((i:Nat):Int):=by
 induction l with
 | nil=>rfl
 | cons a l ih=>rw[List.flatMap_cons,ih];rfl
theorem kC {B k B0:Nat} {w w':ag} {v:aq} {l:List Nat} (h:iI.Row w B0 v l) (hk:dz B k w w'):iI.Row w' B0 v l:=by
 have blk:∀ (g:Nat) (c:Array aq),w.heap[g]?=some (Obj.cells c 116 (0,0))->w'.heap[g]?=some (Obj.cells c 116 (0,0)):=fun g c hc=>(hk.block g (ae hc) (NO.cells hc (by decide))).trans hc
 obtain⟨⟨h1,h2⟩,h3,h4⟩:=h;refine⟨⟨h1,?_⟩,fun g hg=>?_,fun _ _=>trivial⟩
 ·rcases h2 with h2 | ⟨g,cap,cur,e1,e2,e3,e4⟩
  ·exact .inl h2
  exact .inr ⟨g,cap,cur,e1,e2,blk g cur e3,e4⟩
 obtain⟨c,hc,h32⟩:=h3 g hg;exact⟨c,blk g c hc,h32⟩
theorem Kz {B k B0:Nat} {E:Nat->Prop} {w:ag} {v:aq} {l:List Nat} (h:iI.Row w B0 v l) (hE:∀ g,v.ownBlock=some g->¬ E g):IL B k E w v l:=by
 obtain⟨ko,kc,rfl,h1,h2⟩:=h.at;refine⟨ko,kc,rfl,h1,fun j hj=>?_⟩;obtain⟨a,ha,⟨c,hc⟩,h3,-⟩:=h2 j hj;refine⟨a,ha,⟨⟨NO.cells hc (by decide),hE _ (by rw[ha];rfl)⟩,⟨c,hc⟩⟩,?_⟩;have:=h3 0 (.int .i64 ((l[j]:Nat):Int)) rfl
 simpa [iI] using this
theorem tg {B0 g:Nat} {w:ag} {l:List Nat} (h:w.heap[g]?=some (.cells (l.map fun i=>fm .i64 ((i:Nat):Int)).toArray 116 (0,0))) (hg:B0<=g) (hl:l.length<=bI):iI.Row w B0 (.slice (some ⟨g,0,none⟩) l.length l.length) l:=by
 refine⟨⟨by rw[jI iI.f iI.len],.inr ⟨g,l.length,_,rfl,hg,h,ai _,hl,by simp[iI],?_⟩⟩,fun q hq=>?_,fun _ _=>trivial⟩
 ·rw[uX];show List.take (l.length*1) (l.map _)=_
  rw[Nat.mul_one];exact List.take_of_length_le (by simp)
 injection hq with hq;subst hq;refine⟨_,h,?_⟩;intro u hu z;simp only[List.mem_map] at hu;obtain⟨i,-,rfl⟩:=hu;intro h;cases h
theorem uj {g:Nat} {w:ag} {l:List Nat} (h:w.heap[g]?=some (.cells (l.map fun i=>fm .i64 ((i:Nat):Int)).toArray 116 (0,0))) (hl:l.length<=bI):iI.At w (.slice (some ⟨g,0,none⟩) l.length l.length) l:=(tg h (au _) hl).at
theorem IL.N3 {B k:Nat} {E:Nat->Prop} {w:ag} {v:aq} {l:List Nat} (h:IL B k E w v l):iI.At w v l:=by
 obtain⟨ko,kc,rfl,h1,h2⟩:=h;refine⟨ko,kc,rfl,h1,fun j hj=>?_⟩;obtain⟨a,ha,⟨-,hc⟩,hcell⟩:=h2 j hj;refine⟨a,ha,hc,fun q u hu=>?_,trivial⟩;cases q with
 | zero =>
  injection hu with hu;subst hu;have e:a.add (j*iI.n+0)=a.add j:=by rw[show iI.n=1 from rfl,Nat.mul_one,Nat.add_zero]
  rw[e];exact hcell
 | succ q=>cases hu
def N6 (B k:Nat) (E:Nat->Prop) (L s:List F) (ts:List F) (n:Nat) (w:ag) (e:Ending) (w':ag):Prop:=∃ v ids s',e=.returned v/\iI.Row w' w.heap.size v ids/\ids.map (fun i=>s'[i]?)=ts.map some/\St B k (fun g=>E g\/v.ownBlock=some g) L s' w'/\Ext s s' n/\dz B k w w'
theorem El.At.K5 {α:Type} {E:El α} {w:ag} {g cap:Nat} {el:List α} {z:Array aq} (h:w.heap[g]?=some (.cells ((el.flatMap E.f).toArray++z) E.e (0,0))) (hl:el.length<=cap) (hc:cap<=bI) (hR:∀ a ∈ el,E.R w a):E.At w (.slice (some ⟨g,0,none⟩) el.length cap) el:=by
 refine⟨_,_,rfl,⟨hl,hc,fun h=>by cases h⟩,fun i hi=>⟨_,rfl,⟨_,h⟩,fun j u hu=>?_,hR _ (ct hi)⟩⟩;have hj:j<E.n:=by have:=(List.getElem?_eq_some_iff.1 hu).1;rwa [E.len] at this
 have hq:i*E.n+j<(el.flatMap E.f).length:=by
  rw[jI E.f E.len];calc i*E.n+j<i*E.n+E.n:=by omega
   _=(i+1)*E.n:=by rw[Nat.add_mul];omega
   _<=el.length*E.n:=Nat.mul_le_mul_right _ hi
 rw[lD,Nat.zero_add,cell_of_row w g _ _ _ _ h,Array.getElem?_append_left (by simpa using hq),g_,lB E.f E.len el i j hi hj];exact hu
theorem El.At.Sv {α:Type} {E:El α} {w:ag} {ko:Option cB} {n:Nat} {x:aq} {el ns:List α} (h:E.At w (.slice ko n n) el) (hx:E.At w x ns) (h0:0<ns.length) (hlen:el.length+ns.length<=1000000) (ty:bn) :
  ∃ v' w',(jv #[E.t,E.t] ty #[.slice ko n n,x]).run aj w=.ok v' w'/\E.At w' v' (el++ns)/\v'.ownBlock=some w.heap.size/\aA w.heap.size w w':=by
 obtain⟨i,hi,hz,gV,pJ⟩:=info_parts E.info;have ht:=E.ht;have hbyte:=E.I2;obtain⟨xo,xc,rfl,No,r7⟩:=id hx;obtain⟨a,rfl,-,-,RG⟩:=r7 0 h0;have hnews:=hx.news;have hl:(ns.flatMap E.f).length=ns.length*i.size:=by rw[gV];exact jI E.f E.len ns
 have dI:(el.length+ns.length)*i.bytes<=140737488355328:=by
  rw[pJ];exact ah (iU hlen hbyte) (by decide)
 have rL:el.length+ns.length<=bI:=by unfold bI;omega
 have hR:∀ b ∈ el++ns,E.R w b:=fun b hb=>by
  rcases List.mem_append.1 hb with hb | hb
  ·obtain⟨k,hk,rfl⟩:=List.getElem_of_mem hb;obtain⟨_,_,_,_,h5⟩:=h;obtain⟨_,_,_,_,h6⟩:=h5 k hk;exact h6
  obtain⟨k,hk,rfl⟩:=List.getElem_of_mem hb;obtain⟨_,_,_,h6⟩:=r7 k hk;exact h6.2
 have dw:∀ o:Obj,aA w.heap.size w (w.drew.alloc o):=fun o=>((ax _ _).drew).alloc (ai _) o
 have hn:n=el.length:=by obtain⟨_,_,e,_⟩:=h;injection e
 cases ko with
 | none =>
  have h00:n=0:=by obtain⟨_,_,e,⟨_,_,h3⟩,_⟩:=h;injection e with e1 e2 e3;rw[e3];exact h3 e1.symm
  have he:el=[]:=List.eq_nil_of_length_eq_zero (by omega);subst h00;subst he;have uB:=run_append_nil (P:=aj) w E.t ty E.e i E.z ht hi hz a ns.length xc _ hl hnews h0 (by omega) (by rw[uA,Nat.zero_add] at dI;omega);refine⟨_,_,uB,?_,rfl,dw _⟩;exact El.At.K5 (el:=ns) (bT w.drew _) (grownCap_ge ..) (grownCap_le_maxLen _ _ _ _ (by simpa using rL)) (fun b hb=>E.below (hR b (by simpa using hb)) (dw _))
 | some b =>
  have hlo:(el.flatMap E.f).length=n*i.size:=by rw[gV,hn];exact jI E.f E.len el
  have uB:=run_append_grow (P:=aj) w E.t ty E.e i E.z ht hi hz b n n _ hlo h.news a ns.length xc _ hl hnews (by omega) (by omega) (growslice_fits (by omega) (by rw[hn];exact dI));refine⟨_,_,uB,?_,rfl,dw _⟩;have e:(el.flatMap E.f).toArray++(ns.flatMap E.f).toArray=((el++ns).flatMap E.f).toArray:=by rw[List.flatMap_append];simp
  have hh:=bT w.drew (.cells ((el.flatMap E.f).toArray++(ns.flatMap E.f).toArray++jA E.z.cells (grownCap w (n+ns.length) n E.e - (n+ns.length))) E.e);rw[e] at hh;have:=El.At.K5 (el:=el++ns) (cap:=grownCap w (n+ns.length) n E.e) hh (by rw[eY,<-hn];exact grownCap_ge ..) (grownCap_le_maxLen _ _ _ _ (by rw[hn];exact rL)) (fun b hb=>E.below (hR b hb) (dw _));rw[eY,<-hn] at this;rw[e];exact this
theorem El.Row.TL {α:Type} {E:El α} {w:ag} {B:Nat} {ko:Option cB} {n:Nat} {x:aq} {el ns:List α} (h:E.Row w B (.slice ko n n) el) (hx:E.At w x ns) (h0:0<ns.length) (hlen:el.length+ns.length<=1000000) (hB:B<=w.heap.size) (ty:bn) :
  ∃ v' w',(jv #[E.t,E.t] ty #[.slice ko n n,x]).run aj w=.ok v' w'/\E.Row w' B v' (el++ns)/\v'.ownBlock=some w.heap.size/\aA w.heap.size w w':=by
 obtain⟨v1,w1,r1,a1,c1,b1⟩:=h.at.Sv hx h0 hlen ty;obtain⟨v2,w2,r2,a2,-⟩:=h.run hx ty hlen hB;rw[r1] at r2;injection r2 with e1 e2;subst e1;subst e2;exact⟨v1,w1,r1,a2,c1,b1⟩
theorem El.Row.zO {α:Type} {E:El α} {w:ag} {B:Nat} {ko:Option cB} {n:Nat} {x:aq} {el ns:List α} (h:E.Row w B (.slice ko n n) el) {ops:Array Oper} {rest:List Oper} {o:Oper} {a:Act} {Q:Exit->Act->ag->Prop} (hgd:o.guard=none) (s y:Operand)
  (ho:o.op=.call { callee:=.builtin .append,args:=#[s,y],argTypes:=#[E.t,E.t] }) (hs:a.eval s=.slice ko n n) (hx:a.eval y=x) (hxs:E.At w x ns) (h0:0<ns.length) (hlen:el.length+ns.length<=1000000) (hB:B<=w.heap.size)
  (hK:∀ v' w',E.Row w' B v' (el++ns)->v'.ownBlock=some w.heap.size->aA w.heap.size w w'->qy aj ops Q rest (a.put o.dst v') w'):qy aj ops Q (o::rest) a w:=by
 refine wpList_plain hgd fun K hk=>?_
 obtain⟨v',w',hr,h1,h2,h3⟩:=h.TL hxs h0 hlen hB o.type;unfold Oper.wp execOp;simp only[ho,resolve,invoke,builtin,IM,IK,rA,uz,aO,bM,hs,hx,hr];exact hk _ _ (hK v' w' h1 h2 h3)
theorem St.Jh {B k:Nat} {E E':Nat->Prop} {L s:List F} {w w':ag} {r:Option Nat} (h:St B k E L s w) (hg:w.grownBy w' r)
  (hr:∀ g,r=some g->E g/\B<=g/\∃ c,w.heap[g]?=some (.cells c 116 (0,0))/\pQ c.toList)
  (hE:∀ g,E' g->E g\/w.heap.size<=g) (hl:∀ g,E' g->g<w'.heap.size):St B k E' L s w':=by
 obtain⟨km,v,us,M,h⟩:=h;obtain⟨w0,h1,h2,h3⟩:=h.tx;have qT:∀ (g:Nat) (c:Array aq) (T:bn),w.heap[g]?=some (.cells c T (0,0))->T≠116->some g≠r:=fun g c T hc hT e=>by
  obtain⟨-,-,c',qB,-⟩:=hr g e.symm;rw[hc] at qB;injection qB with e1;injection e1 with _ e2;exact hT e2
 have ek:w'.heap[k]?=w.heap[k]?:=hg.block k (ae h.bk) (qT k _ _ h.bk (by decide));have em:w'.heap[km]?=w.heap[km]?:=hg.block km h.mp.lt (fun e=>by
  obtain⟨-,-,c',qB,-⟩:=hr km e.symm;obtain⟨es,cl,hm⟩:=h.mp.obj;rw[hm] at qB;cases qB)
 have kn:KN w w':=by
  intro a z hc;have hla:=World.block_lt_of_cell? w a hc;by_cases hb:some a.block=r
  ·obtain⟨-,-,c,qB,h32⟩:=hr a.block hb.symm;exact absurd hc (vj qB h32 rfl z)
  rw[dU (hg.block _ hla hb)];exact hc
 have M4:∀ g,¬ E g->some g≠r:=fun g hn e=>hn (hr g e.symm).1
 have no:∀ g,g<w.heap.size->¬ E g->NO B k w g->NO B k w' g:=fun g hlt hn hno=>by
  have hb:=hg.block g hlt (M4 g hn);rintro⟨hB,o⟩;refine hno ⟨hB,?_⟩;rw[hb] at o;rcases o with o | ⟨c,T,a1,a2 | ⟨a2,a3⟩,a4⟩
  ·exact .inl o
  ·exact .inr ⟨c,T,a1,.inl a2,a4⟩
  exact .inr ⟨c,T,a1,.inr ⟨a2,rU (fun _=>ek) g hlt a3⟩,a4⟩
 have ns:∀ g,g<w.heap.size->NS B k E w g->NS B k E' w' g:=fun g hlt hn=>⟨no g hlt hn.2 hn.1,fun he=>by rcases hE g he with h9 | h9;exact hn.2 h9;omega⟩
 exact⟨km,v,us,M,{ h with
  bk:=ek.trans h.bk
  sz:=ah h.sz hg.size
  mp:=h.mp.keep em
  row:=by
   obtain⟨⟨r1,r2⟩,r3,r4⟩:=h.row;refine⟨⟨r1,?_⟩,fun g dD=>?_,fun _ _=>trivial⟩
   ·rcases r2 with r2 | ⟨g,cap,cur,e1,e2,e3,e4⟩
    ·exact .inl r2
    exact .inr ⟨g,cap,cur,e1,e2,(hg.block g (ae e3) (qT g _ _ e3 (by decide))).trans e3,e4⟩
   obtain⟨c,hc,h32⟩:=r3 g dD;exact⟨c,(hg.block g (ae hc) (qT g _ _ hc (by decide))).trans hc,h32⟩
  ft:=fun i u t hu ht=>(((h.ft i u t hu ht).lt).keep (fun g uZ=>hg.block g uZ.2 (M4 g uZ.1.2)) kn).mono fun g uZ=>ns g uZ.2 uZ.1
  ids:=fun i u t hu ht=>by
   obtain⟨ko,kc,e,q1,q2⟩:=h.ids i u t hu ht;refine⟨ko,kc,e,q1,fun j hj=>?_⟩;obtain⟨a,ha,hn,hc⟩:=q2 j hj;have hla:=World.block_lt_of_cell? w _ hc;rw[cI] at hla;exact⟨a,ha,⟨ns _ hla hn.1,by obtain⟨c,qB⟩:=hn.2;exact⟨c,(hg.block _ hla (M4 _ hn.1.2)).trans qB⟩⟩,by rw[dU (w:=w) (by rw[cI];exact hg.block _ hla (M4 _ hn.1.2))];exact hc⟩
  ex:=hl
  tx:=⟨w0,h1,h2,⟨hg.os.trans h3.os,hg.tape.trans h3.tape,hg.output.trans h3.output,ah h3.size hg.size,fun g hgB=>(hg.block g (az hgB h.sz) (fun e=>by have:=(hr g e.symm).2.1;omega)).trans (h3.block g hgB)⟩⟩ }⟩
theorem St.own {B k:Nat} {E:Nat->Prop} {L s:List F} {w w':ag} {v:aq} {g:Nat} (h:St B k E L s w) (hb:aA w.heap.size w w') (hv:v.ownBlock=some g) (hg:w.heap.size<=g) (hl:g<w'.heap.size):St B k (fun q=>E q\/v.ownBlock=some q) L s w':=by
 have hs:=h;obtain⟨km,v0,us,M,hU⟩:=hs;refine h.Jh (nI hb none) (fun g h=>by cases h) (fun q hq=>?_) (fun q hq=>?_)
 ·rcases hq with hq | hq
  ·exact .inl hq
  rw[hv] at hq;injection hq with hq;exact .inr (by omega)
 rcases hq with hq | hq
 ·exact az (hU.ex q hq) hb.size
 rw[hv] at hq;injection hq with hq;omega
theorem St.less {B k:Nat} {E E':Nat->Prop} {L s:List F} {w:ag} (h:St B k E L s w) (hE:∀ g,E' g->E g):St B k E' L s w:=
 h.Jh (aI _ none) (fun g h=>by cases h) (fun g hg=>.inl (hE g hg)) (fun g hg=>by
  obtain⟨km,v,us,M,h⟩:=h
  exact h.ex g (hE g hg))
def Uy {α:Type} (E:El α) (w:ag) (a:cB) (ls:List (List α)):Prop:=∀ i (h:i<ls.length),∃ o l c,w.cell? (a.add i)=some (.slice o l c)/\E.At w (.slice o l c) ls[i]
theorem Uy.below {α:Type} {E:El α} {w w':ag} {a:cB} {ls:List (List α)} (h:Uy E w a ls) (hb:aA w.heap.size w w'):Uy E w' a ls:=fun i hi=>by
 obtain⟨o,l,c,h1,h2⟩:=h i hi;exact⟨o,l,c,by rw[hb.cell (cu h1)];exact h1,h2.below hb⟩
def rh {α:Type} (ls:List (List α)):Nat:=(ls.map (·.length)).sum
theorem y_ {α:Type} (ls:List (List α)) (j:Nat) (hj:j<ls.length):rh (ls.take (j+1))=rh (ls.take j)+ls[j].length:=by
 unfold rh;rw[bH hj,List.map_append,List.sum_append];simp
theorem CR {α:Type} (ls:List (List α)) (j:Nat):rh (ls.take j)<=rh ls:=by
 unfold rh;conv=>rhs;rw[<-List.take_append_drop j ls,List.map_append,List.sum_append]
 omega
theorem Ei {α:Type} (ls:List (List α)):ls.flatten.length=rh ls:=by
 unfold rh;rw[List.length_flatten]
theorem Ez {α:Type} (ls:List (List α)) (j:Nat) (hj:j<ls.length):(ls.take (j+1)).flatten=(ls.take j).flatten++ls[j]:=by
 rw[bH hj,List.flatten_append];simp
theorem uf {w w':ag} {v x v':aq} {t tn:bn} {ops:Array Oper} {rest:List Oper} {o:Oper} {a:Act} {Q:Exit->Act->ag->Prop} (hgd:o.guard=none) (s y:Operand)
  (ho:o.op=.call { callee:=.builtin .append,args:=#[s,y],argTypes:=#[t,tn] }) (hs:a.eval s=v) (hx:a.eval y=x) (hr:∀ ty,(jv #[t,tn] ty #[v,x]).run aj w=.ok v' w')
  (hK:qy aj ops Q rest (a.put o.dst v') w'):qy aj ops Q (o::rest) a w:=by
 refine wpList_plain hgd fun K hk=>?_
 unfold Oper.wp execOp;simp only[ho,resolve,invoke,builtin,IM,IK,rA,uz,aO,bM,hs,hx,hr];exact hk _ _ hK
theorem J' {α:Type} (E:El α) (w:ag) (B n:Nat) (hn:n<=1000000) (hB:B<=w.heap.size) (G:Nat) (hG:n<=G/\G<=bI) :
  E.Row (w.drew.alloc (.cells (jA E.z.cells n++jA E.z.cells (G - n)) E.e)) B (.slice (some ⟨w.heap.size,0,none⟩) 0 G) []:=by
 refine⟨World.ownsRow_made w.drew _ G hB hG.2 ?_,fun g hg=>?_,fun q hq=>by cases hq⟩
 ·simp only[Array.size_append,size_zeroCells,E.zs,<-Nat.add_mul];congr 1;omega
 injection hg with hg;subst hg;exact⟨_,bT w.drew _,by simp only[Array.toList_append];exact (pQ.Fl E.z32 _).app (pQ.Fl E.z32 _)⟩
theorem NP (n B:Nat) (w:ag) (hn:n<=1000000) (hB:B<=w.heap.size) :
  aW aj 168 #[.slice none 0 0,.int .i64 (n:Nat)] w fun e w'=>∃ v,e=.returned v/\iI.Row w' B v []/\aA w.heap.size w w':=by
 by_cases h0:n=0
 ·subst h0;go_enter Tryz.func168,Tryz.ntmps168;go_wp2_with fail;exact aD (results_tmp Tryz.results168 _ _ _) rfl ⟨_,rfl,El.Row.nil _ _,ax _ _⟩
 obtain⟨i,hi,hz,gV,pJ⟩:=info_parts iI.info;have hpos:=iI.pos;have hge:=grownCap_ge w n 0 iI.e;have hle:=grownCap_le_maxLen w n 0 iI.e (by unfold bI;omega);have hrun:=fun ty=>Lib.run_append_nil_zeros (P:=aj) w iI.t 3 ty iI.e i iI.z .i64 .i64 iI.ht jf hi hz n (by omega) (by rw[gV];exact hpos) (by omega) (by rw[pJ];exact ah (iU hn iI.I2) (by decide))
 obtain⟨G,hG⟩:∃ G,G=grownCap w n 0 iI.e:=⟨_,rfl⟩;rw[<-hG] at hge hle hrun;have HM:=aa (J' iI w B n hn hB G ⟨hge,hle⟩);have hG2:G<=9223372036854775807:=hle;have Ta:(0:Int)<(n:Int):=by omega
 clear hG hge hle hi hz gV pJ hpos;obtain⟨w2,PZ⟩:∃ q,q=(w.drew.alloc (.cells (jA iI.z.cells n++jA iI.z.cells (G - n)) iI.e)):=⟨_,rfl⟩;have Ig:aA w.heap.size w w2:=by rw[PZ];exact ((ax _ _).drew).alloc (ai _) _
 rw[<-PZ] at hrun HM;have HB:=aa Ig;clear PZ Ig;have Yg:=aa hrun;clear hrun;go_enter Tryz.func168,Tryz.ntmps168;go_wp2_with (at_builtin;refine uf rfl (.tmp 20) (.tmp 21) rfl rfl rfl Yg.out ?_);exact aD (results_tmp Tryz.results168 _ _ _) rfl ⟨_,rfl,HM.out,HB.out⟩
theorem Iw (a:cB) (m mc:Nat) (ls:List (List Nat)) (w:ag) (h:Uy iI w a ls) (hm:m=ls.length) (LU:m<=mc/\mc<=bI) (hlen:rh ls<=100000) (hml:m<=1000) :
  aW aj 123 #[.slice (some a) m mc] w fun e w'=>∃ v,e=.returned v/\iI.At w' v ls.flatten/\aA w.heap.size w w':=by
 have HX:=aa h;have HM:=aa hm;have HL:=aa hlen;have rL:mc<=9223372036854775807:=LU.2;have aJn:=LU.1;clear h hm hlen LU;go_enter Tryz.func123,Tryz.ntmps123;go_wp2_with fail;go_loopw [3,11] (fun nv iv wr=>∃ j s:Nat,iv=.int .i64 (j:Nat)/\nv=.int .i64 (s:Nat)/\j<=m/\s<=100000/\Hid (s=rh (ls.take j))/\Hid (aA w.heap.size w wr)) (fun _ i _=>m - (ei i).toNat)
 case atStart=>exact⟨0,0,rfl,rfl,au _,au _,aa rfl,aa (ax _ _)⟩
 case round =>
  obtain⟨j,s,rfl,rfl,hj,hs,HS,HW⟩:=hrel;by_cases hlt:j<m
  ·have lN:j<ls.length:=by rw[<-HM.out];exact hlt
   obtain⟨o,l,c,c0,BX⟩:=(HX.out.below HW.out) j lN;have hl:l=ls[j].length:=by obtain⟨_,_,e,_⟩:=BX;injection e
   have IX:=y_ ls j lN;have C6:=CR ls (j+1);rw[<-hl] at IX;have FO:s+l<=100000:=by have:=HS.out;have:=HL.out;omega
   have Oc:=aa (show s+l=rh (ls.take (j+1)) by rw[IX,HS.out]);clear hl IX C6 BX;go_wp2_with fail;go_roundw
   case rel=>exact⟨j+1,s+l,by go_num,by go_num,hlt,FO,Oc,HW⟩
   case measure=>simp[ei];omega
  have ej:j=m:=by omega
  subst ej;obtain⟨wq,rfl⟩:∃ q,q=wr:=⟨_,rfl⟩;go_wp2_with fail;refine (NP s w.heap.size wq (by omega) HW.out.size).mono ?_;rintro e w3 ⟨v3,rfl,hr,hb⟩;obtain⟨po,pc,rfl,-⟩:=hr.form;have HR:=aa hr;replace HW:=aa (HW.out.trans (hb.mono HW.out.size));clear hr hb;go_wp2_with fail;go_loopw [6,27] (fun ov iv wr=>∃ (j2:Nat),iv=.int .i64 (j2:Nat)/\j2<=j/\Hid (iI.Row wr w.heap.size ov (ls.take j2).flatten)/\Hid (aA w.heap.size w wr)) (fun _ i _=>j - (ei i).toNat)
  case atStart=>exact⟨0,rfl,au _,HR,HW⟩
  case round =>
   clear HR HW;obtain⟨j2,rfl,A7,HR,HW⟩:=hrel;obtain⟨oo,oc,rfl,SV,WZ,-⟩:=HR.out.form;by_cases Hz:j2<j
   ·have lN:j2<ls.length:=by rw[<-HM.out];exact Hz
    obtain⟨o,l,c,c0,BX⟩:=(HX.out.below HW.out) j2 lN;have tB:=aa BX;have Ck:(ls.take j2).flatten.length+ls[j2].length<=100000:=by have h1:=y_ ls j2 lN;have h2:=CR ls (j2+1);have h3:=Ei (ls.take j2);have:=HL.out;omega
    have HL0:=aa Ck;clear BX Ck;go_wp2_with (at_builtin;refine El.Row.append (E:=iI) HR.out rfl (.tmp 31) (.tmp 32) rfl rfl rfl tB.out (by have:=HL0.out;omega) HW.out.size ?_;intro v9 w9 r1 r2 r3 r4);go_roundw
    case rel=>exact⟨j2+1,by go_num,Hz,aa (by rw[Ez ls j2 lN];exact r1),aa (HW.out.trans r3)⟩
    case measure=>simp[ei];omega
   have ej:j2=j:=by omega
   go_wp2_with fail;have oE:=HR.out.at;have hfl:(ls.take j2).flatten=ls.flatten:=by rw[ej,HM.out,List.take_length]
   skip;exact aD (results_tmp Tryz.results123 _ _ _) rfl ⟨_,rfl,by rw[<-hfl];exact oE,HW.out⟩
attribute [local go_sem] eF eE eC eB
theorem OD {x:F} (h:rt x=true) (ho:x.op=10):∃ a b,x.kids=[a,b]:=by
 obtain⟨o,z,nm,ks⟩:=x;have hp:=j_ h;have ji:o=10:=ho;subst ji;obtain⟨a,b,e,-,-⟩:=qQ (by have:=hp.1;simpa [bF] using this);exact⟨a,b,e⟩
theorem St.Mb {B k:Nat} {E:Nat->Prop} {L s:List F} {w:ag} (h:St B k E L s w):∀ t ∈ s,∀ c ∈ t.kids,c ∈ s:=by
 obtain⟨km,v,us,M,h⟩:=h;exact h.cl
theorem NO.qI {B k g kn n cap:Nat} {a:aq} {c:Array aq} {T:bn} {w:ag} (hbk:w.heap[k]?=some (.cells #[a,.slice (some ⟨g,0,none⟩) n cap] 163 (0,0))) (hne:g≠kn) (hkn:w.heap[kn]?=some (.cells c T (0,0))) (hT:T≠163):NO B k w kn:=by
 rintro⟨-,⟨es,cl,e⟩ | ⟨c',T',e,OU | ⟨-,h1,a',v',h2,h3⟩,-⟩⟩
 ·rw[hkn] at e;cases e
 ·rw[hkn] at e;injection e with e;injection e with _ e;exact hT (e.trans OU)
 rw[hbk] at h2;injection h2 with h2;injection h2 with h2;injection h2 with h2;injection h2 with _ h2;injection h2 with h2;subst h2;injection h3 with h3;exact hne h3
theorem uU {B k:Nat} {E:Nat->Prop} {L s:List F} (w:ag) (h:St B k E L s w) (hm:s.length+9<=900000) (i:Nat) (X:F) (hx:s[i]?=some X) (hg:∀ t ∈ fO X,Gd t) :
  aW aj 74 #[.pointer (some ⟨k,0,none⟩),.int .i64 ((i:Nat):Int)] w (N6 B k E L s (fO X) 9 w):=by
 have HS:=aa h;have HM:=aa hm;have HX:=aa hx;have HG:=aa hg;have g1:=hg (dV (nF 0) (cY X)) (by simp[fO]);have G1:=aa g1;have G2:Hid (Gd (cY X)):=aa (di g1 (by simp[dV,fo,F.kids]));clear h hm hx hg g1;go_enter Tryz.func74,Tryz.ntmps74;go_wp2_with fail;refine (qH w HS.out (by have:=HM.out;omega) 0 (by decide) (by decide)).mono ?_;rintro e y1 ⟨j1,s1,rfl,h1,h2,h3,h4⟩;have S1:=aa h1;have J1:=aa h3;have E1:Hid (Ext s s1 1):=aa ((Ext.refl s).trans h2 (by omega));have T1:Hid (dz B k w y1):=aa (h4);clear h1 h2 h3 h4;go_wp2_with fail;refine (kM y1 S1.out (by have:=HM.out;have:=E1.out.len;omega) i X (E1.out.get HX.out) G2.out).mono ?_;rintro e y2 ⟨j2,s2,rfl,h1,h2,h3,h4⟩;have S2:=aa h1;replace J1:=aa (h2.get J1.out)
 have J2:=aa h3;have E2:Hid (Ext s s2 2):=aa (E1.out.trans h2 (by omega));have T2:Hid (dz B k w y2):=aa (T1.out.trans h4);clear h1 h2 h3 h4;go_wp2_with fail;refine (za y2 S2.out (by have:=HM.out;have:=E2.out.len;omega) j1 j2 (nF 0) (cY X) J1.out J2.out G1.out).mono ?_;rintro e y3 ⟨j3,s3,rfl,h1,h2,h3,h4⟩;have S3:=aa h1;replace J1:=aa (h2.get J1.out);replace J2:=aa (h2.get J2.out);have J3:=aa h3;have E3:Hid (Ext s s3 3):=aa (E2.out.trans h2 (by omega));have T3:Hid (dz B k w y3):=aa (T2.out.trans h4);clear h1 h2 h3 h4;have UC:Hid (s3[i]?=some X):=aa (E3.out.get HX.out);obtain⟨z3,kq,eq,zE,gQ,sk,jX⟩:=aM y3 #[.int .i64 ((j3:Nat):Int)] 116;have Gn:=aa (S3.out.below gQ.out);have UG:=aa (T3.out.trans (dz.aN gQ.out))
 obtain⟨km,v,us,M,hU⟩:=Gn.out;obtain⟨g,cap,u,qo,ql,qc,q,⟨rfl,qO,hcap,rL⟩,⟨c0,c1,c2,c3,c4,c5,c6⟩,⟨-,hop,-⟩,jU,-⟩:=hU.node UC.out;have d1:=af (v:=.slice (some ⟨g,0,none⟩) s3.length cap) hU.bk 1 rfl;have zn:cap<=9223372036854775807:=rL;have xR:=aa jU;have xG:=aa hU.bk;have jy:=aa hop;clear hU jU hop;obtain⟨z4,kn,en,zF,lT,hkn,iu⟩:=aM z3 #[.int .i64 u.k,.bool (decide (u.n.z<0)),.slice u.n.o u.n.l u.n.c,.string u.nm,.slice u.ko u.kl u.kc,.slice qo ql qc,.bool q] 167;have n0:=af (v:=.int .i64 u.k) iu.out 0 rfl;have n5:=af (v:=.slice qo ql qc) iu.out 5 rfl;obtain⟨op,hop⟩:∃ o,o=u.k:=⟨_,rfl⟩;by_cases h9:u.k=9
 ·have e9:(u.k==9)=true:=by rw[h9];rfl
  have hl:Hid (fO X=[dV (nF 0) (cY X),b_ (cY X) (nF 0)]):=aa (by unfold fO;rw[<-jy.out,if_pos h9]);have G3:Hid (Gd (b_ (cY X) (nF 0))):=aa (HG.out _ (by rw[hl.out];simp));have DF:=Gn.out.below lT.out;have I4:=aa DF;have Q8:Hid (dz B k w z4):=aa (UG.out.trans (dz.aN lT.out));have rN:=(lT.out.block kq (ae jX.out)).trans jX.out;have SR:w.heap.size<=kq:=by have h1:=T3.out.size;have h2:=sk.out;omega
  have HR:Hid (iI.Row z4 w.heap.size (.slice (some ⟨kq,0,none⟩) 1 1) [j3]):=aa (tg (l:=[j3]) rN SR (by show 1<=bI;decide));have HWZ:Hid (w.heap.size<=z4.heap.size):=aa Q8.out.size;clear h9 hop DF rN SR;go_wp2_with fail;refine (kM z4 I4.out (by have:=HM.out;have:=E3.out.len;omega) i X UC.out G2.out).mono ?_;rintro e y5 ⟨j5,s5,rfl,h1,h2,h3,h4⟩;have S5:=aa h1;replace J3:=aa (h2.get J3.out);have J5:=aa h3;have E5:Hid (Ext s s5 4):=aa (E3.out.trans h2 (by omega));have T5:Hid (dz B k w y5):=aa (Q8.out.trans h4);replace HR:=aa (kC HR.out h4);clear h1 h2 h3 h4 c0 c1 c2 c3 c4 c5 c6 d1 n0 n5;go_wp2_with fail;refine (qH y5 S5.out (by have:=HM.out;have:=E5.out.len;omega) 0 (by decide) (by decide)).mono ?_
  rintro e y6 ⟨j6,s6,rfl,h1,h2,h3,h4⟩;have S6:=aa h1;replace J3:=aa (h2.get J3.out);replace J5:=aa (h2.get J5.out);have J6:=aa h3;have E6:Hid (Ext s s6 5):=aa (E5.out.trans h2 (by omega));have T6:Hid (dz B k w y6):=aa (T5.out.trans h4);replace HR:=aa (kC HR.out h4);clear h1 h2 h3 h4;go_wp2_with fail;refine (k6 y6 S6.out (by have:=HM.out;have:=E6.out.len;omega) j5 j6 _ _ J5.out J6.out G3.out).mono ?_;rintro e y7 ⟨j7,s7,rfl,h1,h2,h3,h4⟩;have S7:=aa h1;replace J3:=aa (h2.get J3.out);have J7:=aa h3;have E7:Hid (Ext s s7 6):=aa (E6.out.trans h2 (by omega));have T7:Hid (dz B k w y7):=aa (T6.out.trans h4);replace HR:=aa (kC HR.out h4);clear h1 h2 h3 h4;obtain⟨z7,kr,er,pE,cN,iH,aJ⟩:=aM y7 #[.int .i64 ((j7:Nat):Int)] 116
  replace HR:=aa (El.Row.below HR.out cN.out);have tB:Hid (iI.At z7 (.slice (some ⟨kr,0,none⟩) 1 1) [j7]):=aa (uj (l:=[j7]) aJ.out (by show 1<=bI;decide));have nP:Hid (w.heap.size<=z7.heap.size):=aa (ah T7.out.size cN.out.size);go_wp2_with (first | (at_builtin;refine El.Row.zO (E:=iI) HR.out rfl (.tmp 27) (.tmp 35) rfl rfl rfl tB.out (by show 0<1;decide) (by show 1+1<=1000000;decide) nP.out ?_;intro v9 w9 r1 r3 r2;have R1:=aa r1;have R2:=aa r2;have R3:=aa r3;clear r1 r2 r3) | fail);go_ret
  exact⟨_,[j3,j7],s7,rfl,R1.out,by rw[hl.out];simp only[aO,bM,J3.out,J7.out],(S7.out.below cN.out).own R2.out R3.out (ai _) (R1.out.ge R3.out).2,E7.out.up (by omega),(T7.out.trans (.aN cN.out)).trans (.aN R2.out)⟩
 by_cases h10:u.k=10
 ·have e9:(u.k==9)=false:=beq_eq_false_iff_ne.2 h9;have ER:(u.k==10)=true:=by rw[h10];rfl
  obtain⟨x0,x1,ff⟩:=OD (Gn.out.good X (List.mem_of_getElem? UC.out)).1 (by rw[<-jy.out,h10]);have iM:kd X 1=x1:=by unfold kd;rw[ff];rfl
  have hl:Hid (fO X=[dV (nF 0) (cY X),b_ (cY X) (gE (cY x1) (nF 1))]):=aa (by unfold fO;rw[<-jy.out,if_neg h9,if_pos h10,iM]);have C8:=xR.out;rw[ff] at C8;obtain⟨AX,A2,e,⟨hq1,hq2,KJ⟩,hc⟩:=C8;injection e with e1 e2 e3;replace e2:ql=2:=e2;subst e1;subst e2;subst e3;obtain⟨qa,rfl,xX,uY⟩:=hc 1 (by simp);replace uY:z3.cell? (qa.add 1)=some (.int .i64 ((idx s3 x1:Nat):Int)):=uY;replace hq1:2<=qc:=hq1;have LD:=aa xX;have jd:=aa uY;have KK:qc<=9223372036854775807:=hq2;have UD:Hid (s3[idx s3 x1]?=some x1):=aa (iL (Gn.out.Mb X (List.mem_of_getElem? UC.out) x1 (by rw[ff];simp)));have G4:Hid (Gd (b_ (cY X) (gE (cY x1) (nF 1)))):=aa (HG.out _ (by rw[hl.out];simp))
  have G5:Hid (Gd (gE (cY x1) (nF 1))):=aa (di G4.out (by simp[b_,fo,F.kids]));have G6:Hid (Gd (cY x1)):=aa (di G5.out (by simp[gE,fo,F.kids]));have DF:=Gn.out.below lT.out;have I4:=aa DF;have Q8:Hid (dz B k w z4):=aa (UG.out.trans (dz.aN lT.out));have rN:=(lT.out.block kq (ae jX.out)).trans jX.out;have SR:w.heap.size<=kq:=by have h1:=T3.out.size;have h2:=sk.out;omega
  have HR:Hid (iI.Row z4 w.heap.size (.slice (some ⟨kq,0,none⟩) 1 1) [j3]):=aa (tg (l:=[j3]) rN SR (by show 1<=bI;decide));have Yv:Hid (s3.length+5<=900000):=aa (by have:=HM.out;have:=E3.out.len;omega);have vD:g≠kn:=by have h1:=World.block_lt_of_cell? _ _ c0;have h2:=zF;intro h3;change g<_ at h1;omega
  have Ah:Hid (NO B k z4 kn):=aa (NO.qI ((lT.out.block k (ae xG.out)).trans xG.out) vD iu.out (by decide));have X_:=aa (dz.aN (B:=B) (k:=k) lT.out);clear iM hc hq2 KJ xX uY h9 h10 hop DF rN SR vD xR;go_upto_region 7 with fail;have lO:Hid (∀ i j,i<15->j<15->i≠j->(fun i=>i+39) i≠(fun i=>i+39) j):=aa (fun i j _ _ h e=>h (cQ e));have lE:Hid (∀ i,i<15->(fun i=>i+39) i<54):=aa (fun i h=>by show i+39<54;omega)
  refine kJ.region (by kernel_rfl) [[],[],[],[],[2,3],[],[],[],[7],[7,8],[7,8,9],[2,3,4,6,7,8,9,10],[2,3,4,5,6,7,8,9,10,11],[1,2,3,4,5,6,7,8,9,10,11,12],[1,2,3,4,5,6,7,8,9,10,11,12,13],[0,1,2,3,4,5,6,7,8,9,10,11,12,13,14],[0,1,2,3,4,5,6,7,8,9,10,11,12,13,14,15]] 15 (by kernel_rfl) (by kernel_rfl) (JX B k E L z4 s3 _ 15 (fun i=>i+39) (fun i=>[0,0,0,0,1,0,0,0,0,0,0,1,2,1,0].getD i 0) (EC B k E [.eqv (.slice (some ⟨kq,0,none⟩) 1 1),.eqv (.pointer (some ⟨k,0,none⟩)),.eqv (.pointer (some ⟨k,0,none⟩)),.eqv (.int .i64 ((i:Nat):Int)),.lM (cY X),.eqv (.pointer (some ⟨k,0,none⟩)),.eqv (.pointer (some ⟨k,0,none⟩)),.eqv (.pointer (some ⟨kn,5,none⟩)),.eqv (.slice (some qa) 2 qc),.eqv (.pointer (some (qa.add 1))),.eqv (.int .i64 ((idx s3 x1:Nat):Int)),.lM (cY x1),.lM (gE (cY x1) (nF 1)),.lM (b_ (cY X) (gE (cY x1) (nF 1))),.blk (b_ (cY X) (gE (cY x1) (nF 1)))])) (JF.start I4.out) ?_ ?_
  ·rintro d T wc n9 o ⟨s9,hJ⟩ ho hi hd aH dO;have hstep:=fun (v:aq) (s8:List F) (w2:ag)=>hJ.step (v:=v) (s':=s8) (w':=w2) (mU (B:=B) (k:=k) (E:=E) _) lO.out (fun i hi=>az (lE.out i hi) (of_decide_eq_true rfl)) n9 hi hd
   have bh:=aa hJ.st;have cM:=aa (hJ.room n9 hi hd (N:=900000) (show s3.length+5<=900000 from by have:=Yv.out;omega));have m5:T[5]?=some (.slice (some ⟨kq,0,none⟩) 1 1):=(hJ.kQ 5 (by decide)).trans (by rfl);have m0:T[0]?=some (.pointer (some ⟨k,0,none⟩)):=(hJ.kQ 0 (by decide)).trans (by rfl);have m1:T[1]?=some (.int .i64 ((i:Nat):Int)):=(hJ.kQ 1 (by decide)).trans (by rfl);obtain rfl | rfl | rfl | rfl | rfl | rfl | rfl | rfl | rfl | rfl | rfl | rfl | rfl | rfl | rfl:n9=0\/n9=1\/n9=2\/n9=3\/n9=4\/n9=5\/n9=6\/n9=7\/n9=8\/n9=9\/n9=10\/n9=11\/n9=12\/n9=13\/n9=14:=by omega
   all_goals (injection ho with ho)
   all_goals (subst ho)
   all_goals (try (clear hJ aH dO;refine⟨rfl,fun K9 hK=>?_⟩;have bO:=aa hstep;clear hstep;go_simp;exact hK.out _ _ (bO.out _ _ _ bh.out ((Ext.refl _).up (au _)) (dz.refl _ _ _) rfl)))
   ·have Cm:=hJ.vE 2 41 rfl (by decide) (aH 2 (by rfl)) (fun _ h=>h);have Cl:=hJ.vE 3 42 rfl (by decide) (aH 3 (by rfl)) (fun _ h=>h);have c_:=aa hJ.ext;clear hJ aH dO;refine⟨rfl,fun K9 hK=>?_⟩;have bO:=aa hstep;clear hstep;go_simp;refine (kM wc bh.out cM.out i X (c_.out.get UC.out) G2.out).mono ?_;rintro e w8 ⟨i8,s8,rfl,p1,p2,p3,p4⟩;exact hK.out _ _ (bO.out _ _ _ p1 p2 p4 ⟨i8,rfl,p3⟩)
   ·have es:T[6]?=some (.pointer (some ⟨kn,0,none⟩)):=(hJ.kQ 6 (by decide)).trans (by rfl);clear hJ aH dO;refine⟨rfl,fun K9 hK=>?_⟩;have bO:=aa hstep;clear hstep;go_simp;exact hK.out _ _ (bO.out _ _ _ bh.out ((Ext.refl _).up (au _)) (dz.refl _ _ _) rfl)
   ·have wA:=hJ.vE 7 46 rfl (by decide) (aH 7 (by rfl)) (fun _ h=>h);have kV:=aa hJ.be;have n5:=af (v:=.slice (some qa) 2 qc) ((kV.out.block kn (ae iu.out) Ah.out).trans iu.out) 5 rfl;clear hJ aH dO;refine⟨rfl,fun K9 hK=>?_⟩;have bO:=aa hstep;clear hstep;go_simp;exact hK.out _ _ (bO.out _ _ _ bh.out ((Ext.refl _).up (au _)) (dz.refl _ _ _) rfl)
   ·have xz:=hJ.vE 8 47 rfl (by decide) (aH 8 (by rfl)) (fun _ h=>h);clear hJ aH dO;refine⟨rfl,fun K9 hK=>?_⟩;have bO:=aa hstep;clear hstep;go_simp;exact hK.out _ _ (bO.out _ _ _ bh.out ((Ext.refl _).up (au _)) (dz.refl _ _ _) rfl)
   ·have Gb:=hJ.vE 9 48 rfl (by decide) (aH 9 (by rfl)) (fun _ h=>h);have kV:=aa hJ.be;have cq:wc.cell? (qa.add 1)=some (.int .i64 ((idx s3 x1:Nat):Int)):=by rw[dU (w:=z3) (by rw[cI];exact (X_.out.trans kV.out).block _ (by have h1:=World.block_lt_of_cell? _ _ jd.out;rw[cI] at h1;exact h1) LD.out.1.1)];exact jd.out
    replace cq:wc.cell? { block:=qa.block,off:=qa.off+1 }=some (.int .i64 ((idx s3 x1:Nat):Int)):=cq;clear hJ aH dO;refine⟨rfl,fun K9 hK=>?_⟩;have bO:=aa hstep;clear hstep;go_simp;exact hK.out _ _ (bO.out _ _ _ bh.out ((Ext.refl _).up (au _)) (dz.refl _ _ _) rfl)
   ·have xA:=hJ.vE 6 45 rfl (by decide) (aH 6 (by rfl)) (fun _ h=>h);have De:=hJ.vE 10 49 rfl (by decide) (aH 10 (by rfl)) (fun _ h=>h);have c_:=aa hJ.ext;clear hJ aH dO;refine⟨rfl,fun K9 hK=>?_⟩;have bO:=aa hstep;clear hstep;go_simp;refine (kM wc bh.out cM.out (idx s3 x1) x1 (c_.out.get UD.out) G6.out).mono ?_;rintro e w8 ⟨i8,s8,rfl,p1,p2,p3,p4⟩;exact hK.out _ _ (bO.out _ _ _ p1 p2 p4 ⟨i8,rfl,p3⟩)
   ·have uw:=hJ.vE 5 44 rfl (by decide) (aH 5 (by rfl)) (fun _ h=>h);obtain⟨i11,Ga,Ph⟩:=hJ.vI 11 50 rfl (by decide) (aH 11 (by rfl)) (fun _ h=>h);clear hJ aH dO;refine⟨rfl,fun K9 hK=>?_⟩;have bO:=aa hstep;clear hstep;go_simp;refine (FF wc bh.out cM.out i11 _ Ph.out G5.out).mono ?_;rintro e w8 ⟨i8,s8,rfl,p1,p2,p3,p4⟩;exact hK.out _ _ (bO.out _ _ _ p1 p2 p4 ⟨i8,rfl,p3⟩)
   ·have Af:=hJ.vE 1 40 rfl (by decide) (aH 1 (by rfl)) (fun _ h=>h);obtain⟨i4,tL,H4⟩:=hJ.vI 4 43 rfl (by decide) (aH 4 (by rfl)) (fun _ h=>h);obtain⟨i12,F_,RT⟩:=hJ.vI 12 51 rfl (by decide) (aH 12 (by rfl)) (fun _ h=>h);clear hJ aH dO;refine⟨rfl,fun K9 hK=>?_⟩;have bO:=aa hstep;clear hstep;go_simp;refine (k6 wc bh.out cM.out i4 i12 _ _ H4.out RT.out G4.out).mono ?_;rintro e w8 ⟨i8,s8,rfl,p1,p2,p3,p4⟩;exact hK.out _ _ (bO.out _ _ _ p1 p2 p4 ⟨i8,rfl,p3⟩)
   obtain⟨i13,F7,Rt⟩:=hJ.vI 13 52 rfl (by decide) (aH 13 (by rfl)) (fun _ h=>h);clear hJ aH dO;refine⟨rfl,fun K9 hK=>?_⟩;have bO:=aa hstep;clear hstep;go_simp;have hal:aA wc.heap.size wc (wc.alloc _):=(ax _ _).alloc (ai _) (.cells #[.int .i64 ((i13:Nat):Int)] 116);exact hK.out _ _ (bO.out _ _ _ (bh.out.below hal) ((Ext.refl _).up (au _)) (.aN hal) ⟨_,i13,rfl,bT wc _,Rt.out⟩)
  rintro T wt ⟨s9,hJ⟩;have a0:=hJ.vE 0 39 rfl (by decide) rfl (fun _ h=>h);have a1:=hJ.vE 1 40 rfl (by decide) rfl (fun _ h=>h);have a2:=hJ.vE 2 41 rfl (by decide) rfl (fun _ h=>h);have a3:=hJ.vE 3 42 rfl (by decide) rfl (fun _ h=>h);obtain⟨i4,a4,H4⟩:=hJ.vI 4 43 rfl (by decide) rfl (fun _ h=>h);have a5:=hJ.vE 5 44 rfl (by decide) rfl (fun _ h=>h);have a6:=hJ.vE 6 45 rfl (by decide) rfl (fun _ h=>h);have a7:=hJ.vE 7 46 rfl (by decide) rfl (fun _ h=>h);have a8:=hJ.vE 8 47 rfl (by decide) rfl (fun _ h=>h);have a9:=hJ.vE 9 48 rfl (by decide) rfl (fun _ h=>h);have Dw:=hJ.vE 10 49 rfl (by decide) rfl (fun _ h=>h);obtain⟨i11,Dv,Ph⟩:=hJ.vI 11 50 rfl (by decide) rfl (fun _ h=>h);obtain⟨i12,a12,RT⟩:=hJ.vI 12 51 rfl (by decide) rfl (fun _ h=>h)
  obtain⟨i13,Du,Rt⟩:=hJ.vI 13 52 rfl (by decide) rfl (fun _ h=>h);obtain⟨v14,Lz,f14⟩:=hJ.val 14 (by decide) rfl;obtain⟨g14,i14,rfl,b14,VN⟩:=(show Fj v14 (b_ (cY X) (gE (cY x1) (nF 1))) s9 wt from f14);have A14:=aa b14;have Wh:=aa VN;clear f14 b14 VN;have hfr:=hJ.fin (fun i hi=>az (lE.out i hi) (of_decide_eq_true rfl)) rfl (.cons a0 (.cons a1 (.cons a2 (.cons a3 (.cons a4 (.cons a5 (.cons a6 (.cons a7 (.cons a8 (.cons a9 (.cons Dw (.cons Dv (.cons a12 (.cons Du (.cons Lz .nil)))))))))))))));have bh:=aa hJ.st;have iT:Hid (Ext s3 s9 5):=aa hJ.ext;have jL:=aa hJ.be;clear hJ lO lE a0 a1 a2 a3 a4 a5 a6 a7 a8 a9 Dw Dv a12 Du Lz;rw[hfr];clear hfr
  simp only[l_,fH,aY,bS,bD];simp only[cL,cx];replace HR:=aa (kC HR.out jL.out);have tB:Hid (iI.At wt (.slice (some ⟨g14,0,none⟩) 1 1) [i14]):=aa (uj (l:=[i14]) A14.out (by show 1<=bI;decide));have nP:Hid (w.heap.size<=wt.heap.size):=aa (ah Q8.out.size jL.out.size);replace J3:=aa (iT.out.get J3.out);go_wp2_with (first | (at_builtin;refine El.Row.zO (E:=iI) HR.out rfl (.tmp 39) (.tmp 53) rfl rfl rfl tB.out (by show 0<1;decide) (by show 1+1<=1000000;decide) nP.out ?_;intro v9 w9 r1 r3 r2;have R1:=aa r1;have R2:=aa r2;have R3:=aa r3;clear r1 r2 r3) | fail);go_ret
  exact⟨_,[j3,i14],s9,rfl,R1.out,by rw[hl.out];simp only[aO,bM,J3.out,Wh.out],bh.out.own R2.out R3.out (ai _) (R1.out.ge R3.out).2,E3.out.trans iT.out (by omega),(Q8.out.trans jL.out).trans (.aN R2.out)⟩
 have e9:(u.k==9)=false:=beq_eq_false_iff_ne.2 h9;have ER:(u.k==10)=false:=beq_eq_false_iff_ne.2 h10;have hl:Hid (fO X=[dV (nF 0) (cY X)]):=aa (by unfold fO;rw[<-jy.out,if_neg h9,if_neg h10]);clear h9 h10 hop;go_wp2_with fail;go_ret;refine⟨_,[j3],s3,rfl,tg (l:=[j3]) ?_ ?_ (by show 1<=bI;decide),by rw[hl.out];simp only[aO,bM,J3.out],(S3.out.own (gQ.out.trans (lT.out.mono gQ.out.size)) rfl sk.out (az (ae jX.out) lT.out.size)),E3.out.up (by omega),UG.out.trans (dz.aN lT.out)⟩
 ·exact (lT.out.block kq (ae jX.out)).trans jX.out
 have h1:=T3.out.size;have h2:=sk.out;omega
theorem St.sK {B k:Nat} {E:Nat->Prop} {L s:List F} {w:ag} (h:St B k E L s w):B<=w.heap.size/\k<w.heap.size:=by
 obtain⟨km,v,us,M,h⟩:=h;exact⟨h.sz,ae h.bk⟩
theorem St.app {B k B0:Nat} {E:Nat->Prop} {L s:List F} {w w':ag} {v:aq} {l:List Nat} (h:St B k (fun g=>E g\/v.ownBlock=some g) L s w) (hR:iI.Row w B0 v l) (hB:B<=B0) (hg:w.grownBy w' v.ownBlock):St B k E L s w':=by
 have hs:=h;obtain⟨km,v0,us,M,hU⟩:=hs;refine h.Jh hg (fun g hr=>?_) (fun g hg=>.inl (.inl hg)) (fun g he=>az (hU.ex g (.inl he)) hg.size);obtain⟨c,hc,h32⟩:=hR.n32 g hr;exact⟨.inr hr,ah hB (hR.ge hr).1,c,hc,h32⟩
theorem dz.app {B k:Nat} {w0 w w':ag} {r:Option Nat} (h:dz B k w0 w) (hg:w.grownBy w' r) (hr:∀ g,r=some g->w0.heap.size<=g) (hk:k<w0.heap.size):dz B k w0 w':=by
 have ne:∀ g,g<w0.heap.size->some g≠r:=fun g hl e=>by have:=hr g e.symm;omega
 refine⟨hg.os.trans h.os,hg.tape.trans h.tape,hg.output.trans h.output,ah h.size hg.size,fun g hl hn=>(hg.block g (az hl h.size) (ne g hl)).trans (h.block g hl hn),fun g hl ho=>?_⟩;refine h.row g hl ?_;obtain⟨a1,a,v,a2,a3⟩:=ho;exact⟨a1,a,v,by rw[<-hg.block k (az hk h.size) (ne k hk)];exact a2,a3⟩
def mE (B k:Nat) (E:Nat->Prop) (L s:List F) (ts:List F) (n:Nat) (w:ag) (e:Ending) (w':ag):Prop:=∃ v ids s',e=.returned v/\iI.At w' v ids/\ids.map (fun i=>s'[i]?)=ts.map some/\St B k E L s' w'/\Ext s s' n/\dz B k w w'
theorem vp.Z8 {B k:Nat} {E:Nat->Prop} {L s:List F} {ts:List F} {n:Nat} {w:ag} {e:Ending} {w':ag} (h:vp B k E L s ts n w e w'):mE B k E L s ts n w e w':=by
 obtain⟨v,s',h1,⟨ids,h2,h3⟩,h4,h5,h6⟩:=h;exact⟨v,ids,s',h1,h2.N3,h3,h4,h5,h6⟩
end Go.Proofs.YtoncclhbdkjhmaaGreatDoor
