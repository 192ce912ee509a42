/-
 Joined texts: KBase,KNat,KRef,Shelf,KText,KMul,rZ,KSh,KDiv,KPar,KWhoA,KWhoF.
-/
import Init
import Derived.WalkKit
import Derived.WalkSpells
import Derived.WalkLawsBesides
import Derived.Lib.Hide
import Derived.Laws.CopyOwn
import Derived.Laws.AppendOwnNone
import Derived.Test.YtoncclhbdkjhmaaGreatDoorRows
import Derived.Deep.QuietTactic
import Derived.BigQuiet
import Derived.Shelf.Strings.Builder1
import Derived.Shelf.Small.Bits
import Derived.Shelf.Small.Wraps
import Derived.Shelf.Strconv.Itoa0
import Derived.Shelf.Strconv.Itoa1
import Derived.Shelf.LaysM
import Derived.Shelf.Strconv.Itoa2
import Derived.Test.YtoncclhbdkjhmaaGreatDoorProg
import Derived.Lib.Builder
import Derived.Lib.ItoaNum
import Derived.Lib.AppendStr
import Derived.RegionTactic
import Derived.StillTailTactics
import Derived.Deep.RegionHeld3
import Derived.Lib.ItoaMem
import Derived.Deep.DeepCutAuto
set_option maxHeartbeats 32000000
open Array renaming size_replicate→jZ,replicate→nh
open Go renaming lt_of_block→ae,World→af,Value→ak,bodyPost_ret→aJ,Calls→aV,TypeId→aZ,heap_alloc_new→bz,Addr→cu,IntKind→cy,cell_of_row→cT,Oper→fk,frozen_of_row→je,Program→lB,wpList→mq,info_parts→rm
open Go.Lib renaming hid→aa,decDigits→aO,byteCells→cH,nDigits→jf,TabIs→jY,pow10Tab→lJ,byteCells_length→mu
open Go.Proofs.Tryz renaming prog→aj,underlying9→eF,underlying5→jN,underlying3→jO,underlying99→jW,zeroValue9→k6,zeroValue3→k9,underlying4→nK,sizeOf9→oQ,sizeOf3→oS,zeroValue5→o8,zeroValue4→o_,underlying0→uC,underlying153→FO
open Go.Region renaming wanted→iV
open Go.RowKit renaming Below→aB,intOf→eT
open Go.RowKit.Below renaming refl→ax,heap_alloc→nG
open Go.Shelf renaming Ren→nA
open Go.Value renaming int→dz
open Go.World.grownBy renaming refl→aE
open Go.World.ownsRow renaming kept→iU
open List renaming append_assoc→aS,take_succ_eq_append_getElem→aT,length_take→bD,replicate→bI,set_cons_succ→bQ,drop_zero→cf,take_length→cz,length_set→cP,length→cW,getD→dj,append_nil→dG,eq_nil_of_length_eq_zero→dJ,take_of_length_le→eH,drop_eq_getElem_cons→eV,range→fm,length_replicate→fX,take_append_drop→k_,reverse_cons→oU
open Nat renaming le_refl→ag,le_trans→ai,lt_of_lt_of_le→az,pow_succ→cG,add_mul→cO,pow_le_pow_right→dc,mul_le_mul_right→de,min_eq_left→fy,eq_zero_or_pos→fG,div_lt_of_lt_mul→fN,zero_add→gh,mul_le_mul→gj,xor_lt_two_pow→gB,mod_lt→ig,mod_eq_of_lt→ij,lt_or_ge→pb,add_zero→pe,strongRecOn→pI,mul_le_mul_left→ru
namespace Go.Proofs.YtoncclhbdkjhmaaGreatDoor
set_option maxRecDepth 100000
theorem kM {α:Type _} {xs:List α} {i:Nat}:xs.toArray[i]?=xs[i]?:=List.getElem?_toArray
theorem lO {α:Type _} {a:α} {xs:List α} {i:Nat}:(a::xs)[i+1]?=xs[i]?:=List.getElem?_cons_succ
theorem lF {α:Type _} {a:α} {l:List α}:(a::l)[0]?=some a:=List.getElem?_cons_zero
theorem dB {α:Type _} {xs ys:List α}:(xs++ys).length=xs.length+ys.length:=List.length_append
theorem jo {α:Type _} {a:α} {xs:List α}:(a::xs).length=xs.length+1:=List.length_cons
theorem qE {α:Type _}:([]:List α).length=0:=List.length_nil
theorem Gp {α:Type _} {a:α} {xs:List α} {i:Nat}:(a::xs).take (i+1)=a::xs.take i:=List.take_succ_cons
theorem Gn {α:Type _} {l:List α}:l.take 0=[]:=List.take_zero
theorem Gm {α:Type _} {a:α} {l:List α} {i:Nat}:(a::l).drop (i+1)=l.drop i:=List.drop_succ_cons
theorem Gl {α:Type _} {l:List α}:l.drop 0=l:=cf
theorem AU {α:Type _} {l:List α} {i:Nat} {a:α}:l.toArray.setIfInBounds i a=(l.set i a).toArray:=List.setIfInBounds_toArray _ _ _
theorem AT {α:Type _} {x:α} {xs:List α} {a:α}:(x::xs).set 0 a=a::xs:=List.set_cons_zero
theorem AS {α:Type _} {x:α} {xs:List α} {n:Nat} {a:α}:(x::xs).set (n+1) a=x::xs.set n a:=bQ

def val (B:Nat):List Nat->Nat
 | []=>0
 | x::xs=>x+B*val B xs

def fK (B:Nat) (xs:List Nat):Prop:=∀ x ∈ xs,x<B

theorem mD (B:Nat) (xs ys:List Nat):val B (xs++ys)=val B xs+B ^ xs.length*val B ys:=by
 induction xs with
 | nil=>simp[val]
 | cons x xs ih=>simp only[List.cons_append,val,ih,jo,cG];grind
theorem gZ {B:Nat} {xs:List Nat} (h:fK B xs):val B xs<B ^ xs.length:=by
 induction xs with
 | nil=>simp[val]
 | cons x xs ih =>
  have h1:x<B:=h x (by simp);have h2:=ih (fun y hy=>h y (by simp[hy]));simp only[val,jo,cG];have:B*(val B xs+1)<=B*B ^ xs.length:=ru _ h2
  grind
theorem oC (B:Nat) (xs:List Nat) (i v:Nat) (h:i<xs.length):val B (xs.set i v)+xs.getD i 0*B ^ i=val B xs+v*B ^ i:=by
 induction xs generalizing i with
 | nil=>simp at h
 | cons x xs ih =>
  cases i with
  | zero=>simp[val];omega
  | succ i =>
   have:=ih i (by simpa using h);simp only[bQ,val,List.getD_cons_succ,cG]
   grind
theorem fH (B:Nat) (xs:List Nat) (k:Nat) (h:k<xs.length):val B (xs.take (k+1))=val B (xs.take k)+xs.getD k 0*B ^ k:=by
 rw[aT h,mD];have e:(xs.take k).length=k:=by simp;omega
 simp[val,e,dj,h,Nat.mul_comm]
theorem kD (B n:Nat):val B (bI n 0)=0:=by
 induction n with
 | zero=>rfl
 | succ n ih=>simp[List.replicate_succ,val,ih]
theorem fK.set {B:Nat} {xs:List Nat} (h:fK B xs) {i v:Nat} (hv:v<B):fK B (xs.set i v):=by
 intro x hx;rcases List.mem_or_eq_of_mem_set hx with h' | h'
 ·exact h x h'
 omega
theorem fK.append {B:Nat} {xs ys:List Nat} (h:fK B xs) (k:fK B ys):fK B (xs++ys):=by
 intro x hx;rcases List.mem_append.1 hx with h' | h'
 ·exact h x h'
 exact k x h'
theorem fK.take {B:Nat} {xs:List Nat} (h:fK B xs) (n:Nat):fK B (xs.take n):=fun x hx=>h x (List.mem_of_mem_take hx)
theorem fK.drop {B:Nat} {xs:List Nat} (h:fK B xs) (n:Nat):fK B (xs.drop n):=fun x hx=>h x (List.mem_of_mem_drop hx)
theorem fK.getD {B:Nat} {xs:List Nat} (h:fK B xs) (hB:0<B) (i:Nat):xs.getD i 0<B:=by
 by_cases hi:i<xs.length
 ·have:=h xs[i] (List.getElem_mem hi);simpa [dj,hi] using this
 simpa [dj,Nat.le_of_not_lt hi] using hB
theorem fK.replicate {B:Nat} (hB:0<B) (n:Nat):fK B (bI n 0):=fun x hx=>by rw[List.eq_of_mem_replicate hx];exact hB
theorem fK.nil (B:Nat):fK B []:=fun x hx=>by cases hx
def nz (xs:List Nat):Nat:=(xs.reverse.dropWhile (· == 0)).length
theorem jc (xs:List Nat):nz xs<=xs.length:=by
 unfold nz;have:=(List.dropWhile_suffix (p:=(· == 0)) (l:=xs.reverse)).length_le
 simpa using this
theorem vX {xs:List Nat} {k:Nat} (h:k<xs.length) (h0:xs.getD k 0=0):nz (xs.take (k+1))=nz (xs.take k):=by
 unfold nz;rw[aT h]
 simp[dj,h] at h0
 simp[h0]
theorem KJ {xs:List Nat} {k:Nat} (h:k<xs.length) (h0:xs.getD k 0≠0):nz (xs.take (k+1))=k+1:=by
 unfold nz;rw[aT h]
 simp[dj,h] at h0
 have e:(xs[k]==0)=false:=by simpa using h0
 rw[List.reverse_append,List.reverse_singleton,List.singleton_append,List.dropWhile_cons,e]
 simp;omega
def fJ (B:Nat) (n:Nat):List Nat:=
 if _h:2<=B/\0<n then n % B::fJ B (n / B) else []
termination_by n
decreasing_by exact Nat.div_lt_self _h.2 (by omega)
theorem fF (B:Nat):fJ B 0=[]:=by unfold fJ;simp
theorem jr {B n:Nat} (hB:2<=B) (h:0<n):fJ B n=n % B::fJ B (n / B):=by rw[fJ];simp[hB,h]
theorem jQ {B:Nat} (hB:2<=B) (n:Nat):val B (fJ B n)=n:=by
 induction n using pI with
 | ind n ih =>
  by_cases h:0<n
  ·rw[jr hB h];simp only[val];rw[ih _ (Nat.div_lt_self h (by omega))];have:=Nat.mod_add_div n B;omega
  have:n=0:=by omega
  subst this;simp[fF,val]
theorem ng {B:Nat} (hB:2<=B) (n:Nat):fK B (fJ B n):=by
 induction n using pI with
 | ind n ih =>
  by_cases h:0<n
  ·rw[jr hB h];intro x hx;rcases List.mem_cons.1 hx with rfl | hx
   ·exact ig _ (by omega)
   exact ih _ (Nat.div_lt_self h (by omega)) x hx
  have:n=0:=by omega
  subst this;simp[fF,fK]
theorem mE {B:Nat} (hB:2<=B) {xs:List Nat} (h:fK B xs):xs.take (nz xs)=fJ B (val B xs):=by
 induction xs with
 | nil=>simp[nz,val,fF]
 | cons x xs ih =>
  have hx:x<B:=h x (by simp);have hd:fK B xs:=fun y hy=>h y (by simp[hy])
  have PX:=ih hd
  by_cases hz:nz xs=0
  ·have hv:val B xs=0:=by
    have:fJ B (val B xs)=[]:=by rw[<-PX,hz];rfl
    by_cases h0:0<val B xs
    ·rw[jr hB h0] at this;cases this
    omega
   have hall:xs.reverse.dropWhile (· == 0)=[]:=dJ hz;simp only[val,hv,Nat.mul_zero,pe]
   have e:nz (x::xs)=if x=0 then 0 else 1:=by
    unfold nz;rw[oU,List.dropWhile_append,hall]
    by_cases hx0:x=0
    ·simp[hx0]
    simp[hx0,List.dropWhile]
    have:(x==0)=false:=by simpa using hx0
    simp[this]
   by_cases hx0:x=0
   ·rw[e,if_pos hx0,hx0,fF];rfl
   rw[e,if_neg hx0,jr hB (by omega),ij hx,Nat.div_eq_of_lt hx,fF];rfl
  have hne:xs.reverse.dropWhile (· == 0) ≠ []:=fun e=>hz (by unfold nz;rw[e];rfl)
  have e:nz (x::xs)=nz xs+1:=by
   unfold nz;rw[oU,List.dropWhile_append,if_neg (by simpa using hne)]
   simp
  have hv:0<val B xs:=by
   rcases fG (val B xs) with h0 | h0
   ·rw[h0,fF] at PX;have:=congrArg cW PX
    simp at this
    have hl:=jc xs;rcases this with h1 | h1
    ·omega
    subst h1;simp[nz] at hz
   exact h0
  have W9:0<x+B*val B xs:=by
   have h1:1<=B:=by omega
   have:=gj h1 hv;omega
  rw[e,List.take_succ_cons,PX,val,jr (n:=x+B*val B xs) hB W9];rw[Nat.add_mul_mod_self_left,ij hx,Nat.add_mul_div_left _ _ (by omega),Nat.div_eq_of_lt hx,gh]
theorem mU {B:Nat} (hB:2<=B) {xs:List Nat} (h:fK B xs):fJ B (val B xs)=xs.take (nz xs):=(mE hB h).symm
theorem iJ {B:Nat} (hB:2<=B) {xs:List Nat} (h:fK B xs):(fJ B (val B xs)).length=nz xs:=by
 rw[mU hB h,bD];have:=jc xs;omega
theorem cR {B:Nat} (hB:2<=B) {xs:List Nat} (h:fK B xs):val B (xs.take (nz xs))=val B xs:=by rw[mE hB h,jQ hB]
theorem gm {B:Nat} (hB:2<=B) {n k:Nat} (h:n<B ^ k):(fJ B n).length<=k:=by
 induction k generalizing n with
 | zero=>simp at h;subst h;simp[fF]
 | succ k ih =>
  by_cases h0:0<n
  ·rw[jr hB h0,jo];have:n / B<B ^ k:=fN (by rw[cG] at h;rw[Nat.mul_comm];exact h);have:=ih this;omega
  have:n=0:=by omega
  subst this;simp[fF]
theorem qM {B:Nat} (hB:2<=B) {n k:Nat} (h:(fJ B n).length<=k):n<B ^ k:=by
 have h1:=gZ (ng hB n);rw[jQ hB] at h1;exact az h1 (dc (by omega) h)
theorem vZ {B:Nat} (hB:2<=B) {n k:Nat} (h:k<(fJ B n).length):B ^ k<=n:=by
 rcases pb n (B ^ k) with h1 | h1
 ·have:=gm hB h1;omega
 exact h1
end Go.Proofs.YtoncclhbdkjhmaaGreatDoor
namespace Go.Proofs.YtoncclhbdkjhmaaGreatDoor
open Go.RowKit
set_option maxRecDepth 100000
def nth (xs:List Nat) (i:Nat):Int:=((xs.getD i 0:Nat):Int)
theorem vY {xs:List Nat} {i:Nat} (h:i<xs.length):nth xs i=((xs[i]:Nat):Int):=by
 unfold nth;simp[dj,h]
def Sl (w:af) (k:cy) (v:ak) (xs:List Nat):Prop:=
 ∃ (ao:Option cu) (cap:Nat),v=.slice ao xs.length cap/\xs.length<=cap/\cap<=9223372036854775807/\(ao=none->cap=0) /\
  ∀ i,i<xs.length->∃ a,ao=some a/\w.cell? (a.add i)=some (.int k (nth xs i))
theorem wT (a:cu) (i j:Nat):(a.add i).add j=a.add (i+j):=by
 unfold Addr.add
 by_cases hi:i=0
 ·simp[hi]
 by_cases hj:j=0
 ·simp[hj]
 simp[hi,hj];omega
theorem cj {w:af} {a:cu} {v:ak} (h:w.cell? a=some v):a.block<w.heap.size:=World.block_lt_of_cell? w a h
theorem Sl.nil (w:af) (k:cy):Sl w k (.slice none 0 0) []:=
 ⟨none,0,rfl,by simp,by omega,fun _=>rfl,fun i hi=>by simp at hi⟩
theorem Sl.below {w w':af} {k:cy} {v:ak} {xs:List Nat} (h:Sl w k v xs) (hb:aB w.heap.size w w'):Sl w' k v xs:=by
 obtain⟨ao,cap,rfl,h1,h2,h3,h4⟩:=h;refine⟨ao,cap,rfl,h1,h2,h3,fun i hi=>?_⟩;obtain⟨a,ha,hc⟩:=h4 i hi;exact⟨a,ha,by rw[hb.cell (cj hc)];exact hc⟩
theorem Sl.take {w:af} {k:cy} {ao:Option cu} {n cap:Nat} {xs:List Nat} (h:Sl w k (.slice ao n cap) xs) (m:Nat) (hm:m<=xs.length):Sl w k (.slice ao m cap) (xs.take m):=by
 obtain⟨OR,cap',e,h1,h2,h3,h4⟩:=h;injection e with e1 e2 e3;subst e1;subst e3;have hl:(xs.take m).length=m:=by simp;omega
 refine⟨ao,cap,by rw[hl],by rw[hl];omega,h2,h3,fun i hi=>?_⟩;rw[hl] at hi;obtain⟨a,ha,hc⟩:=h4 i (by omega);refine⟨a,ha,?_⟩;rw[hc];unfold nth
 simp[dj,hi]
def qD (w:af) (g:Nat) (k:cy) (T:aZ) (l:List Nat):Prop:=
 w.heap[g]?=some (.cells ((l.map fun (n:Nat)=>dz k ((n:Nat):Int)).toArray) T (0,0))
theorem qD.lt {w:af} {g:Nat} {k:cy} {T:aZ} {l:List Nat} (h:qD w g k T l):g<w.heap.size:=ae h
theorem qD.cell {w:af} {g:Nat} {k:cy} {T:aZ} {l:List Nat} (h:qD w g k T l) {i:Nat} (hi:i<l.length):w.cell? ⟨g,i,none⟩=some (.int k (nth l i)):=by
 rw[cT w g i _ T (0,0) h]
 simp[hi,vY hi]
theorem qD.frozen {w:af} {g:Nat} {k:cy} {T:aZ} {l:List Nat} (h:qD w g k T l) (i:Nat):w.frozen? ⟨g,i,none⟩=false:=je w g i _ T h
theorem qD.set {w:af} {g:Nat} {k:cy} {T:aZ} {l:List Nat} (h:qD w g k T l) (i:Nat) (n:Nat) (z:Int) (hz:z=(n:Int)):qD (w.setCell ⟨g,i,none⟩ (.int k z)) g k T (l.set i n):=by
 subst hz;unfold qD;rw[heap_setCell_same w g i _ T _ h]
 simp[List.map_set]
theorem qD.below {w w':af} {B g:Nat} {k:cy} {T:aZ} {l:List Nat} (h:qD w g k T l) (hg:aB B w w') (hB:g<B):qD w' g k T l:=by
 unfold qD at *;rw[hg.block g hB];exact h
theorem wS (g off i:Nat):(⟨g,off,none⟩:cu).add i=⟨g,off+i,none⟩:=by simp[Addr.add]
theorem qD.sl {w:af} {g:Nat} {k:cy} {T:aZ} {l:List Nat} (h:qD w g k T l) (off n cap:Nat) (hn:off+n<=l.length) (hc:n<=cap) (hm:cap<=9223372036854775807) :
  Sl w k (.slice (some ⟨g,off,none⟩) n cap) ((l.drop off).take n):=by
 have hl:((l.drop off).take n).length=n:=by simp;omega
 refine⟨some ⟨g,off,none⟩,cap,by rw[hl],by rw[hl];exact hc,hm,(fun e=>by cases e),fun i hi=>⟨_,rfl,?_⟩⟩;rw[hl] at hi;rw[wS,h.cell (i:=off+i) (by omega)];unfold nth
 simp[dj,hi]
theorem aD {w0 w:af} {g i:Nat} (h:w0.grownBy w (some g)) (v:ak):w0.grownBy (w.setCell ⟨g,i,none⟩ v) (some g):=
 ⟨h.os,h.tape,h.output,by simpa [World.setCell] using h.size,fun k hk hne=>by
  rw[Below.heap_setCell _ _ _ _ (fun e=>hne (by rw[e]))];exact h.block k hk hne⟩
def vJ (g:Nat) (v:ak):Prop:=∀ a n c,v=.slice (some a) n c->a.block=g->n=0
theorem Sl.grown {w w':af} {k:cy} {v:ak} {xs:List Nat} {g:Nat} (h:Sl w k v xs) (hg:w.grownBy w' (some g)) (ha:vJ g v):Sl w' k v xs:=by
 obtain⟨ao,cap,rfl,h1,h2,h3,h4⟩:=h;refine⟨ao,cap,rfl,h1,h2,h3,fun i hi=>?_⟩;obtain⟨a,rfl,hc⟩:=h4 i hi;refine⟨a,rfl,?_⟩;have hb:(a.add i).block=a.block:=by unfold Addr.add;split<;>rfl
 refine hg.cell hc (fun e=>?_);injection e with e;have:=ha a _ _ rfl (by rw[<-e,hb])
 omega
def Ws (w:af) (k:cy) (T:aZ) (v:ak) (g:Nat) (pre s post:List Nat):Prop:=
 ∃ (ao:Option cu) (cap:Nat),v=.slice ao s.length cap/\s.length<=cap/\cap<=9223372036854775807/\(ao=none->cap=0) /\
  (s.length≠0->ao=some ⟨g,pre.length,none⟩/\qD w g k T (pre++s++post))
def Cv (w:af) (k:cy) (T:aZ) (ao:Option cu) (g:Nat) (pre s post:List Nat) (n:Nat):Prop:=
 n≠0->ao=some ⟨g,pre.length,none⟩/\qD w g k T (pre++s++post)
theorem lC {xs:List Nat} (h:fK 4294967296 xs) (i:Nat):0<=nth xs i/\nth xs i<4294967296:=by
 have h1:=h.getD (by omega) i;unfold nth;omega
theorem Sl.at {w:af} {k:cy} {b:cu} {n c:Nat} {xs:List Nat} (h:Sl w k (.slice (some b) n c) xs) {i:Nat} (hi:i<xs.length):w.cell? (b.add i)=some (.int k (nth xs i)):=by
 obtain⟨_,_,e,_,_,_,q⟩:=h;injection e with e1 e2 e3;subst e1;obtain⟨b',e,q⟩:=q i hi;injection e with e;subst e;exact q
theorem Ws.sl {w:af} {k:cy} {T:aZ} {v:ak} {g:Nat} {pre s post:List Nat} (h:Ws w k T v g pre s post):Sl w k v s:=by
 obtain⟨ao,cap,rfl,h1,h2,h3,h4⟩:=h;refine⟨ao,cap,rfl,h1,h2,h3,fun i hi=>?_⟩;obtain⟨rfl,hb⟩:=h4 (by omega);refine⟨_,rfl,?_⟩;rw[wS,hb.cell (by simp;omega)];unfold nth
 simp[dj,List.getElem?_append_left,List.getElem?_append_right,hi]
theorem mK (pre s post:List Nat) (i:Nat) (h:i<s.length):nth (pre++s++post) (pre.length+i)=nth s i:=by
 unfold nth
 simp[dj,List.getElem?_append_left,List.getElem?_append_right,h]
theorem mF (pre s post:List Nat) (i n:Nat) (h:i<s.length):(pre++s++post).set (pre.length+i) n=pre++s.set i n++post:=by
 rw[aS,List.set_append_right _ _ (by omega),List.set_append_left _ _ (by omega),aS]
 simp
theorem wB {w:af} {base:Nat} {e:aZ} {g n cap:Nat} {xs:List ak} (h:w.ownsRow base e 1 (.slice (some ⟨g,0,none⟩) n cap) n xs) (hn:n=cap):w.heap[g]?=some (.cells xs.toArray e (0,0)):=by
 obtain⟨hl,h2⟩:=h;rcases h2 with ⟨e1,_⟩ | ⟨g',cap',cur,e1,_,hg,_,_,hs,ht⟩
 ·cases e1
 injection e1 with e1 e2 e3;injection e1 with e1;injection e1 with e1;subst e1;subst e3;subst hn;rw[hg,<-ht,Nat.mul_one]
 congr 2
 rw[eH (by simp[hs])]
theorem nj {P:lB} (w:af) {ops:Array fk} {rest:List fk} {o:fk} {a:Act} {Q:Exit->Act->af->Prop}
  (hg:o.guard=none) (l c:Operand) (t:aZ) (hop:o.op=Op.makeSlice t l c)
  (e:aZ) (i:TypeInfo) (k:cy) (h1:P.underlying t=some (.slice e)) (h2:P.info? e=some i) (h3:i.zero=some (.int k 0)) (h4:i.size=1)
  (kl kc:cy) (L C:Int) (n:Nat) (hl:a.eval l=.int kl L) (hc:a.eval c=.int kc C) (hL:L=(n:Int)) (hC:C=(n:Int)) (b2:i.bytes<=8) (b3:n<=35184372088832)
  (hK:∀ w',qD w' w.heap.size k e (bI n 0)->aB w.heap.size w w'->w.heap.size<w'.heap.size->mq P ops Q rest (a.put o.dst (.slice (some ⟨w.heap.size,0,none⟩) n n)) w') :
  mq P ops Q (o::rest) a w:=by
 have hb:i.bytes*n<=281474976710656:=ai (gj b2 b3) (by omega);refine wpList_make_full w hg l c t hop w.heap.size e i (.int k 0) 1 h1 h2 h3 h4 kl kc L C n hl hc hL hC hb (by unfold maxLen;omega) (ag _) ?_;intro w' ho jl;have hh:=wB ho rfl
 have hB:qD w' w.heap.size k e (bI n 0):=by
  unfold qD;rw[hh]
  have:(madeCells (Value.cells (.int k 0)) (n*1)).toList=bI n (.int k 0):=by
   rw[Nat.mul_one];exact toList_madeCells_one _ _
  rw[this]
  simp
 exact hK w' hB ⟨jl.os,jl.tape,jl.output,jl.size,fun j hj=>jl.block j hj (by simp)⟩ hB.lt
theorem yH {w:af} {k:cy} {sp:Option cu} {n c:Nat} {xs:List Nat} (h:Sl w k (.slice sp n c) xs) (m:Nat) (hm:m<=xs.length) (h0:0<m) :
  ∃ ad,sp=some ad/\∀ j v,((xs.take m).map fun (x:Nat)=>dz k ((x:Nat):Int))[j]?=some v->w.cell? (ad.add j)=some v:=by
 obtain⟨ao,cap,e,h1,h2,h3,h4⟩:=h;injection e with e1 e2 e3;subst e1;obtain⟨a,rfl,_⟩:=h4 0 (by omega);refine⟨a,rfl,fun j v hj=>?_⟩
 have jq:j<m:=by
  have:=(List.getElem?_eq_some_iff.1 hj).1
  simp at this;omega
 obtain⟨b,e,q⟩:=h4 j (by omega);injection e with e;subst e;rw[q,<-hj]
 simp[jq,vY (show j<xs.length by omega),show j<xs.length by omega]
theorem pL {w:af} {k:cy} {sp:Option cu} {n c:Nat} {xs:List Nat} (h:Sl w k (.slice sp n c) xs):n=xs.length:=by
 obtain⟨ao,cap,e,_⟩:=h;injection e
theorem DW (k:cy) (xs:List Nat):∀ u ∈ (xs.map fun (x:Nat)=>dz k ((x:Nat):Int)),u.oneCell'=true:=by
 intro u hu;obtain⟨x,_,rfl⟩:=List.mem_map.1 hu
 rfl
theorem rU {P:lB} {w:af} {ops:Array fk} {rest:List fk} {o:fk} {a:Act} {Q:Exit->Act->af->Prop} (hgd:o.guard=none) (d s:Operand) (dT sT:aZ)
  (ho:o.op=.call { callee:=.builtin .copy,args:=#[d,s],argTypes:=#[dT,sT] }) (elem:aZ) (hu:P.underlying dT=some (.slice elem)) (hsz:(P.info? elem).map (·.size)=some 1)
  (g n dCap:Nat) (sp:Option cu) (sLen sCap:Nat) (hd:a.eval d=.slice (some ⟨g,0,none⟩) n dCap) (hs:a.eval s=.slice sp sLen sCap)
  (k:cy) (T:aZ) (l xs:List Nat) (hB:qD w g k T l) (hn:n=l.length) (hx:Sl w k (.slice sp sLen sCap) xs) (hle:xs.length<=n)
  (B:Nat) (w0:af) (hb:aB B w0 w) (hBg:B<=g)
  (h:∀ w',qD w' g k T (xs++l.drop xs.length)->aB B w0 w'->mq P ops Q rest (a.put o.dst (.int .i64 xs.length)) w') :
  mq P ops Q (o::rest) a w:=by
 have Mw:=pL hx;have hmin:Nat.min sLen n=xs.length:=by rw[Mw];exact fy hle
 refine wpList_copy_splice hgd d s dT sT ho elem hu hsz (some ⟨g,0,none⟩) sp n dCap sLen sCap hd hs g 0 (l.map fun (x:Nat)=>dz k ((x:Nat):Int)) T hB (xs.map fun (x:Nat)=>dz k ((x:Nat):Int)) (by rw[hmin];simp) ?_ (by simp;omega) (DW k xs) B w0 hb hBg ?_
 ·intro h0;refine⟨rfl,?_⟩;have:=yH hx xs.length (ag _) (by simpa using h0)
  rwa [cz] at this
 intro w' hh hb'
 have:=h w' (by
  unfold qD;rw[hh.out]
  congr 2
  simp[splice]) hb'
 simpa [goInt] using this
def Ow (w:af) (base:Nat) (k:cy) (T:aZ) (v:ak) (xs:List Nat):Prop:=
 w.ownsRow base T 1 v xs.length (xs.map fun (x:Nat)=>dz k ((x:Nat):Int))
theorem Ow.nil (w:af) (base:Nat) (k:cy) (T:aZ):Ow w base k T (.slice none 0 0) []:=World.ownsRow_nil w base T 1
theorem Ow.alloc {w:af} {base:Nat} {k:cy} {T:aZ} {v:ak} {xs:List Nat} (h:Ow w base k T v xs) (o:Obj):Ow (w.alloc o) base k T v xs:=World.ownsRow.alloc h o
theorem Ow.sl {w:af} {base:Nat} {k:cy} {T:aZ} {v:ak} {xs:List Nat} (h:Ow w base k T v xs):Sl w k v xs:=by
 have h':=h;obtain⟨h1,h2⟩:=h;rcases h2 with ⟨rfl,h2⟩ | ⟨g,cap,cur,rfl,hb,hg,hn,hm,hs,ht⟩
 ·have:xs=[]:=dJ h2;subst this;exact Sl.nil _ _
 refine⟨some ⟨g,0,none⟩,cap,rfl,hn,by unfold maxLen at hm;omega,(fun e=>by cases e),fun i hi=>⟨_,rfl,?_⟩⟩;rw[wS,gh,World.ownsRow.cellAt h' i (by omega)]
 simp[hi,vY hi]
theorem Ow.Bv {w:af} {base:Nat} {k:cy} {T:aZ} {v:ak} {xs:List Nat} (h:Ow w base k T v xs):∀ j,v.ownBlock=some j->base<=j:=fun j hj=>(World.ownsRow.lt h j hj).1
theorem p6 {P:lB} (w:af) {ops:Array fk} {rest:List fk} {o:fk} {a:Act} {Q:Exit->Act->af->Prop} (hgd:o.guard=none) (s x:Operand) (t:aZ)
  (ho:o.op=.call { callee:=.builtin .append,args:=#[s,x],argTypes:=#[t,t] })
  (e:aZ) (i:TypeInfo) (k:cy) (ht:P.underlying t=some (.slice e)) (hi:P.info? e=some i) (hz:i.zero=some (.int k 0)) (hsize:i.size=1) (hby:i.bytes<=8)
  (base:Nat) (v:ak) (xs:List Nat) (hs:a.eval s=v) (hown:Ow w base k e v xs)
  (h:Nat) (z:Int) (n:Nat) (hx:a.eval x=.slice (some ⟨h,0,none⟩) 1 1) (hc:w.cell? ⟨h,0,none⟩=some (.int k z)) (Ms:z=(n:Int))
  (hlen:xs.length<=1000000000) (hbase:base<=w.heap.size)
  (hK:∀ v' w',Ow w' base k e v' (xs++[n])->aB base w w'->mq P ops Q rest (a.put o.dst v') w'):mq P ops Q (o::rest) a w:=by
 have e_:(xs.length+1)*i.bytes<=140737488355328:=ai (gj (show xs.length+1<=1000000001 by omega) hby) (by omega);refine wpList_append_own w hgd s x t ho base e i (.int k 0) 1 i.bytes ht hi hz hsize rfl rfl (by decide) v xs.length _ hs hown ⟨h,0,none⟩ 1 1 [.int k z] hx rfl ?_ ?_ (by unfold maxLen;omega) e_ hbase ?_
 ·intro j u hj
  match j,hj with
  | 0,hj=>simp at hj;subst hj;simpa [Addr.add] using hc
 ·intro u hu;simp at hu;subst hu;rfl
 intro v' w' h1 h2 _;refine hK v' w' ?_ ⟨h2.os,h2.tape,h2.output,h2.size,fun j hj=>h2.block j (by omega) (fun e'=>?_)⟩
 ·unfold Ow;have:(xs++[n]).map (fun (x:Nat)=>dz k ((x:Nat):Int))=xs.map (fun (x:Nat)=>dz k ((x:Nat):Int))++[.int k z]:=by rw[Ms];simp
  rw[this,dB];exact h1
 have:=hown.Bv j e'.symm
 omega
def yK (x y c:Int):Int:=if x<y+c then 1 else 0
theorem uT (n:Nat) (h:n<4294967296):n / 2147483648=(n.testBit 31).toNat:=by
 rw[Nat.testBit_eq_decide_div_mod_eq];have:n / 2 ^ 31<2:=by omega
 rcases (show n / 2 ^ 31=0\/n / 2 ^ 31=1 by omega) with h | h<;>simp[h]<;>omega
theorem AQ (n:Nat) (h:n<4294967296):n.testBit 31=decide (2147483648<=n):=by
 have:=uT n h
 cases hb:n.testBit 31
 ·rw[hb] at this;simp at this ⊢;omega
 rw[hb] at this;simp at this ⊢;omega
theorem yJ (x y d:Nat) (hx:x<4294967296) (hy:y<4294967296) (hd:d<4294967296) :
  (((4294967295 ^^^ x) &&& y) ||| ((4294967295 ^^^ (x ^^^ y)) &&& d)) / 2147483648 =
   if (x<2147483648/\2147483648<=y)\/((x<2147483648 ↔ y<2147483648)/\2147483648<=d) then 1 else 0:=by
 have l1:(4294967295 ^^^ x)<2 ^ 32:=gB (by omega) (by omega);have l2:(x ^^^ y)<2 ^ 32:=gB (by omega) (by omega);have l3:(4294967295 ^^^ (x ^^^ y))<2 ^ 32:=gB (by omega) l2;have l4:(4294967295 ^^^ x) &&& y<2 ^ 32:=Nat.and_lt_two_pow _ (by omega);have l5:(4294967295 ^^^ (x ^^^ y)) &&& d<2 ^ 32:=Nat.and_lt_two_pow _ (by omega);rw[uT _ (Nat.or_lt_two_pow l4 l5)];simp only[Nat.testBit_or,Nat.testBit_and,Nat.testBit_xor];rw[AQ x hx,AQ y hy,AQ d hd,AQ 4294967295 (by omega)]
 by_cases a:x<2147483648<;>by_cases b:y<2147483648<;>by_cases c:2147483648<=d<;>simp[a,b,c,Nat.not_le.2,Nat.not_lt.1]<;>omega
theorem As (x y c:Int) (hx:0<=x/\x<4294967296) (hy:0<=y/\y<4294967296) (hc:0<=c/\c<=1) :
  bits BinOp.or IntKind.u32 (bits BinOp.and IntKind.u32 (bits BinOp.xor IntKind.u32 IntKind.u32.max x) y)
        (bits BinOp.and IntKind.u32 (bits BinOp.xor IntKind.u32 IntKind.u32.max (bits BinOp.xor IntKind.u32 x y)) ((x - y - c) % 4294967296)) / 2147483648=yK x y c:=by
 obtain⟨X,rfl⟩:=Int.eq_ofNat_of_zero_le hx.1;obtain⟨Y,rfl⟩:=Int.eq_ofNat_of_zero_le hy.1;obtain⟨D,hD⟩:=Int.eq_ofNat_of_zero_le (show 0<=((X:Int) - Y - c) % 4294967296 by omega);have hX:X<4294967296:=by omega
 have hY:Y<4294967296:=by omega
 have Uw:D<4294967296:=by omega
 have em:IntKind.u32.max=((4294967295:Nat):Int):=by decide
 have l1:(4294967295 ^^^ X)<2 ^ 32:=gB (by omega) (by omega);have l2:(X ^^^ Y)<2 ^ 32:=gB (by omega) (by omega);have l3:(4294967295 ^^^ (X ^^^ Y))<2 ^ 32:=gB (by omega) l2;have l4:(4294967295 ^^^ X) &&& Y<2 ^ 32:=Nat.and_lt_two_pow _ (by omega);have l5:(4294967295 ^^^ (X ^^^ Y)) &&& D<2 ^ 32:=Nat.and_lt_two_pow _ (by omega);rw[hD,em,u32_xor_nat _ _ (by omega) hX,u32_xor_nat X Y hX hY,u32_xor_nat _ _ (by omega) (by omega),u32_and_nat _ _ (by omega) hY,u32_and_nat _ _ (by omega) Uw,u32_or_nat _ _ (by omega) (by omega)];have hb:=yJ X Y D hX hY Uw;have e:((((4294967295 ^^^ X) &&& Y ||| (4294967295 ^^^ (X ^^^ Y)) &&& D:Nat):Int)) / 2147483648=(((((4294967295 ^^^ X) &&& Y) ||| ((4294967295 ^^^ (X ^^^ Y)) &&& D)) / 2147483648:Nat):Int):=by omega
 rw[e,hb];unfold yK
 by_cases h:(X:Int)<Y+c
 ·rw[if_pos h,if_pos (by omega)];rfl
 rw[if_neg h,if_neg (by omega)];rfl
theorem vF (x y c:Int) (w:af) (hx:0<=x/\x<4294967296)  (hy:0<=y/\y<4294967296) (hc:0<=c/\c<=1) :
  aV aj 180 #[.int .u32 x,.int .u32 y,.int .u32 c] w fun e w'=>e=.returned (.tuple #[.int .u32 ((x+y+c) % 4294967296),.int .u32 ((x+y+c) / 4294967296)])/\w=w':=by
 go_enter Tryz.func180,Tryz.ntmps180
 go_wp2
 go_ret2
 exact⟨rfl,rfl⟩
theorem uV (x y c:Int) (w:af) (hx:0<=x/\x<4294967296)  (hy:0<=y/\y<4294967296) (hc:0<=c/\c<=1) :
  aV aj 181 #[.int .u32 x,.int .u32 y,.int .u32 c] w fun e w'=>e=.returned (.tuple #[.int .u32 ((x - y - c) % 4294967296),.int .u32 (yK x y c)])/\w=w':=by
 have hb:=aa (As x y c hx hy hc);go_enter Tryz.func181,Tryz.ntmps181
 go_wp2
 all_goals first
  | (go_ret2;exact⟨by rw[<-hb.out];rfl,rfl⟩)
  | (exfalso;rename_i h;exact h rfl)
theorem eG (ao:Option cu) (n cap:Nat) (xs:List Nat) (w:af) (h:Sl w .u32 (.slice ao n cap) xs) :
  aV aj 144 #[.slice ao n cap] w fun e w'=>e=.returned (.slice ao (nz xs) cap)/\w=w':=by
 have H:=aa h;obtain⟨OR,cap',e,h1,h2,h3,h4⟩:=h;injection e with e1 e2 e3;subst e1;subst e2;subst e3;go_enter Tryz.func144,Tryz.ntmps144
 go_wp2
 go_loop [3] (fun n=>∃ k:Nat,k<=xs.length/\n=.int .i64 k/\Hid (nz (xs.take k)=nz xs)) (fun n=>(eT n).toNat)
 case atStart=>exact⟨xs.length,ag _,rfl,aa (by rw[cz])⟩
 case round =>
  obtain⟨k,hk,rfl,Hn⟩:=hrel
  by_cases h0:0<k
  ·obtain⟨a,rfl,g⟩:=h4 (k-1) (by omega);clear h4
   go_wp2
   ·have hz:(nth xs (k - 1)==0)=true:=by assumption
    go_round
    case rel=>exact⟨k - 1,by omega,by go_num,aa (by rw[<-Hn.out,<-vX (k:=k - 1) (by omega) (by have:=vY (xs:=xs) (i:=k - 1) (by omega);simp at hz;unfold nth at hz;omega),show k - 1+1=k by omega])⟩
    case measure=>simp[eT];omega
   have hz:(nth xs (k - 1)==0)=false:=by assumption
   have hk':k=nz xs:=by
    rw[<-Hn.out,show k=(k - 1)+1 by omega,KJ (by omega) (by simp at hz;unfold nth at hz;omega)]
   subst hk';go_ret
   exact⟨rfl,rfl⟩
  have hk':k=nz xs:=by
   rw[<-Hn.out,show k=0 by omega];rfl
  have HK:=aa hk';clear hk';have n_:k=0:=by omega
  subst n_
  go_wp2
  go_ret
  exact⟨by rw[<-HK.out];rfl,rfl⟩
def jg (ao:Option cu) (cap:Nat) (xs:List Nat):ak:=if nz xs=0 then .slice none 0 0 else .slice ao (nz xs) cap
theorem ry (ao:Option cu) (n cap:Nat) (xs:List Nat) (w:af) (h:Sl w .u32 (.slice ao n cap) xs) :
  aV aj 138 #[.slice ao n cap] w fun e w'=>e=.returned (jg ao cap xs)/\w=w':=by
 by_cases h0:nz xs=0
 ·have H0:=aa h0;clear h0;have hz:(((nz xs:Nat):Int)==0)=true:=by rw[H0.out];rfl
  go_enter Tryz.func138,Tryz.ntmps138
  go_wp2_with (go_at_call 144;refine (eG _ _ _ _ _ h).mono ?_;rintro e w' ⟨rfl,rfl⟩)
  go_ret
  exact⟨by unfold jg;rw[if_pos H0.out];rfl,rfl⟩
 have hz:(((nz xs:Nat):Int)==0)=false:=by simp;omega
 go_enter Tryz.func138,Tryz.ntmps138
 go_wp2_with (go_at_call 144;refine (eG _ _ _ _ _ h).mono ?_;rintro e w' ⟨rfl,rfl⟩)
 go_ret
 exact⟨by unfold jg;rw[if_neg h0];rfl,rfl⟩
theorem zO:(Tryz.prog.info? 153).map (fun i=>(i.zero,i.size,i.bytes))=some (some (.int .u32 0),1,4):=by kernel_rfl
theorem Kv:(Tryz.prog.info? 153).map (·.size)=some 1:=by kernel_rfl
theorem mI (ao:Option cu) (m cap:Nat) (xs:List Nat) (n:Nat) (z:Int) (w:af) (h:Sl w .u32 (.slice ao m cap) xs) (hn:xs.length<=n) (hb:n<=1073741824) (Ms:z=(n:Int)) :
  aV aj 146 #[.slice ao m cap,.int .i64 z] w fun e w'=>∃ v,e=.returned v/\Ws w' .u32 153 v w.heap.size [] (xs++bI (n - xs.length) 0) []/\aB w.heap.size w w'/\(n≠0->w.heap.size<w'.heap.size):=by
 subst Ms
 by_cases h0:n=0
 ·subst h0;have hx:xs=[]:=dJ (by omega);subst hx;go_enter Tryz.func146,Tryz.ntmps146
  go_wp2
  go_ret
  exact⟨_,rfl,⟨none,0,rfl,by simp,by omega,fun _=>rfl,fun e=>by simp at e⟩,ax _ _,fun e=>absurd rfl e⟩
 obtain⟨i0,hi,hz0,iq,mP⟩:=rm zO;have hz:(((n:Nat):Int)==0)=false:=by simp;omega
 go_enter Tryz.func146,Tryz.ntmps146
 go_wp2_with (at_make;refine nj _ rfl _ _ 24 rfl 153 i0 .u32 Tryz.underlying24 hi hz0 iq _ _ _ _ n rfl rfl rfl rfl ?b2 ?b3 ?_)
 case b2=>omega
 case b3=>omega
 intro w1 JE gp hs1;go_wp2_with (with_reducible refine rU rfl (.tmp 10) (.tmp 11) 24 24 rfl 153 Tryz.underlying24 Kv w.heap.size n n ao m cap rfl rfl .u32 153 _ xs JE ?c1 (h.below gp) hn w.heap.size w gp (ag _) ?_)
 case c1=>simp
 intro w2 Is e_
 go_wp2
 go_ret
 refine⟨_,rfl,?_,e_,fun _=>Is.lt⟩;refine⟨some ⟨w.heap.size,0,none⟩,n,?_,?_,by omega,(fun e=>by cases e),fun _=>⟨rfl,?_⟩⟩
 ·simp;omega
 ·simp;omega
 simpa using Is
theorem Da {B:Nat} (t ys:List Nat) (S k cc:Nat) (hy:k<ys.length) (ht:k<t.length) (h:val B t+cc*B ^ k=S+val B (ys.take k)) :
  val B (t.set k ((t.getD k 0+ys.getD k 0+cc) % B))+((t.getD k 0+ys.getD k 0+cc) / B)*B ^ (k+1)=S+val B (ys.take (k+1)):=by
 have h1:=oC B t k ((t.getD k 0+ys.getD k 0+cc) % B) ht;rw[fH B ys k hy];have h2:=Nat.mod_add_div (t.getD k 0+ys.getD k 0+cc) B;generalize (t.getD k 0+ys.getD k 0+cc) % B=r at *;generalize (t.getD k 0+ys.getD k 0+cc) / B=q at *;rw[cG]
 grind
theorem zA {B:Nat} (t:List Nat) (S k cc:Nat) (ht:k<t.length) (h:val B t+cc*B ^ k=S) :
  val B (t.set k ((t.getD k 0+cc) % B))+((t.getD k 0+cc) / B)*B ^ (k+1)=S:=by
 have h1:=oC B t k ((t.getD k 0+cc) % B) ht;have h2:=Nat.mod_add_div (t.getD k 0+cc) B;generalize (t.getD k 0+cc) % B=r at *;generalize (t.getD k 0+cc) / B=q at *;rw[cG]
 grind
theorem Cj {B:Nat} {t:List Nat} {S n cc:Nat} (hd:fK B t) (hn:t.length=n) (h:val B t+cc*B ^ n=S):val B t=S % B ^ n:=by
 have h1:=gZ hd;rw[hn] at h1;rw[<-h,Nat.add_mul_mod_self_right,ij h1]
theorem vD (g:Nat) (pre s post ys:List Nat) (vs vb:ak) (w:af) (hw:Ws w .u32 153 vs g pre s post) (hb:Sl w .u32 vb ys) (ha:vJ g vb) (hl:ys.length<=s.length)
  (hs:fK 4294967296 s) (hy:fK 4294967296 ys) :
  aV aj 147 #[vs,vb] w fun e w'=>∃ s',e=.returned (.tuple #[])/\Ws w' .u32 153 vs g pre s' post/\w.grownBy w' (some g)/\s'.length=s.length/\fK 4294967296 s' /\
   val 4294967296 s'=(val 4294967296 s+val 4294967296 ys) % 4294967296 ^ s.length:=by
 obtain⟨ao,cap,rfl,h1,h2,h3,h4⟩:=hw;have HB:=aa hb;obtain⟨bo,OM,rfl,k1,k2,k3,k4⟩:=hb;go_enter Tryz.func147,Tryz.ntmps147
 go_wp2
 go_loopw [4,10] (fun c i wr=>∃ (k:Nat) (t:List Nat) (cc:Nat),i=.int .i64 k/\c=.int .u32 (cc:Int)/\cc<=1/\k<=ys.length/\w.grownBy wr (some g)/\Hid (t.length=s.length)/\fK 4294967296 t /\
   Cv wr .u32 153 ao g pre t post s.length /\
   Hid (val 4294967296 t+cc*4294967296 ^ k=val 4294967296 s+val 4294967296 (ys.take k)))
  (fun _ i _=>ys.length - (eT i).toNat)
 case atStart=>exact⟨0,s,0,rfl,rfl,by omega,by omega,aE _ _,aa rfl,hs,h4,aa (by simp[val])⟩
 case round =>
  obtain⟨k,t,cc,rfl,rfl,rN,hk,hg,Ht,pV,hB,HV⟩:=hrel
  by_cases hlt:k<ys.length
  ·obtain⟨b,rfl,hcb⟩:=k4 k hlt;obtain⟨rfl,qV⟩:=hB (by omega);have lZ:k<t.length:=by have:=Ht.out;omega
   have Lh:=(HB.out.grown hg ha).at hlt
   have hct:wr.cell? ⟨g,pre.length+k,none⟩=some (.int .u32 (nth t k)):=by
    rw[qV.cell (by simp;omega),mK _ _ _ _ lZ]
   have hft:=qV.frozen (pre.length+k);have y1:=lC hy k;have t1:=lC pV k;clear hcb hB h4 k4;go_wp2_with (go_at_call 180;refine (vF _ _ _ _ (by omega) (by omega) (by omega)).mono ?_;rintro e w' ⟨rfl,rfl⟩)
   go_roundw
   case rel =>
    refine⟨k+1,t.set k ((t.getD k 0+ys.getD k 0+cc) % 4294967296),(t.getD k 0+ys.getD k 0+cc) / 4294967296,by go_num,?_,?_,by omega,aD hg _,aa (by rw[cP];exact Ht.out),pV.set (by omega),fun _=>⟨rfl,?_⟩,aa (Da t ys _ k cc hlt lZ HV.out)⟩
    ·congr 1
    ·unfold nth at y1 t1;omega
    rw[<-mF _ _ _ _ _ lZ];exact qV.set _ _ _ (by unfold nth;omega)
   case measure=>simp[eT];omega
  have hkk:k=ys.length:=by omega
  subst hkk
  go_wp2
  clear hk hlt
  go_loopw [4,7] (fun c i w2=>∃ (j:Nat) (t:List Nat) (cc:Nat),i=.int .i64 j/\c=.int .u32 (cc:Int)/\cc<=1/\j<=s.length/\w.grownBy w2 (some g)/\Hid (t.length=s.length)/\fK 4294967296 t /\
    Cv w2 .u32 153 ao g pre t post s.length /\
    Hid (val 4294967296 t+cc*4294967296 ^ j=val 4294967296 s+val 4294967296 ys))
   (fun _ i _=>s.length - (eT i).toNat)
  case atStart=>exact⟨ys.length,t,cc,rfl,rfl,rN,hl,hg,Ht,pV,hB,aa (by rw[HV.out,cz])⟩
  case round =>
   clear hB HV pV Ht hg rN k4;obtain⟨k,t,cc,rfl,rfl,rN,hk,hg,Ht,pV,hB,HV⟩:=hrel
   by_cases hlt:0<cc/\k<s.length
   ·obtain⟨hc0,hlt⟩:=hlt;obtain⟨rfl,qV⟩:=hB (by omega);have lZ:k<t.length:=by have:=Ht.out;omega
    have hct:wr.cell? ⟨g,pre.length+k,none⟩=some (.int .u32 (nth t k)):=by
     rw[qV.cell (by simp;omega),mK _ _ _ _ lZ]
    have hft:=qV.frozen (pre.length+k);have t1:=lC pV k;clear hB h4;go_wp2_with (go_at_call 180;refine (vF _ _ _ _ (by omega) (by omega) (by omega)).mono ?_;rintro e w' ⟨rfl,rfl⟩)
    go_roundw
    case rel =>
     refine⟨k+1,t.set k ((t.getD k 0+cc) % 4294967296),(t.getD k 0+cc) / 4294967296,by go_num,?_,?_,by omega,aD hg _,aa (by rw[cP];exact Ht.out),pV.set (by omega),fun _=>⟨rfl,?_⟩,aa (zA t _ k cc lZ HV.out)⟩
     ·congr 1
     ·unfold nth at t1;omega
     rw[<-mF _ _ _ _ _ lZ];exact qV.set _ _ _ (by unfold nth;omega)
    case measure=>simp[eT];omega
   have hend:val 4294967296 t=(val 4294967296 s+val 4294967296 ys) % 4294967296 ^ s.length:=by
    by_cases h0:cc=0
    ·have hv:=HV.out;subst h0;rw[Nat.zero_mul,pe] at hv;rw[<-hv,ij (by rw[<-Ht.out];exact gZ pV)]
    have:k=s.length:=by omega
    subst this;exact Cj pV Ht.out HV.out
   have IS:=aa hend;clear hend;have l_:Ws wr .u32 153 (.slice ao s.length cap) g pre t post:=⟨ao,cap,by rw[Ht.out],by rw[Ht.out];exact h1,h2,h3,by rw[Ht.out];exact hB⟩
   clear h4
   by_cases hc0:0<cc
   ·go_wp2
    go_end0
    exact⟨t,rfl,l_,hg,Ht.out,pV,IS.out⟩
   go_wp2
   go_end0
   exact⟨t,rfl,l_,hg,Ht.out,pV,IS.out⟩
abbrev bf:Nat:=4294967296
theorem C' {B:Nat} (t ys:List Nat) (S k cc v b:Nat) (hy:k<ys.length) (ht:k<t.length) (h:val B t+val B (ys.take k)=S+cc*B ^ k) (hv:v+ys.getD k 0+cc=t.getD k 0+b*B) :
  val B (t.set k v)+val B (ys.take (k+1))=S+b*B ^ (k+1):=by
 have h1:=oC B t k v ht;rw[fH B ys k hy,cG];generalize B ^ k=P at *;have h3:v*P+ys.getD k 0*P+cc*P=t.getD k 0*P+b*B*P:=by rw[<-cO,<-cO,hv,cO]
 grind
theorem xB {B:Nat} (t:List Nat) (S Y k cc v b:Nat) (ht:k<t.length) (h:val B t+Y=S+cc*B ^ k) (hv:v+cc=t.getD k 0+b*B) :
  val B (t.set k v)+Y=S+b*B ^ (k+1):=by
 have h1:=oC B t k v ht;rw[cG];generalize B ^ k=P at *;have h3:v*P+cc*P=t.getD k 0*P+b*B*P:=by rw[<-cO,hv,cO]
 grind
theorem vA (x y c:Nat) (hx:x<4294967296) (hy:y<4294967296) (hc:c<=1) :
  ∃ b:Nat,yK x y c=(b:Int)/\b<=1/\∃ v:Nat,((x:Int) - y - c) % 4294967296=(v:Int)/\v<4294967296/\v+y+c=x+b*4294967296:=by
 unfold yK
 by_cases h:(x:Int)<y+c
 ·rw[if_pos h];exact⟨1,rfl,by omega,(((x:Int) - y - c) % 4294967296).toNat,by omega,by omega,by omega⟩
 rw[if_neg h];exact⟨0,rfl,by omega,(((x:Int) - y - c) % 4294967296).toNat,by omega,by omega,by omega⟩
theorem xA (g:Nat) (pre s post ys:List Nat) (vs vb:ak) (w:af) (hw:Ws w .u32 153 vs g pre s post) (hb:Sl w .u32 vb ys) (ha:vJ g vb) (hl:ys.length<=s.length)
  (hs:fK 4294967296 s) (hy:fK 4294967296 ys) (hle:val 4294967296 ys<=val 4294967296 s) :
  aV aj 148 #[vs,vb] w fun e w'=>∃ s',e=.returned (.tuple #[])/\Ws w' .u32 153 vs g pre s' post/\w.grownBy w' (some g)/\s'.length=s.length/\fK 4294967296 s' /\
   val 4294967296 s'=val 4294967296 s - val 4294967296 ys:=by
 have E_:=aa hle;clear hle;obtain⟨ao,cap,rfl,h1,h2,h3,h4⟩:=hw;have HB:=aa hb;obtain⟨bo,OM,rfl,k1,k2,k3,k4⟩:=hb;go_enter Tryz.func148,Tryz.ntmps148
 go_wp2
 go_loopw [4,10] (fun c i wr=>∃ (k:Nat) (t:List Nat) (cc:Nat),i=.int .i64 k/\c=.int .u32 (cc:Int)/\cc<=1/\k<=ys.length/\w.grownBy wr (some g)/\Hid (t.length=s.length)/\fK 4294967296 t /\
   Cv wr .u32 153 ao g pre t post s.length /\
   Hid (val 4294967296 t+val 4294967296 (ys.take k)=val 4294967296 s+cc*4294967296 ^ k))
  (fun _ i _=>ys.length - (eT i).toNat)
 case atStart=>exact⟨0,s,0,rfl,rfl,by omega,by omega,aE _ _,aa rfl,hs,h4,aa (by simp[val])⟩
 case round =>
  obtain⟨k,t,cc,rfl,rfl,rN,hk,hg,Ht,pV,hB,HV⟩:=hrel
  by_cases hlt:k<ys.length
  ·obtain⟨b,rfl,hcb⟩:=k4 k hlt;obtain⟨rfl,qV⟩:=hB (by omega);have lZ:k<t.length:=by have:=Ht.out;omega
   have Lh:=(HB.out.grown hg ha).at hlt
   have hct:wr.cell? ⟨g,pre.length+k,none⟩=some (.int .u32 (nth t k)):=by
    rw[qV.cell (by simp;omega),mK _ _ _ _ lZ]
   have hft:=qV.frozen (pre.length+k);have y1:=lC hy k;have t1:=lC pV k;clear hcb hB h4 k4;go_wp2_with (go_at_call 181;refine (uV _ _ _ _ (by omega) (by omega) (by omega)).mono ?_;rintro e w' ⟨rfl,rfl⟩)
   go_roundw
   case rel =>
    obtain⟨b',e1,e2,v',e3,e4,e5⟩:=vA (t.getD k 0) (ys.getD k 0) cc (by unfold nth at t1;omega) (by unfold nth at y1;omega) rN;refine⟨k+1,t.set k v',b',by go_num,?_,e2,by omega,aD hg _,aa (by rw[cP];exact Ht.out),pV.set e4,fun _=>⟨rfl,?_⟩,aa (C' t ys _ k cc v' b' hlt lZ HV.out e5)⟩
    ·rw[<-e1];rfl
    rw[<-mF _ _ _ _ _ lZ];exact qV.set _ _ _ e3
   case measure=>simp[eT];omega
  have hkk:k=ys.length:=by omega
  subst hkk
  go_wp2
  clear hk hlt
  go_loopw [4,7] (fun c i w2=>∃ (j:Nat) (t:List Nat) (cc:Nat),i=.int .i64 j/\c=.int .u32 (cc:Int)/\cc<=1/\j<=s.length/\w.grownBy w2 (some g)/\Hid (t.length=s.length)/\fK 4294967296 t /\
    Cv w2 .u32 153 ao g pre t post s.length /\
    Hid (val 4294967296 t+val 4294967296 ys=val 4294967296 s+cc*4294967296 ^ j))
   (fun _ i _=>s.length - (eT i).toNat)
  case atStart=>exact⟨ys.length,t,cc,rfl,rfl,rN,hl,hg,Ht,pV,hB,aa (by rw[<-HV.out,cz])⟩
  case round =>
   clear hB HV pV Ht hg rN k4;obtain⟨k,t,cc,rfl,rfl,rN,hk,hg,Ht,pV,hB,HV⟩:=hrel
   by_cases hc0:0<cc
   ·have hlt:k<s.length:=by
     rcases pb k s.length with h | h
     ·exact h
     exfalso
     have hk':k=s.length:=by omega
     have hv:=HV.out;have qP:=gZ pV;have hle:=E_.out;rw[Ht.out] at qP;rw[hk',show cc=1 by omega] at hv
     omega
    obtain⟨rfl,qV⟩:=hB (by omega);have lZ:k<t.length:=by have:=Ht.out;omega
    have hct:wr.cell? ⟨g,pre.length+k,none⟩=some (.int .u32 (nth t k)):=by
     rw[qV.cell (by simp;omega),mK _ _ _ _ lZ]
    have hft:=qV.frozen (pre.length+k);have t1:=lC pV k;clear hB h4;go_wp2_with (go_at_call 181;refine (uV _ _ _ _ (by omega) (by omega) (by omega)).mono ?_;rintro e w' ⟨rfl,rfl⟩)
    go_roundw
    case rel =>
     obtain⟨b',e1,e2,v',e3,e4,e5⟩:=vA (t.getD k 0) 0 cc (by unfold nth at t1;omega) (by omega) rN;refine⟨k+1,t.set k v',b',by go_num,?_,e2,by omega,aD hg _,aa (by rw[cP];exact Ht.out),pV.set e4,fun _=>⟨rfl,?_⟩,aa (xB t _ _ k cc v' b' lZ HV.out (by omega))⟩
     ·rw[<-e1];rfl
     rw[<-mF _ _ _ _ _ lZ];exact qV.set _ _ _ (by rw[<-e3];unfold nth;omega)
    case measure=>simp[eT];omega
   have hend:val 4294967296 t=val 4294967296 s - val 4294967296 ys:=by
    have hv:=HV.out;rw[show cc=0 by omega,Nat.zero_mul,pe] at hv
    omega
   have IS:=aa hend;clear hend;have l_:Ws wr .u32 153 (.slice ao s.length cap) g pre t post:=⟨ao,cap,by rw[Ht.out],by rw[Ht.out];exact h1,h2,h3,by rw[Ht.out];exact hB⟩
   clear h4
   go_wp2
   go_end0
   exact⟨t,rfl,l_,hg,Ht.out,pV,IS.out⟩
def mV (a b:Nat):Int:=if a<b then -1 else if a=b then 0 else 1
theorem Bq {xs ys:List Nat} (hx:fK bf xs) (hy:fK bf ys) (h:nz xs<nz ys):val bf xs<val bf ys:=by
 have h1:=iJ (B:=bf) (by decide) hx;have h2:=iJ (B:=bf) (by decide) hy;exact az (qM (B:=bf) (k:=nz xs) (by decide) (by omega)) (vZ (by decide) (by omega))
theorem oB (B:Nat) (xs:List Nat) (k:Nat) (h:k<=xs.length):val B xs=val B (xs.take k)+B ^ k*val B (xs.drop k):=by
 have:=mD B (xs.take k) (xs.drop k);rw[k_] at this;rw[this,bD,fy h]
theorem Bp {B:Nat} {xs ys:List Nat} {k:Nat} (hx:fK B xs) (hk:k<xs.length) (hk':k<ys.length) (he:xs.drop (k+1)=ys.drop (k+1)) (h:xs.getD k 0<ys.getD k 0):val B xs<val B ys:=by
 rw[oB B xs (k+1) (by omega),oB B ys (k+1) (by omega),he,fH B xs k hk,fH B ys k hk'];have h1:=gZ (hx.take k);rw[bD,fy (by omega)] at h1;have h2:(xs.getD k 0+1)*B ^ k<=ys.getD k 0*B ^ k:=de _ h;rw[cO,Nat.one_mul] at h2
 omega
theorem Cm {xs ys:List Nat} {k:Nat} (hk:k<xs.length) (hk':k<ys.length) (he:xs.drop (k+1)=ys.drop (k+1)) (h:xs.getD k 0=ys.getD k 0):xs.drop k=ys.drop k:=by
 rw[eV hk,eV hk',he]
 congr 1
 simpa [dj,hk,hk'] using h
theorem wM {a b:Nat} (h:a<b):mV a b = -1:=by unfold mV;rw[if_pos h]
theorem Br {a b:Nat} (h:b<a):mV a b=1:=by unfold mV;rw[if_neg (by omega),if_neg (by omega)]
theorem IE {a b:Nat} (h:a=b):mV a b=0:=by unfold mV;rw[if_neg (by omega),if_pos h]
theorem iQ (w:af) (n:Nat) (B:Nat):aB B w (w.drewN n):=⟨rfl,rfl,rfl,ag _,fun _ _=>rfl⟩
theorem rR {P:lB} {f:FuncId} {args:Array ak} {w:af} {a b:Nat} {v:ak} (h:∀ W:af,aV P f args W fun e w'=>e=.returned v/\w'=W) :
  aV P f args (w.drewN (a+b)) fun e w'=>e=.returned v/\∃ m,w'=w.drewN (a+m):=
 (h (w.drewN (a+b))).mono fun _ _ hh=>⟨hh.1,b,hh.2⟩
theorem A2 (w:af):aV aj 145 #[.bool true] w fun e w'=>e=.returned (.int .i64 (-1))/\w'=w:=by
 go_enter Tryz.func145,Tryz.ntmps145
 go_wp2
 go_ret
 exact⟨rfl,rfl⟩
theorem A3 (w:af):aV aj 145 #[.bool false] w fun e w'=>e=.returned (.int .i64 1)/\w'=w:=by
 go_enter Tryz.func145,Tryz.ntmps145
 go_wp2
 go_ret
 exact⟨rfl,rfl⟩
theorem wL (va vb:ak) (xs ys:List Nat) (w:af) (hx:Sl w .u32 va xs) (hy:Sl w .u32 vb ys) (dx:fK bf xs) (dy:fK bf ys) :
  aV aj 96 #[va,vb] w fun e w'=>e=.returned (.int .i64 (mV (val bf xs) (val bf ys)))/\aB w.heap.size w w':=by
 have HX:=aa hx;have HY:=aa hy;obtain⟨ao,ac,rfl,a1,a2,a3,a4⟩:=hx;obtain⟨bo,bc,rfl,b1,b2,b3,b4⟩:=hy;have nx:=jc xs;have ny:=jc ys
 by_cases hne:nz xs=nz ys
 ·have Rn:(((nz xs:Nat):Int) != ((nz ys:Nat):Int))=false:=by simp[hne]
  have HN:=aa hne;clear hne;have hny:nz xs<=nz ys/\nz ys<=nz xs:=by have:=HN.out;omega
  go_enter Tryz.func96,Tryz.ntmps96
  go_wp2_with fail
  refine (eG _ _ _ xs _ HX.out).mono ?_;rintro e w' ⟨rfl,rfl⟩;go_wp2_with fail
  refine (eG _ _ _ ys _ HY.out).mono ?_;rintro e w' ⟨rfl,rfl⟩;go_wp2_with fail
  go_loopw [5] (fun i wr=>∃ k:Nat,k<=nz xs/\i=.int .i64 ((k:Int) - 1)/\Hid ((xs.take (nz xs)).drop k=(ys.take (nz ys)).drop k)/\aB w.heap.size w wr) (fun i _=>(eT i+1).toNat)
  case atStart=>exact⟨nz xs,ag _,rfl,aa (by rw[HN.out,List.drop_eq_nil_of_le (by simp;omega),List.drop_eq_nil_of_le (by simp;omega)]),ax _ _⟩
  case round =>
   obtain⟨k,hk,rfl,HD,hb⟩:=hrel
   by_cases h0:0<k
   ·obtain⟨a,rfl,hca⟩:=a4 (k - 1) (by omega);obtain⟨b,rfl,hcb⟩:=b4 (k - 1) (by omega);have XH:wr.cell? (a.add (k - 1))=some (.int .u32 (nth xs (k - 1))):=by rw[hb.cell (cj hca)];exact hca
    have Lh:wr.cell? (b.add (k - 1))=some (.int .u32 (nth ys (k - 1))):=by rw[hb.cell (cj hcb)];exact hcb
    have gx:(xs.take (nz xs)).getD (k - 1) 0=xs.getD (k - 1) 0:=by simp[dj,show k - 1<nz xs by omega]
    have gy:(ys.take (nz ys)).getD (k - 1) 0=ys.getD (k - 1) 0:=by simp[dj,show k - 1<nz ys by omega]
    have lx:(xs.take (nz xs)).length=nz xs:=by simp;omega
    have ly:(ys.take (nz ys)).length=nz ys:=by simp;omega
    have Td:Hid ((xs.take (nz xs)).drop (k - 1+1)=(ys.take (nz ys)).drop (k - 1+1)):=aa (by rw[show k - 1+1=k by omega];exact HD.out);have GX:=aa gx;have GY:=aa gy;have LX:=aa lx;have LY:=aa ly;clear gx gy lx ly hca hcb a4 b4
    by_cases he:xs.getD (k - 1) 0=ys.getD (k - 1) 0
    ·have he':(nth xs (k - 1) != nth ys (k - 1))=false:=by simp only[nth,he];exact bne_self_eq_false _
     have HE:=aa he;clear he;go_wp2_with fail
     go_quiet (fail)
     go_wp2_with fail
     go_roundw
     case rel=>exact⟨k - 1,by omega,by go_num,aa (Cm (by have:=LX.out;omega) (by have:=LY.out;omega) Td.out (by rw[GX.out,GY.out,HE.out])),hb.trans (iQ _ _ _)⟩
     case measure=>simp[eT];omega
    have he':(nth xs (k - 1) != nth ys (k - 1))=true:=by simp only[nth,bne_iff_ne];omega
    rcases Nat.lt_or_gt_of_ne he with hlt | hgt
    ·have hd:nth xs (k - 1)<nth ys (k - 1):=by unfold nth;omega
     have l_:mV (val bf xs) (val bf ys) = -1:=by
      have:=Bp (B:=bf) (dx.take (nz xs)) (ys:=ys.take (nz ys)) (k:=k - 1) (by have:=LX.out;omega) (by have:=LY.out;omega) Td.out (by rw[GX.out,GY.out];exact hlt);rw[cR (by decide) dx,cR (by decide) dy] at this;exact wM this
     have HF:=aa l_;clear he hlt l_;go_wp2_with fail
     go_quiet (fail)
     go_wp2_with fail
     go_quiet ((go_at_call 145;exact rR A2))
     go_wp2_with fail
     go_ret
     exact⟨by rw[HF.out];rfl,(hb.trans (iQ _ _ _)).trans (iQ _ _ _)⟩
    have hd:nth ys (k - 1)<nth xs (k - 1):=by unfold nth;omega
    have hd':decide (nth xs (k - 1)<nth ys (k - 1))=false:=by simp;omega
    have l_:mV (val bf xs) (val bf ys)=1:=by
     have:=Bp (B:=bf) (dy.take (nz ys)) (ys:=xs.take (nz xs)) (k:=k - 1) (by have:=LY.out;omega) (by have:=LX.out;omega) Td.out.symm (by rw[GX.out,GY.out];exact hgt);rw[cR (by decide) dx,cR (by decide) dy] at this;exact Br this
    have HF:=aa l_;clear he hgt l_;go_wp2_with fail
    go_quiet (fail)
    go_wp2_with fail
    go_quiet ((go_at_call 145;exact (rR A3)))
    go_wp2_with fail
    go_ret
    exact⟨by rw[HF.out];rfl,(hb.trans (iQ _ _ _)).trans (iQ _ _ _)⟩
   have l_:mV (val bf xs) (val bf ys)=0:=by
    have hd:=HD.out;rw[show k=0 by omega,cf,cf] at hd;exact IE (by rw[<-cR (by decide) dx,hd,cR (by decide) dy])
   have HF:=aa l_;clear l_;go_wp2_with fail
   go_ret
   exact⟨by rw[HF.out];rfl,hb⟩
 have Rn:(((nz xs:Nat):Int) != ((nz ys:Nat):Int))=true:=by rw[bne_iff_ne];omega
 rcases Nat.lt_or_gt_of_ne hne with hlt | hgt
 ·have HF:=aa (wM (Bq dx dy hlt));clear hne;go_enter Tryz.func96,Tryz.ntmps96
  go_wp2_with fail
  refine (eG _ _ _ xs _ HX.out).mono ?_;rintro e w' ⟨rfl,rfl⟩;go_wp2_with fail
  refine (eG _ _ _ ys _ HY.out).mono ?_;rintro e w' ⟨rfl,rfl⟩;go_wp2_with fail
  refine (A2 _).mono ?_;rintro e w' ⟨rfl,rfl⟩;go_wp2_with fail
  go_ret
  exact⟨by rw[HF.out];rfl,ax _ _⟩
 have HF:=aa (Br (Bq dy dx hgt));have hd:decide (nz xs<nz ys)=false:=by simp;omega
 clear hne;go_enter Tryz.func96,Tryz.ntmps96
 go_wp2_with fail
 refine (eG _ _ _ xs _ HX.out).mono ?_;rintro e w' ⟨rfl,rfl⟩;go_wp2_with fail
 refine (eG _ _ _ ys _ HY.out).mono ?_;rintro e w' ⟨rfl,rfl⟩;go_wp2_with fail
 refine (A3 _).mono ?_;rintro e w' ⟨rfl,rfl⟩;go_wp2_with fail
 go_ret
 exact⟨by rw[HF.out];rfl,ax _ _⟩
theorem qg {w:af} {k:cy} {v:ak} {xs:List Nat} (h:Sl w k v xs) {g:Nat} (hg:w.heap.size<=g):vJ g v:=by
 obtain⟨ao,cap,rfl,h1,h2,h3,h4⟩:=h;intro a n c e hb;injection e with e1 e2 e3;subst e2;rcases fG xs.length with h0 | h0
 ·exact h0
 obtain⟨a',e,hc⟩:=h4 0 h0;have:=cj hc;rw[e1] at e;injection e with e;subst e;have hb':(a.add 0).block=a.block:=by unfold Addr.add;split<;>rfl
 omega
theorem zu {w:af} {ao:Option cu} {n cap:Nat} {xs:List Nat} (h:Sl w .u32 (.slice ao n cap) xs) (hd:fK bf xs):Sl w .u32 (jg ao cap xs) (fJ bf (val bf xs)):=by
 rw[<-mE (by decide) hd];unfold jg
 by_cases h0:nz xs=0
 ·rw[if_pos h0,h0];exact Sl.nil _ _
 rw[if_neg h0];exact h.take _ (jc xs)
theorem Ws.at {w:af} {k:cy} {T:aZ} {v:ak} {g:Nat} {pre s post:List Nat} (h:Ws w k T v g pre s post):∃ ao cap,v=.slice ao s.length cap:=by
 obtain⟨ao,cap,e,_⟩:=h;exact⟨ao,cap,e⟩
theorem lV (v:ak) (xs:List Nat) (w:af) (h:Sl w .u32 v xs) (hd:fK bf xs) :
  aV aj 138 #[v] w fun e w'=>∃ v',e=.returned v'/\Sl w .u32 v' (fJ bf (val bf xs))/\w=w':=by
 obtain⟨ao,cap,rfl⟩:∃ ao cap,v=.slice ao xs.length cap:=by obtain⟨ao,cap,e,_⟩:=h;exact⟨ao,cap,e⟩
 exact (ry _ _ _ xs _ h).mono fun e w' ⟨he,hw⟩=>⟨_,he,zu h hd,hw⟩
theorem f_ {B:Nat} {a b:af} {g:Nat} (h:a.grownBy b (some g)) (hg:B<=g) (hB:B<=a.heap.size:=by omega):aB B a b:=
 ⟨h.os,h.tape,h.output,h.size,fun k hk=>h.block k (by omega) (fun e=>by injection e with e;omega)⟩
theorem mg (B:Nat) (xs:List Nat) (n:Nat):val B (xs++bI n 0)=val B xs:=by
 rw[mD,kD];simp
theorem IM (va vb:ak) (xs ys:List Nat) (w:af) (hx:Sl w .u32 va xs) (hy:Sl w .u32 vb ys) (dx:fK bf xs) (dy:fK bf ys) (lx:xs.length<=1000000) (ly:ys.length<=1000000) :
  aV aj 97 #[va,vb] w fun e w'=>∃ v,e=.returned v/\Sl w' .u32 v (fJ bf (val bf xs+val bf ys))/\aB w.heap.size w w':=by
 obtain⟨ao,ac,rfl⟩:∃ ao cap,va=.slice ao xs.length cap:=by obtain⟨ao,cap,e,_⟩:=hx;exact⟨ao,cap,e⟩
 obtain⟨bo,bc,rfl⟩:∃ ao cap,vb=.slice ao ys.length cap:=by obtain⟨ao,cap,e,_⟩:=hy;exact⟨ao,cap,e⟩
 have nx:=jc xs;have ny:=jc ys;have hx':=hx.take (nz xs) nx;have hy':=hy.take (nz ys) ny;have EH:=dx.take (nz xs);have Fz:=dy.take (nz ys);have ex:(xs.take (nz xs)).length=nz xs:=by simp;omega
 have ey:(ys.take (nz ys)).length=nz ys:=by simp;omega
 have EX:=aa ex;have EY:=aa ey;clear ex ey
 -- what stands behind the two cuts, for the longer one first
 have fin:∀ (s s' zs:List Nat),fK bf s->fK bf zs->zs.length<=s.length->s'.length=s.length+1->fK bf s'->val bf s'=(val bf (s++bI 1 0)+val bf zs) % bf ^ (s.length+1)->val bf s+val bf zs=val bf xs+val bf ys ->
   fJ bf (val bf s')=fJ bf (val bf xs+val bf ys):=by
  intro s s' zs h1 h2 h3 h4 h5 h6 h7;rw[h6,mg,h7];rw[ij];rw[<-h7];have a1:=gZ h1;have a2:=gZ h2;have a3:bf ^ zs.length<=bf ^ s.length:=dc (by decide) h3;rw[cG];have:bf ^ s.length*2<=bf ^ s.length*bf:=ru _ (by decide)
  omega
 have vx:=cR (B:=bf) (by decide) dx;have vy:=cR (B:=bf) (by decide) dy;have VX:=aa vx;have VY:=aa vy;clear vx vy;have V5:=aa fin;clear fin
 by_cases hlt:nz xs<nz ys
 ·go_enter Tryz.func97,Tryz.ntmps97
  go_wp2_with fail
  refine (eG _ _ _ xs _ hx).mono ?_;rintro e w' ⟨rfl,rfl⟩;go_wp2_with fail
  refine (eG _ _ _ ys _ hy).mono ?_;rintro e w' ⟨rfl,rfl⟩;go_wp2_with fail
  refine (mI bo _ bc _ (nz ys+1) _ w hy' (by rw[EY.out];omega) (by omega) (by omega)).mono ?_;rintro e w1 ⟨v1,rfl,hs1,gp,iq⟩;have hsz:=iq (by omega);go_wp2_with fail
  refine (vD w.heap.size [] _ [] _ _ _ w1 hs1 (hx'.below gp) (qg hx' (ag _)) ?_ (Fz.append (fK.replicate (by decide) _)) EH).mono ?_
  ·rw[EX.out,dB,EY.out];simp;omega
  rintro e w2 ⟨s',rfl,KZ,oW,zU,Lf,qP⟩;have e_:aB w.heap.size w w2:=gp.trans (f_ oW (ag _));have MN:=aa zU;have xm:=aa qP;clear zU qP;have Rh:=KZ.sl;go_wp2_with fail
  refine (lV _ s' _ Rh Lf).mono ?_;rintro e w3 ⟨v3,rfl,ht,rfl⟩;go_wp2_with fail
  go_ret
  refine⟨_,rfl,?_,e_⟩;have hl:=MN.out;have hv:=xm.out;rw[dB,EY.out] at hl hv;rw[show nz ys+1 - nz ys=1 by omega] at hl hv;simp only[fX] at hl hv;rw[V5.out (ys.take (nz ys)) s' (xs.take (nz xs)) Fz EH (by rw[EX.out,EY.out];omega) (by rw[EY.out];exact hl) Lf (by rw[EY.out];exact hv) (by have h1:=VX.out;have h2:=VY.out;omega)] at ht;exact ht
 go_enter Tryz.func97,Tryz.ntmps97
 go_wp2_with fail
 refine (eG _ _ _ xs _ hx).mono ?_;rintro e w' ⟨rfl,rfl⟩;go_wp2_with fail
 refine (eG _ _ _ ys _ hy).mono ?_;rintro e w' ⟨rfl,rfl⟩;go_wp2_with fail
 refine (mI ao _ ac _ (nz xs+1) _ w hx' (by rw[EX.out];omega) (by omega) (by omega)).mono ?_;rintro e w1 ⟨v1,rfl,hs1,gp,iq⟩;have hsz:=iq (by omega);go_wp2_with fail
 refine (vD w.heap.size [] _ [] _ _ _ w1 hs1 (hy'.below gp) (qg hy' (ag _)) ?_ (EH.append (fK.replicate (by decide) _)) Fz).mono ?_
 ·rw[EY.out,dB,EX.out];simp;omega
 rintro e w2 ⟨s',rfl,KZ,oW,zU,Lf,qP⟩;have e_:aB w.heap.size w w2:=gp.trans (f_ oW (ag _));have MN:=aa zU;have xm:=aa qP;clear zU qP;have Rh:=KZ.sl;go_wp2_with fail
 refine (lV _ s' _ Rh Lf).mono ?_;rintro e w3 ⟨v3,rfl,ht,rfl⟩;go_wp2_with fail
 go_ret
 refine⟨_,rfl,?_,e_⟩;have hl:=MN.out;have hv:=xm.out;rw[dB,EX.out] at hl hv;rw[show nz xs+1 - nz xs=1 by omega] at hl hv;simp only[fX] at hl hv;rw[V5.out (xs.take (nz xs)) s' (ys.take (nz ys)) EH Fz (by rw[EX.out,EY.out];omega) (by rw[EX.out];exact hl) Lf (by rw[EX.out];exact hv) (by have h1:=VX.out;have h2:=VY.out;omega)] at ht;exact ht
theorem eJ {w:af} {k:cy} {v:ak} {xs:List Nat} (h:Sl w k v xs):∃ ao cap,v=.slice ao xs.length cap:=by
 obtain⟨ao,cap,e,_⟩:=h;exact⟨ao,cap,e⟩
theorem sub_lt (va vb:ak) (xs ys:List Nat) (w:af) (hx:Sl w .u32 va xs) (hy:Sl w .u32 vb ys) (dx:fK bf xs) (dy:fK bf ys) (hlt:val bf xs<val bf ys) :
  aV aj 98 #[va,vb] w fun e w'=>e=.returned (.tuple #[.slice none 0 0,.bool false])/\aB w.heap.size w w':=by
 obtain⟨ao,ac,rfl⟩:=eJ hx;obtain⟨bo,bc,rfl⟩:=eJ hy;have hx':=hx.take (nz xs) (jc xs);have hy':=hy.take (nz ys) (jc ys);have HC:=aa (show mV (val bf (xs.take (nz xs))) (val bf (ys.take (nz ys))) = -1 by rw[cR (by decide) dx,cR (by decide) dy];exact wM hlt);go_enter Tryz.func98,Tryz.ntmps98
 go_wp2_with fail
 refine (eG _ _ _ xs _ hx).mono ?_;rintro e w' ⟨rfl,rfl⟩;go_wp2_with fail
 refine (eG _ _ _ ys _ hy).mono ?_;rintro e w' ⟨rfl,rfl⟩;go_wp2_with fail
 refine (wL _ _ _ _ _ hx' hy' (dx.take _) (dy.take _)).mono ?_;rintro e w' ⟨rfl,hb⟩;rw[HC.out];go_wp2_with fail
 go_ret2
 exact⟨rfl,hb⟩
theorem Kt (va vb:ak) (xs ys:List Nat) (w:af) (hx:Sl w .u32 va xs) (hy:Sl w .u32 vb ys) (dx:fK bf xs) (dy:fK bf ys) (lx:xs.length<=1000000) (hge:val bf ys<=val bf xs) :
  aV aj 98 #[va,vb] w fun e w'=>∃ v,e=.returned (.tuple #[v,.bool true])/\Sl w' .u32 v (fJ bf (val bf xs - val bf ys))/\aB w.heap.size w w':=by
 obtain⟨ao,ac,rfl⟩:=eJ hx;obtain⟨bo,bc,rfl⟩:=eJ hy;have nx:=jc xs;have hx':=hx.take (nz xs) nx;have hy':=hy.take (nz ys) (jc ys);have EH:=dx.take (nz xs);have Fz:=dy.take (nz ys);have EX:=aa (show (xs.take (nz xs)).length=nz xs by simp;omega);have VX:=aa (cR (B:=bf) (by decide) dx);have VY:=aa (cR (B:=bf) (by decide) dy)
 have hc:0<=mV (val bf (xs.take (nz xs))) (val bf (ys.take (nz ys))):=by
  rw[VX.out,VY.out];unfold mV;rw[if_neg (by omega)];split<;>omega
 have hlen:(ys.take (nz ys)).length<=nz xs:=by
  rw[<-iJ (B:=bf) (by decide) dx,<-mU (by decide) dy]
  exact gm (by decide) (by
   have h1:=gZ (ng (B:=bf) (by decide) (val bf xs));rw[jQ (by decide)] at h1
   omega)
 go_enter Tryz.func98,Tryz.ntmps98
 go_wp2_with fail
 refine (eG _ _ _ xs _ hx).mono ?_;rintro e w' ⟨rfl,rfl⟩;go_wp2_with fail
 refine (eG _ _ _ ys _ hy).mono ?_;rintro e w' ⟨rfl,rfl⟩;go_wp2_with fail
 refine (wL _ _ _ _ _ hx' hy' EH Fz).mono ?_;rintro e w0 ⟨rfl,hb0⟩;go_wp2_with fail
 refine (mI ao _ ac _ (nz xs) _ w0 (hx'.below hb0) (by rw[EX.out];omega) (by omega) (by omega)).mono ?_;rintro e w1 ⟨v1,rfl,hs1,gp,iq⟩;have Ln:aB w.heap.size w w1:=hb0.trans (gp.mono hb0.size);go_wp2_with fail
 have HV:=aa (show val bf (xs.take (nz xs)++bI (nz xs - (xs.take (nz xs)).length) 0)=val bf xs by rw[mg,VX.out]);refine (xA w0.heap.size [] _ [] _ _ _ w1 hs1 (hy'.below Ln) (qg (hy'.below hb0) (ag _)) (by rw[dB,fX,EX.out];omega) (EH.append (fK.replicate (by decide) _)) Fz (by rw[HV.out,VY.out];exact hge)).mono ?_;rintro e w2 ⟨s',rfl,KZ,oW,zU,Lf,qP⟩;have e_:aB w.heap.size w w2:=Ln.trans (f_ oW hb0.size Ln.size);have xm:=aa (show val bf s'=val bf xs - val bf ys by rw[qP,HV.out,VY.out]);clear zU qP;go_wp2_with fail
 refine (lV _ s' _ KZ.sl Lf).mono ?_;rintro e w3 ⟨v3,rfl,ht,rfl⟩;go_wp2_with fail
 go_ret2
 refine⟨_,rfl,?_,e_⟩;rw[xm.out] at ht;exact ht
theorem xx (va:ak) (xs:List Nat) (w:af) (hx:Sl w .u32 va xs) (dx:fK bf xs) (lx:xs.length<=1000000) :
  aV aj 110 #[va] w fun e w'=>∃ v,e=.returned v/\Ws w' .u32 153 v w.heap.size [] (fJ bf (val bf xs)) []/\aB w.heap.size w w':=by
 obtain⟨ao,ac,rfl⟩:=eJ hx;have nx:=jc xs;have hx':=hx.take (nz xs) nx;have EX:=aa (show (xs.take (nz xs)).length=nz xs by simp;omega);go_enter Tryz.func110,Tryz.ntmps110
 go_wp2_with fail
 refine (eG _ _ _ xs _ hx).mono ?_;rintro e w' ⟨rfl,rfl⟩;go_wp2_with fail
 refine (mI ao _ ac _ (nz xs) _ w hx' (by rw[EX.out];omega) (by omega) (by omega)).mono ?_;rintro e w1 ⟨v1,rfl,hs1,gp,iq⟩;go_wp2_with fail
 go_ret
 refine⟨_,rfl,?_,gp⟩;rw[EX.out,Nat.sub_self,List.replicate_zero,dG,mE (by decide) dx] at hs1;exact hs1
theorem KI (n:Nat) (z:Int) (w:af) (hz:z=(n:Int)) (hn:n<18446744073709551616) :
  aV aj 91 #[.int .u64 z] w fun e w'=>∃ v,e=.returned v/\Sl w' .u32 v (fJ bf n)/\aB w.heap.size w w':=by
 have h0:0<=z/\z<18446744073709551616:=by omega
 have hB:qD (w.alloc (.cells #[.int .u32 (z % 4294967296),.int .u32 (z / 4294967296)] 153)) w.heap.size .u32 153 [n % bf,n / bf]:=by
  unfold qD;rw[bz,hz]
  rfl
 have hS:=hB.sl 0 2 2 (by simp) (by omega) (by omega)
 have hD:fK bf [n % bf,n / bf]:=by
  intro x hx;rcases List.mem_cons.1 hx with rfl | hx
  ·exact ig _ (by decide)
  obtain rfl:=List.mem_singleton.1 hx;exact fN (by omega)
 have hV:val bf [n % bf,n / bf]=n:=by
  have h:=Nat.mod_add_div n bf;simp only[val,Nat.mul_zero,pe];exact h
 have HV:=aa hV;clear hV hz;go_enter Tryz.func91,Tryz.ntmps91
 go_wp2_with fail
 refine (lV _ [n % bf,n / bf] _ hS hD).mono ?_;rintro e w3 ⟨v3,rfl,ht,rfl⟩;go_wp2_with fail
 go_ret
 refine⟨_,rfl,?_,(ax _ _).alloc (ag _) _⟩;rw[HV.out] at ht;exact ht
def zM:ak->Nat | .slice _ n _=>n | _=>0
theorem yq {xs:List Nat} {i:Nat} (h:xs.length<=i):xs.getD i 0=0:=by simp[dj,h]
theorem nO (B:Nat) (xs:List Nat) (k:Nat):val B (xs.take (k+1))=val B (xs.take k)+xs.getD k 0*B ^ k:=by
 by_cases h:k<xs.length
 ·exact fH B xs k h
 rw[yq (by omega),eH (by omega),eH (by omega)];simp
theorem yE {B n:Nat} (hB:2<=B) (h:0<(fJ B n).length):(fJ B n).getD ((fJ B n).length - 1) 0≠0:=by
 intro h0;have h1:=mE hB (ng hB n);rw[jQ hB] at h1;have h2:=congrArg cW h1;rw[bD] at h2;have h3:=vX (xs:=fJ B n) (k:=(fJ B n).length - 1) (by omega) h0;rw[show (fJ B n).length - 1+1=(fJ B n).length by omega,cz] at h3;have h4:=jc ((fJ B n).take ((fJ B n).length - 1));rw[bD] at h4
 omega
end Go.Proofs.YtoncclhbdkjhmaaGreatDoor
namespace Go.Proofs
open Go.Shelf
def Tryz.rK:nA:=⟨fun | 169=>68 | n=>n,fun | 70=>107 | 9=>9 | 0=>0 | 72=>109 | 37=>99 | 127=>159 | 3=>3 | 5=>5 | n=>n,fun | n=>n⟩
theorem Tryz.Hi:Go.Proofs.Lays.n169 aj Tryz.rK:={
 mixed:=by kernel_rfl
 f169:=Tryz.func68.trans (congrArg some (by kernel_rfl))
 t0:=uC
 a0:=Tryz.isAgg0
 z0:=Tryz.sizeOf0
 v0:=Tryz.zeroValue0
 t3:=jO
 a3:=Tryz.isAgg3
 z3:=oS
 v3:=k9
 t9:=eF
 a9:=Tryz.isAgg9
 z9:=oQ
 v9:=k6
 t37:=jW
 a37:=Tryz.isAgg99
 z37:=Tryz.sizeOf99
 v37:=Tryz.zeroValue99
 t70:=Tryz.underlying107
 a70:=Tryz.isAgg107
 z70:=Tryz.sizeOf107
 v70:=Tryz.zeroValue107
 t72:=Tryz.underlying109
 a72:=Tryz.isAgg109
 z72:=Tryz.sizeOf109
 v72:=Tryz.zeroValue109
 t127:=Tryz.underlying159
 a127:=Tryz.isAgg159
 z127:=Tryz.sizeOf159
 v127:=Tryz.zeroValue159 }
theorem Tryz.qC:Builder.Extra aj Tryz.rK:={
 sizeBuilder:=by kernel_rfl
 liesBuilder:=by kernel_rfl
 t5:=jN
 a5:=Tryz.isAgg5
 z5:=Tryz.sizeOf5
 v5:=o8
 infoByte:=by kernel_rfl
 cellsByte:=by kernel_rfl
 sizeByte:=by kernel_rfl
 neB5:=by decide }
open Go.RowKit in
theorem Tryz.Builder_String_any (B b:Nat) (l:List UInt8) (w:af) (h:Lib.IsBuilder 109 5 B b (cH l) w) (hBw:B<=w.heap.size) :
  aV aj 68 #[.pointer (some ⟨b,0,none⟩)] w fun e w'=>e=.returned (.string ⟨l.toArray⟩)/\aB B w w':=Any.Builder_String_any Tryz.Hi Tryz.qC B b l w h hBw
def Tryz.xR:nA:=⟨fun | 128=>154 | n=>n,fun | 51=>153 | 3=>3 | 4=>4 | 46=>183 | 5=>5 | 9=>9 | n=>n,fun | n=>n⟩
theorem Tryz.Hj:Go.Proofs.Lays.n128 aj Tryz.xR:={
 mixed:=by kernel_rfl
 f128:=Tryz.func154.trans (congrArg some (by kernel_rfl))
 t3:=jO
 a3:=Tryz.isAgg3
 z3:=oS
 v3:=k9
 t4:=nK
 a4:=Tryz.isAgg4
 z4:=Tryz.sizeOf4
 v4:=o_
 t5:=jN
 a5:=Tryz.isAgg5
 z5:=Tryz.sizeOf5
 v5:=o8
 t9:=eF
 a9:=Tryz.isAgg9
 z9:=oQ
 v9:=k6
 t46:=Tryz.underlying183
 a46:=Tryz.isAgg183
 z46:=Tryz.sizeOf183
 v46:=Tryz.zeroValue183
 t51:=FO
 a51:=Tryz.isAgg153
 z51:=Tryz.sizeOf153
 v51:=Tryz.zeroValue153 }
theorem Tryz.bits_Len32 (x:Int) (w:af) (h0:0<=x) (h1:x<=4294967295) :
  aV aj 154 #[.int .u32 x] w fun e w'=>e=.returned (.int .i64 (Lib.bitLen x.toNat))/\w'=w:=Any.bits_Len32 Tryz.Hj x w h0 h1
def Tryz.xQ:nA:=⟨fun | 283=>198 | n=>n,fun | 3=>3 | 9=>9 | 4=>4 | n=>n,fun | n=>n⟩
theorem Tryz.Hh:Go.Proofs.Lays.n283 aj Tryz.xQ:={
 mixed:=by kernel_rfl
 f283:=Tryz.func198.trans (congrArg some (by kernel_rfl))
 t3:=jO
 a3:=Tryz.isAgg3
 z3:=oS
 v3:=k9
 t4:=nK
 a4:=Tryz.isAgg4
 z4:=Tryz.sizeOf4
 v4:=o_
 t9:=eF
 a9:=Tryz.isAgg9
 z9:=oQ
 v9:=k6 }
open Go.Lib in
theorem Tryz.internal_strconv_small (i:Nat) (h:i<100) (w:af) :
  aV aj 198 #[.int .i64 i] w fun e w'=>e=.returned (.string ⟨(aO i).toArray⟩)/\w'=w:=Any.internal_strconv_small Tryz.Hh i h w
def Tryz.v7:nA:=⟨fun | 284=>199 | 129=>217 | 317=>218 | 318=>219 | n=>n,fun | 53=>130 | 3=>3 | 212=>256 | 0=>0 | 4=>4 | 46=>183 | 5=>5 | 9=>9 | n=>n,fun | 17=>3 | n=>n⟩
theorem Tryz.DL:Go.Proofs.LaysM.n284 aj Tryz.v7:={
 mixed:=by kernel_rfl
 f129:=Tryz.func217.trans (congrArg some (by kernel_rfl))
 f284:=Tryz.func199.trans (congrArg some (by kernel_rfl))
 f317:=Tryz.func218.trans (congrArg some (by kernel_rfl))
 f318:=Tryz.func219.trans (congrArg some (by kernel_rfl))
 t0:=uC
 a0:=Tryz.isAgg0
 z0:=Tryz.sizeOf0
 v0:=Tryz.zeroValue0
 t3:=jO
 a3:=Tryz.isAgg3
 z3:=oS
 v3:=k9
 t4:=nK
 a4:=Tryz.isAgg4
 z4:=Tryz.sizeOf4
 v4:=o_
 t5:=jN
 a5:=Tryz.isAgg5
 z5:=Tryz.sizeOf5
 v5:=o8
 t9:=eF
 a9:=Tryz.isAgg9
 z9:=oQ
 v9:=k6
 t46:=Tryz.underlying183
 a46:=Tryz.isAgg183
 z46:=Tryz.sizeOf183
 v46:=Tryz.zeroValue183
 t53:=Tryz.underlying130
 a53:=Tryz.isAgg130
 z53:=Tryz.sizeOf130
 v53:=Tryz.zeroValue130
 t212:=Tryz.underlying256
 a212:=Tryz.isAgg256
 z212:=Tryz.sizeOf256
 v212:=Tryz.zeroValue256
 g17:=by kernel_rfl
 i0:=by kernel_rfl
 i3:=by kernel_rfl
 i4:=by kernel_rfl
 i5:=by kernel_rfl
 i9:=by kernel_rfl
 i46:=by kernel_rfl
 i53:=by kernel_rfl
 i212:=by kernel_rfl
 m17:=by kernel_rfl }
open Go.Lib in
theorem Tryz.internal_strconv_numDigits (u : Nat) (h1 : 1 ≤ u) (h2 : u < 18446744073709551616) (w : af) (htab : jY aj w "internal/strconv.uint64pow10" .u64 lJ) :
  aV aj 199 #[.int .u64 u] w fun e w'=>e=.returned (.int .i64 (jf u))/\w'=w:=Any.internal_strconv_numDigits Tryz.DL u h1 h2 w htab
def Tryz.xP:nA:=⟨fun | 285=>200 | n=>n,fun | 37=>99 | 53=>130 | 3=>3 | 4=>4 | 51=>153 | 9=>9 | 5=>5 | 0=>0 | n=>n,fun | n=>n⟩
theorem Tryz.Hf:Go.Proofs.Lays.n285 aj Tryz.xP:={
 mixed:=by kernel_rfl
 f285:=Tryz.func200.trans (congrArg some (by kernel_rfl))
 t0:=uC
 a0:=Tryz.isAgg0
 z0:=Tryz.sizeOf0
 v0:=Tryz.zeroValue0
 t3:=jO
 a3:=Tryz.isAgg3
 z3:=oS
 v3:=k9
 t4:=nK
 a4:=Tryz.isAgg4
 z4:=Tryz.sizeOf4
 v4:=o_
 t5:=jN
 a5:=Tryz.isAgg5
 z5:=Tryz.sizeOf5
 v5:=o8
 t9:=eF
 a9:=Tryz.isAgg9
 z9:=oQ
 v9:=k6
 t37:=jW
 a37:=Tryz.isAgg99
 z37:=Tryz.sizeOf99
 v37:=Tryz.zeroValue99
 t51:=FO
 a51:=Tryz.isAgg153
 z51:=Tryz.sizeOf153
 v51:=Tryz.zeroValue153
 t53:=Tryz.underlying130
 a53:=Tryz.isAgg130
 z53:=Tryz.sizeOf130
 v53:=Tryz.zeroValue130 }
open Go.RowKit Go.Sort Go.Lib in
theorem Tryz.internal_strconv_formatBase10 (blk off cap:Nat) (u:Nat) (d:Array UInt8) (w:af) (hH:Holds (fun (b:UInt8)=>dz .u8 (b.toNat:Int)) w blk off d) (hu:u<10 ^ d.size) (hu64:u<18446744073709551616) (hsz:d.size<4611686018427387904) :
  aV aj 200 #[.slice (some ⟨blk,off,none⟩) d.size cap,.int .u64 u] w fun e w' =>
   e=.returned (.tuple #[])/\∃ (n v':Nat) (dk:Array UInt8),w'=(putRow (fun (b:UInt8)=>dz .u8 (b.toNat:Int)) w blk off dk).drewN n/\FmtInv d.size u 0 v' dk:=Any.internal_strconv_formatBase10 Tryz.Hf blk off cap u d w hH hu hu64 hsz
end Go.Proofs
namespace Go.Proofs.YtoncclhbdkjhmaaGreatDoor
open Go.RowKit
set_option maxRecDepth 100000
def jJ (r x:Nat):Nat:=r*4294967296+x
def nr (r x:Nat):Int:=((jJ r x:Nat):Int)
theorem GK {r x:Nat} (hr:r<4294967296) (hx:x<4294967296):bits BinOp.or IntKind.u64 ((r:Int)*4294967296) (x:Int)=nr r x:=by
 have h1:(r:Int)*4294967296=((r*4294967296:Nat):Int):=by simp
 rw[h1,u64_or_nat _ _ (by omega) (by omega),nat_join 32 _ _ (by omega) (by omega)];rfl
theorem xV {r x:Nat} (hr:r<4294967296) (hx:x<4294967296):0<=nr r x/\nr r x<18446744073709551616:=by unfold nr jJ;omega
theorem DT {r x d:Nat} (hr:r<d) (hx:x<4294967296):jJ r x / d<4294967296:=by
 apply fN
 unfold jJ;have:(r+1)*4294967296<=d*4294967296:=de _ hr
 omega
theorem wH {t s:List Nat} {k r d:Nat} (hk:k<t.length) (hl:t.length=s.length) (ht:t.take (k+1)=s.take (k+1)) (hv:val bf (t.drop (k+1))*d+r=val bf (s.drop (k+1))) :
  (t.set k (jJ r (t.getD k 0) / d)).take k=s.take k/\val bf ((t.set k (jJ r (t.getD k 0) / d)).drop k)*d+jJ r (t.getD k 0) % d=val bf (s.drop k):=by
 have hks:k<s.length:=by omega
 have e1:t.getD k 0=s.getD k 0:=by
  have:=congrArg (fun l=>l.getD k 0) ht
  simpa [dj] using this
 refine⟨?_,?_⟩
 ·rw[List.take_set_of_le (ag k)];have:=congrArg (List.take k) ht;rw[List.take_take,List.take_take,fy (by omega)] at this;exact this
 rw[eV (by simpa using hk),List.drop_set_of_lt (by omega),eV hks];simp only[val,List.getElem_set_self];rw[<-hv];have e2:s[k]=s.getD k 0:=by simp[dj,hks]
 rw[e2,<-e1];have h:=Nat.div_add_mod (jJ r (t.getD k 0)) d;have hj:jJ r (t.getD k 0)=r*bf+t.getD k 0:=rfl;generalize jJ r (t.getD k 0) / d=q at *;generalize jJ r (t.getD k 0) % d=m at *;rw[hj] at h
 grind
theorem yD (g:Nat) (pre s post:List Nat) (vs:ak) (d:Nat) (z:Int) (w:af) (hw:Ws w .u32 153 vs g pre s post) (hs:fK bf s) (hz:z=(d:Int)) (Io:0<d) (hd1:d<4294967296) :
  aV aj 156 #[vs,.int .u32 z] w fun e w'=>∃ s',e=.returned (.int .u32 ((val bf s % d:Nat):Int))/\Ws w' .u32 153 vs g pre s' post/\w.grownBy w' (some g)/\s'.length=s.length/\fK bf s' /\
   val bf s'=val bf s / d:=by
 subst hz;obtain⟨ao,cap,rfl,h1,h2,h3,h4⟩:=hw;go_enter Tryz.func156,Tryz.ntmps156
 go_wp2
 go_loopw [5,6] (fun c i wr=>∃ (k:Nat) (t:List Nat) (r:Nat),i=.int .i64 ((k:Int) - 1)/\c=.int .u64 (r:Int)/\r<d/\k<=s.length/\w.grownBy wr (some g)/\Hid (t.length=s.length)/\fK 4294967296 t /\
   Cv wr .u32 153 ao g pre t post s.length/\Hid (t.take k=s.take k)/\Hid (val bf (t.drop k)*d+r=val bf (s.drop k)))
  (fun _ i _=>(eT i+1).toNat)
 case atStart=>exact⟨s.length,s,0,rfl,rfl,Io,by omega,aE _ _,aa rfl,hs,h4,aa rfl,aa (by simp[val])⟩
 case round =>
  obtain⟨k,t,r,rfl,rfl,hr,hk,hg,Ht,pV,hB,HT,HV⟩:=hrel
  by_cases h0:0<k
  ·obtain⟨rfl,qV⟩:=hB (by omega);have lZ:k - 1<t.length:=by have:=Ht.out;omega
   have hct:wr.cell? ⟨g,pre.length+(k - 1),none⟩=some (.int .u32 (nth t (k - 1))):=by
    rw[qV.cell (by simp;omega),mK _ _ _ _ lZ]
   have hft:=qV.frozen (pre.length+(k - 1));have t1:=pV.getD (by omega) (k - 1);obtain⟨x,hx⟩:∃ x,x=t.getD (k - 1) 0:=⟨_,rfl⟩
   have T8:nth t (k - 1)=(x:Int):=by rw[hx];rfl
   rw[<-hx] at t1;have zT:=GK (r:=r) (x:=x) (by omega) t1;have hjb:=xV (r:=r) (x:=x) (by omega) t1;have Ri:=DT hr t1
   have hq:0<=nr r x / (d:Int)/\nr r x / (d:Int)<4294967296:=by
    have:nr r x / (d:Int)=((jJ r x / d:Nat):Int):=by unfold nr;simp
    rw[this];exact⟨Int.natCast_nonneg _,Int.ofNat_lt.2 Ri⟩
   have HS:=aa (wH (t:=t) (s:=s) (k:=k - 1) (r:=r) (d:=d) lZ Ht.out (by rw[show k - 1+1=k by omega];exact HT.out) (by rw[show k - 1+1=k by omega];exact HV.out));rw[<-hx] at HS;have HQ:=aa Ri;have hm0:nr r x % (d:Int)=((jJ r x % d:Nat):Int):=by unfold nr;simp
   have N8:nr r x / (d:Int)=((jJ r x / d:Nat):Int):=by unfold nr;simp
   have HM:=aa hm0;have HD:=aa N8;rw[T8] at hct;clear hB h4 Ri hm0 N8 hx T8
   go_wp2
   go_roundw
   case rel =>
    refine⟨k - 1,t.set (k - 1) (jJ r x / d),jJ r x % d,by go_num,by rw[<-HM.out],ig _ Io,by omega,aD hg _,aa (by rw[cP];exact Ht.out),pV.set HQ.out,fun _=>⟨rfl,?_⟩,aa HS.out.1,aa HS.out.2⟩;rw[<-mF _ _ _ _ _ lZ];exact qV.set _ _ _ HD.out
   case measure=>simp[eT];omega
  have n_:k=0:=by omega
  subst n_;have hv:=HV.out;simp only[cf] at hv;have e1:val bf s % d=r:=by rw[<-hv,Nat.mul_add_mod_self_right,ij hr]
  have e2:val bf t=val bf s / d:=by rw[<-hv,Nat.add_comm,Nat.add_mul_div_right _ _ Io,Nat.div_eq_of_lt hr,gh]
  have E1:=aa e1;have E2:=aa e2;have l_:Ws wr .u32 153 (.slice ao s.length cap) g pre t post:=⟨ao,cap,by rw[Ht.out],by rw[Ht.out];exact h1,h2,h3,by rw[Ht.out];exact hB⟩
  clear e1 e2 hv h4
  go_wp2
  go_ret
  exact⟨t,by rw[E1.out];rfl,l_,hg,Ht.out,pV,E2.out⟩
theorem infoByte:(Tryz.prog.info? 5).map (fun i=>(i.zero,i.size,i.bytes))=some (some (.int .u8 0),1,1):=by kernel_rfl
theorem Ba:(Tryz.prog.info? 109).map (·.size)=some 2:=by kernel_rfl
theorem G':liesAt aj Tryz.prog.depth 109 (2 / Tryz.prog.cellsOf 109) 0 109 1=true:=by kernel_rfl
set_option maxRecDepth 100000 in
theorem oh (b:Nat) (w:af) (h0:w.cell? ⟨b,0,none⟩=some (.pointer (some ⟨b,0,none⟩))) :
  aV aj 150 #[.pointer (some ⟨b,0,none⟩)] w fun e w'=>e=.returned (.tuple #[])/\w=w':=by
 obtain⟨j,hj,_⟩:=Option.map_eq_some_iff.1 Ba;have hne:=Lib.run_neq_ptr_same (P:=aj) w ⟨b,0,none⟩ Tryz.underlying107 hj;go_enter Tryz.func150,Tryz.ntmps150
 go_wp2
 go_end0
 exact⟨rfl,rfl⟩
set_option maxRecDepth 100000 in
theorem nw (b:Nat) (w:af) (h0:w.cell? ⟨b,0,none⟩=some (.pointer none)) (hsh:w.shape? b=some (109,2)) (hfz:w.frozen? ⟨b,0,none⟩=false) :
  aV aj 150 #[.pointer (some ⟨b,0,none⟩)] w fun e w'=>e=.returned (.tuple #[])/\w.setCell ⟨b,0,none⟩ (.pointer (some ⟨b,0,none⟩))=w':=by
 obtain⟨j,hj,rX⟩:=Option.map_eq_some_iff.1 Ba;have h1:=Lib.run_to_unsafe (P:=aj) w ⟨b,0,none⟩ Tryz.underlying107 Tryz.underlying220 hj (by rw[rX];decide) hsh (Nat.zero_lt_succ 1);have h2:=run_callFunc_extern (P:=aj) (w:=w) (args:=#[.pointer (some ⟨b,0,none⟩)]) Tryz.func182 (by kernel_rfl) (by kernel_rfl) (by kernel_rfl) (e:=Extern.AbiNoEscape.same) (by kernel_rfl);have h3:=Lib.run_noEscape (P:=aj) w (.pointer (some ⟨b,0,none⟩));have h4:=Lib.run_from_unsafe (P:=aj) w ⟨b,0,none⟩ Tryz.underlying220 Tryz.underlying107 hj hsh G';go_enter Tryz.func150,Tryz.ntmps150
 go_wp2
 go_end0
 exact⟨rfl,rfl⟩
def pX (B b:Nat) (l:List UInt8) (w:af):Prop:=Lib.IsBuilder 109 5 B b (cH l) w
theorem pX.at {B b:Nat} {l:List UInt8} {w:af} (h:pX B b l w):∃ p v,w.heap[b]?=some (.cells #[p,v] 109 (0,0))/\w.ownsRow B 5 1 v l.length (cH l)/\v.ownBlock≠some b/\B<=b/\(p=.pointer none\/p=.pointer (some ⟨b,0,none⟩)):=by
 rcases h with ⟨hB,v,h1,h2,h3⟩ | ⟨hB,v,h1,h2,h3⟩
 ·exact⟨_,v,h1,by simpa [mu] using h2,h3,hB,.inl rfl⟩
 exact⟨_,v,h1,by simpa [mu] using h2,h3,hB,.inr rfl⟩
theorem pX.below {B b:Nat} {l:List UInt8} {w w':af} (h:pX B b l w) (hb:aB w.heap.size w w'):pX B b l w':=by
 have go:∀ p,Lib.BuilderAt 109 5 B b p (cH l) w->Lib.BuilderAt 109 5 B b p (cH l) w':=by
  intro p ⟨hB,v,h1,h2,h3⟩;have hlt:=ae h1;exact⟨hB,v,by rw[hb.block b hlt];exact h1,iU h2 ⟨hb.os,hb.tape,hb.output,hb.size,fun j hj _=>hb.block j hj⟩ (by cases hv:v.ownBlock with | none=>exact .inl rfl | some g=>exact .inr (show some g≠none by simp)),h3⟩
 rcases h with h | h
 ·exact .inl (go _ h)
 exact .inr (go _ h)
theorem nS (l m:List UInt8):cH l++Lib.strCells ⟨m.toArray⟩=cH (l++m):=by
 simp[cH,Lib.strCells]
set_option maxRecDepth 100000 in
theorem ni (B b:Nat) (l m:List UInt8) (sv:ByteArray) (w:af) (h:pX B b l w) (hs:sv=⟨m.toArray⟩) (hlen:l.length+m.length<=1000000) (hBw:B<=w.heap.size) :
  aV aj 100 #[.pointer (some ⟨b,0,none⟩),.string sv] w fun e w'=>∃ v,e=.returned v/\pX B b (l++m) w'/\aB B w w':=by
 obtain⟨i0,hi,hz0,iq,mP⟩:=rm infoByte;have hsz:sv.size=m.length:=by subst hs;rfl
 obtain⟨p,v,hbk,hown,hne,CM,hp⟩:=h.at;have hlt:=ae hbk
 -- behind copyCheck
 have rest:∀ w1:af,w1.heap[b]?=some (.cells #[.pointer (some ⟨b,0,none⟩),v] 109 (0,0))->w1.ownsRow B 5 1 v l.length (cH l)->aB B w w1->True:=fun _ _ _ _=>trivial
 clear rest;have HS:=aa hs;have r6:=aa hsz;clear hs;have Xg:sv.size<=m.length:=by omega
 clear hsz
 have cc:aV aj 150 #[.pointer (some ⟨b,0,none⟩)] w fun e w1=>e=.returned (.tuple #[])/\w1.heap[b]?=some (.cells #[.pointer (some ⟨b,0,none⟩),v] 109 (0,0))/\w1.ownsRow B 5 1 v l.length (cH l)/\aB B w w1:=by
  rcases hp with rfl | rfl
  ·refine (nw b w (by rw[cT w b 0 _ 109 (0,0) hbk];rfl) (by simp[World.shape?,hbk]) (je w b 0 _ 109 hbk)).mono ?_;rintro e w1 ⟨rfl,rfl⟩;refine⟨rfl,?_,?_,(ax _ _).setCell CM _⟩
   ·rw[heap_setCell_same w b 0 _ 109 _ hbk];rfl
   exact ownsRow_setCell_other hown (by simpa using hne) _
  refine (oh b w (by rw[cT w b 0 _ 109 (0,0) hbk];rfl)).mono ?_;rintro e w1 ⟨rfl,rfl⟩;exact⟨rfl,hbk,hown,ax _ _⟩
 have CC:=aa cc;clear cc hbk hown hp;go_enter Tryz.func100,Tryz.ntmps100
 go_wp2_with fail
 refine CC.out.mono ?_;rintro e w1 ⟨rfl,pP,pD,gp⟩;have c0:w1.cell? ⟨b,0,none⟩=some (.pointer (some ⟨b,0,none⟩)):=by rw[cT w1 b 0 _ 109 (0,0) pP];rfl
 have c1:w1.cell? ⟨b,1,none⟩=some v:=by rw[cT w1 b 1 _ 109 (0,0) pP];rfl
 have HK:=aa pP;clear pP;have Hy:=gp.size;go_wp2_with (at_builtin;refine Lib.wpList_append_own_string _ rfl (.tmp 12) (.tmp 13) 99 9 rfl B 5 i0 jW eF hi hz0 iq mP _ _ _ rfl pD sv rfl ?c3 ?c4 ?c5 ?_)
 case c3=>unfold maxLen;omega
 case c4=>omega
 case c5=>omega
 intro v' w2 hown' hgrow _;have Ic:b<w1.heap.size:=ae HK.out
 have e_:w2.heap[b]?=some (.cells #[.pointer (some ⟨b,0,none⟩),v] 109 (0,0)):=by
  rw[hgrow.block b Ic (fun e=>hne e.symm)];exact HK.out
 have d0:w2.cell? ⟨b,0,none⟩=some (.pointer (some ⟨b,0,none⟩)):=by rw[cT w2 b 0 _ 109 (0,0) e_];rfl
 have d1:w2.cell? ⟨b,1,none⟩=some v:=by rw[cT w2 b 1 _ 109 (0,0) e_];rfl
 have f1:w2.frozen? ⟨b,1,none⟩=false:=je w2 b 1 _ 109 e_
 obtain⟨ao,n',cap,rfl⟩:∃ ao n' cap,v'=.slice ao n' cap:=by
  rcases hown'.2 with ⟨hv,_⟩ | ⟨g,cap,cur,hv,_⟩
  ·exact⟨_,_,_,hv⟩
  exact⟨_,_,_,hv⟩
 have AH:=aa e_;clear e_
 go_wp2
 go_ret2
 refine⟨_,rfl,?_,?_⟩
 ·refine .inr ?_;rw[<-nS,<-HS.out];refine Lib.BuilderAt.put (T:=109) (e:=5) CM AH.out (bs':=cH l++Lib.strCells sv) ?_ (by decide);rw[dB,mu,Lib.strCells_length];exact hown'
 exact (gp.grown hgrow (by omega) (fun k hk=>(pD.lt k hk).1)).setCell (p:=⟨b,1,none⟩) CM _
theorem Cc (i:Nat) (z:Int) (hz:z=(i:Int)) (h:i<100) (w:af) :
  aV aj 184 #[.int .u64 z,.int .i64 10] w fun e w'=>e=.returned (.string ⟨(aO i).toArray⟩)/\w=w':=by
 subst hz
 have inner:aV aj 197 #[.int .u64 i,.int .i64 10] w fun e w'=>e=.returned (.string ⟨(aO i).toArray⟩)/\w=w':=by
  go_enter Tryz.func197,Tryz.ntmps197
  go_wp2_with fail
  refine (Tryz.internal_strconv_small i h _).mono ?_;rintro e w' ⟨rfl,rfl⟩;go_wp2_with fail
  go_ret
  exact⟨rfl,rfl⟩
 have IN:=aa inner;clear inner;go_enter Tryz.func184,Tryz.ntmps184
 go_wp2_with fail
 refine IN.out.mono ?_;rintro e w' ⟨rfl,rfl⟩;go_wp2_with fail
 go_ret
 exact⟨rfl,rfl⟩
abbrev G9:Nat:=1000000000
theorem Ow.len {w:af} {base:Nat} {k:cy} {T:aZ} {v:ak} {xs:List Nat} (h:Ow w base k T v xs):zM v=xs.length:=by
 obtain⟨ao,cap,rfl⟩:=eJ h.sl;rfl
theorem Ow.grown {w w':af} {base:Nat} {k:cy} {T:aZ} {v:ak} {xs:List Nat} (h:Ow w base k T v xs) {g:Nat} (hg:w.grownBy w' (some g)) (hb:g<base):Ow w' base k T v xs:=
 iU h hg (by
  cases hv:v.ownBlock with
  | none=>exact .inl rfl
  | some j=>exact .inr (fun e=>by injection e with e;have:=h.Bv j hv;omega))
theorem zf {w:af} {T:aZ} {ao:Option cu} {n cap g:Nat} {pre s post:List Nat} (h:Ws w .u32 T (.slice ao n cap) g pre s post) (hd:fK bf s) :
  ∃ post',Ws w .u32 T (jg ao cap s) g pre (fJ bf (val bf s)) post':=by
 have e:=mE (B:=bf) (by decide) hd;obtain⟨OR,cap',e1,h1,h2,h3,h4⟩:=h;injection e1 with e1 e2 e3;subst e1;subst e3;have hl:=jc s;have hlen:(s.take (nz s)).length=nz s:=by rw[bD];omega
 refine⟨s.drop (nz s)++post,?_⟩;rw[<-e];unfold jg
 by_cases h0:nz s=0
 ·rw[if_pos h0,h0];exact⟨none,0,rfl,by simp,by omega,fun _=>rfl,fun h=>by simp at h⟩
 rw[if_neg h0];refine⟨ao,cap,by rw[hlen],by rw[hlen];omega,h2,h3,fun _=>?_⟩;obtain⟨a1,a2⟩:=h4 (by omega);refine⟨a1,?_⟩
 have:pre++s.take (nz s)++(s.drop (nz s)++post)=pre++s++post:=by
  rw[<-aS,aS pre,k_]
 rw[this];exact a2
theorem zq (v:ak) (g:Nat) (pre s post:List Nat) (w:af) (h:Ws w .u32 153 v g pre s post) (hd:fK bf s) :
  aV aj 138 #[v] w fun e w'=>∃ v' post',e=.returned v'/\Ws w .u32 153 v' g pre (fJ bf (val bf s)) post'/\w=w':=by
 obtain⟨ao,cap,rfl⟩:=h.at;refine (ry _ _ _ s _ h.sl).mono fun e w' ⟨he,hw⟩=>?_
 obtain⟨post',h'⟩:=zf h hd;exact⟨_,post',he,h',hw⟩
theorem Ws.len {w:af} {k:cy} {T:aZ} {v:ak} {g:Nat} {pre s post:List Nat} (h:Ws w k T v g pre s post):zM v=s.length:=by
 obtain⟨ao,cap,rfl⟩:=h.at;rfl
theorem Ws.kept {w w':af} {B:Nat} {k:cy} {T:aZ} {v:ak} {g:Nat} {pre s post:List Nat} (h:Ws w k T v g pre s post) (hb:aB B w w') (hg:s.length≠0->g<B):Ws w' k T v g pre s post:=by
 obtain⟨ao,cap,rfl,h1,h2,h3,h4⟩:=h;exact⟨ao,cap,rfl,h1,h2,h3,fun i=>⟨(h4 i).1,(h4 i).2.below hb (hg i)⟩⟩
theorem Ws.Hr {w:af} {k:cy} {T:aZ} {v:ak} {g:Nat} {pre s post:List Nat} (h:Ws w k T v g pre s post) (h0:s.length≠0):g<w.heap.size:=by
 obtain⟨ao,cap,rfl,h1,h2,h3,h4⟩:=h;exact (h4 h0).2.lt
theorem yp {gs:List Nat} {ρ N:Nat} (h0:0<ρ) (h:gs++fJ G9 ρ=fJ G9 N):(gs++[ρ % G9])++fJ G9 (ρ / G9)=fJ G9 N:=by
 rw[<-h,jr (B:=G9) (by decide) h0,aS];rfl
theorem qy (va:ak) (xs:List Nat) (w:af) (hx:Sl w .u32 va xs) (dx:fK bf xs) (lx:xs.length<=100000) :
  aV aj 183 #[va] w fun e w'=>∃ v,e=.returned v/\Sl w' .u32 v (fJ G9 (val bf xs))/\aB w.heap.size w w':=by
 obtain⟨i0,hi,hz0,iq,mP⟩:=rm zO;obtain⟨ao,ac,rfl⟩:=eJ hx;go_enter Tryz.func183,Tryz.ntmps183
 go_wp2_with fail
 refine (xx _ xs w hx dx (by omega)).mono ?_;rintro e w1 ⟨v1,rfl,hs1,gp⟩;have Hy:=gp.size;have Hg:Hid ((fJ bf (val bf xs)).length≠0->w.heap.size<w1.heap.size):=aa (fun h=>hs1.Hr h)
 have HK:Hid ((fJ G9 (val bf xs)).length<=1000000):=aa (ai (gm (B:=G9) (k:=2*xs.length) (by decide) (by
  have h1:=gZ dx;have h2:bf ^ xs.length<=G9 ^ (2*xs.length):=by rw[Nat.pow_mul];exact Nat.pow_le_pow_left (by decide) _
  omega)) (by omega))
 generalize hN:val bf xs=N at *;have HN:=aa hN;clear hN;go_wp2_with fail
 go_loopw [3,4] (fun gv rv wr=>∃ (ρ:Nat) (gs post:List Nat),Ow wr w1.heap.size .u32 153 gv gs/\Ws wr .u32 153 rv w.heap.size [] (fJ bf ρ) post/\Hid (gs++fJ G9 ρ=fJ G9 N)/\fK bf gs/\aB w.heap.size w wr/\w1.heap.size<=wr.heap.size/\Hid ((fJ bf ρ).length≠0->w.heap.size<w1.heap.size)) (fun gv _ _=>(fJ G9 N).length - zM gv)
 case atStart=>exact⟨N,[],[],Ow.nil _ _ _ _,hs1,aa rfl,fK.nil _,gp,ag _,Hg⟩
 case round =>
  clear hs1 gp Hg;obtain⟨ρ,gs,post,how,Mt,HG,Cb,hb,hsz,Hg⟩:=hrel;have hlen:=aa Mt.len;obtain⟨ro,rc,rfl⟩:=Mt.at
  by_cases h0:0<ρ
  ·have hpos:0<(fJ bf ρ).length:=by rw[jr (by decide) h0];simp
   have Jv:=Hg.out (by omega);have Vz:=aa (yp h0 HG.out)
   have XC:gs.length<(fJ G9 N).length:=by
    have:=congrArg cW HG.out;rw[dB,jr (B:=G9) (by decide) h0] at this
    simp at this;omega
   have hk:=HK.out;have NQ:ρ % G9<1000000000:=ig _ (by decide);have HL:=aa how.len;go_wp2_with fail
   refine (yD w.heap.size [] _ post _ G9 _ wr Mt (ng (by decide) _) rfl (by decide) (by decide)).mono ?_;rintro e w3 ⟨s',rfl,Hz,MB,Fq,RF,Mv⟩;rw[jQ (by decide)] at Mv ⊢;have Rj:=how.grown MB Jv;have lN:aB w.heap.size w w3:=hb.trans (f_ MB (ag _) hb.size);have Xf:=MB.size;have Bz:=aa Mv;have Vr:=aa Fq;clear Mv Fq;obtain⟨m,hm⟩:∃ m,m=ρ % G9:=⟨_,rfl⟩
   rw[<-hm];rw[<-hm] at Vz NQ;clear hm;go_wp2_with (at_builtin;refine p6 _ rfl (.tmp 12) (.tmp 15) 23 rfl 153 i0 .u32 Tryz.underlying23 hi hz0 iq ?c1 w1.heap.size _ gs rfl (Rj.alloc _) w3.heap.size (m:Int) m rfl ?c2 rfl ?c3 ?c4 ?_)
   case c1=>omega
   case c2=>simp
   case c3=>omega
   case c4=>simp;omega
   intro v' w4 NH pQ;have Lm:aB w1.heap.size w3 w4:=((ax _ _).alloc (by omega) _).trans pQ;have Bc:=Hz.kept Lm (fun _=>Jv);go_wp2_with fail
   refine (zq _ _ _ s' _ w4 Bc RF).mono ?_;rintro e w5 ⟨v5,M6,rfl,P4,rfl⟩;rw[Bz.out] at P4;go_wp2_with fail
   go_roundw
   case rel=>exact⟨ρ / G9,gs++[m],M6,NH,P4,Vz,Cb.append (by intro x hx;obtain rfl:=List.mem_singleton.1 hx;exact Nat.lt_trans NQ (by decide)),lN.trans (Lm.mono (by omega)),ai (by omega) Lm.size,aa (fun _=>Jv)⟩
   case measure =>
    have e1:=HL.out;have e2:=NH.len;rw[dB] at e2
    simp at e2
    simp;omega
  have hr:ρ=0:=by omega
  subst hr;have HE:Hid (gs=fJ G9 N):=aa (by have:=HG.out;rwa [fF,dG] at this);have Fs:(fJ bf 0).length=0:=by rw[fF];rfl
  have Vt:=aa Fs;have P7:(fJ bf 0).length<=0:=by omega
  clear Fs;go_wp2_with fail
  go_ret
  exact⟨_,rfl,by rw[HN.out,<-HE.out];exact how.sl,hb⟩
def pad:Nat->Nat->List UInt8
 | 0,_=>[]
 | k+1,g=>pad k (g / 10)++[UInt8.ofNat (48+g % 10)]
theorem lG (k:Nat):∀ (q g:Nat),0<q->g<10 ^ k->aO (q*10 ^ k+g)=aO q++pad k g:=by
 induction k with
 | zero=>intro q g hq hg;simp at hg;subst hg;simp[pad]
 | succ k ih =>
  intro q g hq hg
  have hbig:¬ q*10 ^ (k+1)+g<10:=by
   have:1*10 ^ (k+1)<=q*10 ^ (k+1):=de _ hq;have h2:10<=10 ^ (k+1):=by rw[cG];have:=Nat.pow_pos (n:=k) (show 0<10 by omega);omega
   omega
  have e1:(q*10 ^ (k+1)+g) / 10=q*10 ^ k+g / 10:=by
   rw[cG,<-Nat.mul_assoc,Nat.add_comm,Nat.add_mul_div_right _ _ (by omega),Nat.add_comm]
  have e2:(q*10 ^ (k+1)+g) % 10=g % 10:=by
   rw[cG,<-Nat.mul_assoc,Nat.add_comm,Nat.add_mul_mod_self_right]
  have qR:g / 10<10 ^ k:=fN (by rw[cG] at hg;omega);rw[aO,dif_neg hbig,e1,e2,ih q (g / 10) hq qR,aS]
  rfl
theorem rY {q g:Nat} (hq:0<q) (hg:g<G9):aO (g+G9*q)=aO q++(aO (G9+g)).drop 1:=by
 have h1:=lG 9 q g hq hg;have h2:=lG 9 1 g (by decide) hg;have hG:G9=1000000000:=rfl;rw[show q*10 ^ 9+g=g+G9*q by rw[hG];omega] at h1;rw[show 1*10 ^ 9+g=G9+g by rw[hG]] at h2;rw[h1,h2,Lib.decDigits_one (i:=1) (by decide)]
 rfl
theorem He (k g:Nat):(pad k g).length=k:=by
 induction k generalizing g with
 | zero=>rfl
 | succ k ih=>simp[pad,ih]
theorem uM {g:Nat} (hg:g<G9):(aO (G9+g)).length=10:=by
 have h2:=lG 9 1 g (by decide) hg;rw[show 1*10 ^ 9+g=G9+g from rfl] at h2;rw[h2,dB,He,Lib.decDigits_one (i:=1) (by decide)];rfl
theorem js {n k:Nat} (h:n<10 ^ k) (hk:0<k):(aO n).length<=k:=by
 rw[Lib.decDigits_length];rcases pb n 10 with h1 | h1
 ·rw[Lib.nDigits_small h1];exact hk
 induction k generalizing n with
 | zero=>omega
 | succ k ih =>
  rw[Lib.nDigits_big (by omega)];have h2:n / 10<10 ^ k:=fN (by rw[cG] at h;omega)
  have n_:0<k:=by
   rcases fG k with h0 | h0
   ·subst h0;simp at h2;omega
   exact h0
  rcases pb (n / 10) 10 with h3 | h3
  ·rw[Lib.nDigits_small h3];omega
  have:=ih h2 n_ h3;omega
theorem pz {B:Nat} {gs:List Nat} {k:Nat} (hk:k<gs.length):val B (gs.drop k)=gs.getD k 0+B*val B (gs.drop (k+1)):=by
 rw[eV hk]
 simp[val,dj,hk]
theorem yw (l:List UInt8):(⟨l.toArray⟩:ByteArray).extract 1 (⟨l.toArray⟩:ByteArray).size=⟨(l.drop 1).toArray⟩:=by
 apply ByteArray.ext
 simp[ByteArray.size]
 rw[eH (by simp)]
theorem tQ {gs:List Nat} (hd:fK G9 gs) (k:Nat) (hl:gs.length<=20000):(aO (val G9 (gs.drop k))).length<=180009:=by
 have h1:=gZ (hd.drop k)
 have h2:G9 ^ (gs.drop k).length<=10 ^ (9*gs.length+9):=by
  rw[show G9=10 ^ 9 from rfl,<-Nat.pow_mul];exact dc (by decide) (by rw[List.length_drop];omega)
 have:=js (az h1 h2) (by omega)
 omega
theorem wI {gs:List Nat} (hd:fK G9 gs) {k:Nat} (hk:k<gs.length) (hp:0<val G9 (gs.drop (k+1))) :
  aO (val G9 (gs.drop k))=aO (val G9 (gs.drop (k+1)))++(aO (G9+gs.getD k 0)).drop 1/\0<val G9 (gs.drop k):=by
 rw[pz hk];refine⟨rY hp (hd.getD (by decide) k),?_⟩;have:1*1<=G9*val G9 (gs.drop (k+1)):=gj (by decide) hp
 omega
def Ke (w0:af) (P:Nat->Prop):Prop:=
 ∀ (w:af) (i:Nat) (z:Int),aB w0.heap.size w0 w->z=(i:Int)->P i->aV aj 184 #[.int .u64 z,.int .i64 10] w fun e w'=>e=.returned (.string ⟨(aO i).toArray⟩)/\aB w.heap.size w w'
theorem C7 (P:Nat->Prop) (va:ak) (xs:List Nat) (w:af) (fmt:Ke w P) (hx:Sl w .u32 va xs) (dx:fK bf xs) (lx:xs.length<=10000)
  (Uv:∀ g,g<G9->(fJ G9 (val bf xs)).getD ((fJ G9 (val bf xs)).length - 1) 0=g->P g) (Uu:2<=(fJ G9 (val bf xs)).length->∀ g,g<G9->P (G9+g)) :
  aV aj 151 #[va] w fun e w'=>e=.returned (.string ⟨(aO (val bf xs)).toArray⟩)/\aB w.heap.size w w':=by
 have V4:=aa fmt;clear fmt
 have QG:Hid ((fJ G9 (val bf xs)).length<=20000):=aa (ai (gm (B:=G9) (k:=2*xs.length) (by decide) (by
  have h1:=gZ dx;have h2:bf ^ xs.length<=G9 ^ (2*xs.length):=by rw[Nat.pow_mul];exact Nat.pow_le_pow_left (by decide) _
  omega)) (by omega))
 have DG:=qy va xs w hx dx (by omega);have V6:=aa DG;clear DG;have dg:=ng (B:=G9) (by decide) (val bf xs);have HV:=aa (jQ (B:=G9) (by decide) (val bf xs));have Po:=aa (@yE G9 (val bf xs) (by decide));have Vm:=aa Uv;have Y7:=aa Uu;clear Uv Uu dx;generalize fJ G9 (val bf xs)=gs at *;generalize val bf xs=N at *
 by_cases h0:gs.length=0
 ·have HN:Hid (N=0):=aa (by have:=HV.out;rw[dJ h0] at this;simpa [val] using this.symm);have hz:(((gs.length:Nat):Int)==0)=true:=by rw[h0];rfl
  have H0:=aa h0;clear h0;go_enter Tryz.func151,Tryz.ntmps151
  go_wp2_with fail
  refine V6.out.mono ?_;rintro e w1 ⟨v1,rfl,hs1,gp⟩;obtain⟨ao,ac,rfl⟩:=eJ hs1;go_wp2_with fail
  go_ret
  exact⟨by rw[HN.out,Lib.decDigits_one (i:=0) (by decide)];rfl,gp⟩
 have hz:(((gs.length:Nat):Int)==0)=false:=by rw[beq_eq_false_iff_ne];omega
 have hp:1<=gs.length:=by omega
 clear h0;go_enter Tryz.func151,Tryz.ntmps151
 go_wp2_with fail
 refine V6.out.mono ?_;rintro e w1 ⟨v1,rfl,hs1,gp⟩;have lP:=aa hs1;obtain⟨ao,ac,rfl,a1,a2,a3,a4⟩:=hs1;obtain⟨a,rfl,hca⟩:=a4 (gs.length - 1) (by omega);clear a4;have g1:0<=nth gs (gs.length - 1)/\nth gs (gs.length - 1)<1000000000:=by have:=dg.getD (by decide) (gs.length - 1);have hG:G9=1000000000:=rfl;unfold nth;omega
 have Jv:=QG.out
 have RG:(w1.alloc (.cells #[.pointer none,.slice none 0 0] 109)).cell? (a.add (gs.length - 1))=some (.int .u32 (nth gs (gs.length - 1))):=by
  rw[World.cell?_alloc_lt _ _ _ (cj hca)];exact hca
 have Oj:pX w1.heap.size w1.heap.size [] (w1.alloc (.cells #[.pointer none,.slice none 0 0] 109)):=Lib.fresh_isBuilder 109 5 w1;have RK:aB w1.heap.size w1 (w1.alloc (.cells #[.pointer none,.slice none 0 0] 109)):=(ax _ _).alloc (ag _) _;have Xi:w1.heap.size<(w1.alloc (.cells #[.pointer none,.slice none 0 0] 109)).heap.size:=by simp
 have XF:=dg.getD (by decide) (gs.length - 1);have Js:=Po.out (by omega)
 have JA:val G9 (gs.drop (gs.length - 1))=gs.getD (gs.length - 1) 0:=by
  rw[pz (by omega),List.drop_eq_nil_of_le (by omega)];simp[val]
 have VG:=aa JA;have SP:=aa Js;clear JA Js;go_wp2_with fail
 generalize (w1.alloc (.cells #[.pointer none,.slice none 0 0] 109))=W2 at *;have Ip:aB w.heap.size w W2:=gp.trans (RK.mono gp.size);refine (V4.out W2 (gs.getD (gs.length - 1) 0) _ Ip rfl (Vm.out _ XF rfl)).mono ?_;rintro e w3 ⟨rfl,lN⟩;have N':=Oj.below lN;have Hz:=lN.size;have Oc:aB w.heap.size w w3:=Ip.trans (lN.mono Ip.size);have Od:aB w1.heap.size w1 w3:=RK.trans (lN.mono (by omega));rw[<-VG.out];have RD:=tQ dg (gs.length - 1) Jv;have hpos:0<val G9 (gs.drop (gs.length - 1)):=by rw[VG.out];have:=SP.out;omega
 have IZ:=aa hpos;clear hpos;generalize hL:aO (val G9 (gs.drop (gs.length - 1)))=L at *;have HL:=aa hL;clear hL;generalize hS:(⟨L.toArray⟩:ByteArray)=sv at *;have HS:=aa hS;clear hS;go_wp2_with fail
 refine (ni w1.heap.size w1.heap.size [] L sv w3 N' HS.out.symm (by simp;omega) (by omega)).mono ?_;rintro e w4 ⟨v4,rfl,Lj,pQ⟩;rw[List.nil_append] at Lj;have Oa:aB w.heap.size w w4:=Oc.trans (pQ.mono gp.size);have Ob:aB w1.heap.size w1 w4:=Od.trans pQ;have Bc:=pQ.size;go_wp2_with fail
 go_loopw [6] (fun i wr=>∃ k:Nat,k<=gs.length - 1/\i=.int .i64 ((k:Int) - 1)/\pX w1.heap.size w1.heap.size (aO (val G9 (gs.drop k))) wr/\Hid (0<val G9 (gs.drop k))/\aB w.heap.size w wr/\aB w1.heap.size w1 wr/\w1.heap.size<wr.heap.size) (fun i _=>(eT i+1).toNat)
 case atStart=>exact⟨gs.length - 1,ag _,by congr 1;omega,by rw[HL.out];exact Lj,IZ,Oa,Ob,by omega⟩
 case round =>
  clear N' Oc Od Lj Oa Ob Bc Hz lN pQ IZ HL HS Oj RK Xi Ip RG RD;obtain⟨k,hk,rfl,cS,IZ,hb,Uq,hsz⟩:=hrel
  by_cases h0:0<k
  ·have hc:wr.cell? (a.add (k - 1))=some (.int .u32 (nth gs (k - 1))):=by
    have:=lP.out.at (i:=k - 1) (by omega);rw[Uq.cell (cj this)];exact this
   have gk:=dg.getD (by decide) (k - 1);have gk':0<=nth gs (k - 1)/\nth gs (k - 1)<1000000000:=by have hG:G9=1000000000:=rfl;unfold nth;omega
   have HR:=aa (wI dg (k:=k - 1) (by omega) (by rw[show k - 1+1=k by omega];exact IZ.out));have hP:=Y7.out (by omega) _ gk;have Hx:=uM gk;have RD:=tQ dg k Jv;have hex:=yw (aO (G9+gs.getD (k - 1) 0));have hsize:(⟨(aO (G9+gs.getD (k - 1) 0)).toArray⟩:ByteArray).size=10:=by simpa [ByteArray.size] using Hx
   have hdr:((aO (G9+gs.getD (k - 1) 0)).drop 1).length=9:=by rw[List.length_drop,Hx]
   have YR:=aa Hx;clear Hx;go_wp2_with fail
   refine (V4.out wr (G9+gs.getD (k - 1) 0) _ hb (by unfold nth;simp) hP).mono ?_;rintro e w5 ⟨rfl,Fw⟩;have RJ:=cS.below Fw;have P4:=Fw.size;have RM:aB w.heap.size w w5:=hb.trans (Fw.mono hb.size);have RN:aB w1.heap.size w1 w5:=Uq.trans (Fw.mono (by omega));generalize hM:(aO (G9+gs.getD (k - 1) 0)).drop 1=M at *;generalize hS:(⟨(aO (G9+gs.getD (k - 1) 0)).toArray⟩:ByteArray)=sv at *;have MP:=aa hex;have Hy:1<=sv.size/\sv.size<=10:=by omega
   clear hex hS hM hsize;go_wp2_with fail
   refine (ni w1.heap.size w1.heap.size _ M _ w5 RJ MP.out (by omega) (by omega)).mono ?_;rintro e w6 ⟨v6,rfl,En,RL⟩;have KY:=RL.size;go_wp2_with fail
   go_roundw
   case rel =>
    refine⟨k - 1,by omega,by go_num,?_,aa HR.out.2,RM.trans (RL.mono gp.size),RN.trans RL,by omega⟩;have h:=HR.out.1;rw[show k - 1+1=k by omega] at h;rw[h];exact En
   case measure=>simp[eT];omega
  have n_:k=0:=by omega
  subst n_;have HN:Hid (val G9 (gs.drop 0)=N):=aa (by rw[cf];exact HV.out);go_wp2_with fail
  refine (Tryz.Builder_String_any w1.heap.size w1.heap.size _ wr cS (by omega)).mono ?_;rintro e w7 ⟨rfl,xe⟩;rw[HN.out];go_wp2_with fail
  go_ret
  exact⟨rfl,hb.trans (xe.mono gp.size)⟩
theorem zv {t ys:List Nat} {S x k c z:Nat} (hy:k<ys.length) (ht:k<t.length) (hv:val bf t+c*bf ^ k=S+x*val bf (ys.take k)) (hz:z=c+(x*ys.getD k 0+t.getD k 0)) :
  val bf (t.set k (z % bf))+(z / bf)*bf ^ (k+1)=S+x*val bf (ys.take (k+1)):=by
 have h1:=oC bf t k (z % bf) ht;rw[fH bf ys k hy,cG];have h2:=Nat.mod_add_div z bf;generalize z % bf=r at *;generalize z / bf=q at *;generalize bf ^ k=P at *;have h3:(r+bf*q)*P=(c+(x*ys.getD k 0+t.getD k 0))*P:=by rw[h2,hz]
 grind
theorem vh {x y:Nat} (hx:x<4294967296) (hy:y<4294967296):x*y<=18446744065119617025:=
 ai (gj (show x<=4294967295 by omega) (show y<=4294967295 by omega)) (by decide)
theorem wU (g:Nat) (pre s post ys:List Nat) (vs vb:ak) (x:Nat) (zx:Int) (w:af) (hw:Ws w .u32 153 vs g pre s post) (hb:Sl w .u32 vb ys) (ha:vJ g vb) (hl:ys.length<s.length)
  (hs:fK bf s) (hy:fK bf ys) (W3:zx=(x:Int)) (hx:x<4294967296) (h0:s.getD ys.length 0=0) :
  aV aj 149 #[vs,vb,.int .u32 zx] w fun e w'=>∃ s',e=.returned (.tuple #[])/\Ws w' .u32 153 vs g pre s' post/\w.grownBy w' (some g)/\s'.length=s.length/\fK bf s' /\
   val bf s'=val bf s+x*val bf ys:=by
 subst W3;have H0:=aa h0;clear h0;obtain⟨ao,cap,rfl,h1,h2,h3,h4⟩:=hw;have HB:=aa hb;obtain⟨bo,OM,rfl,k1,k2,k3,k4⟩:=hb;go_enter Tryz.func149,Tryz.ntmps149
 go_wp2
 go_loopw [6,11] (fun c i wr=>∃ (k:Nat) (t:List Nat) (cc:Nat),i=.int .i64 k/\c=.int .u64 (cc:Int)/\cc<4294967296/\k<=ys.length/\w.grownBy wr (some g)/\Hid (t.length=s.length)/\fK 4294967296 t /\
   Cv wr .u32 153 ao g pre t post s.length/\Hid (t.drop k=s.drop k)/\Hid (val bf t+cc*bf ^ k=val bf s+x*val bf (ys.take k)))
  (fun _ i _=>ys.length - (eT i).toNat)
 case atStart=>exact⟨0,s,0,rfl,rfl,by omega,by omega,aE _ _,aa rfl,hs,h4,aa rfl,aa (by simp[val])⟩
 case round =>
  obtain⟨k,t,cc,rfl,rfl,rN,hk,hg,Ht,pV,hB,HD,HV⟩:=hrel
  by_cases hlt:k<ys.length
  ·obtain⟨b,rfl,hcb⟩:=k4 k hlt;obtain⟨rfl,qV⟩:=hB (by omega);have lZ:k<t.length:=by have:=Ht.out;omega
   have Lh:=(HB.out.grown hg ha).at hlt
   have hct:wr.cell? ⟨g,pre.length+k,none⟩=some (.int .u32 (nth t k)):=by
    rw[qV.cell (by simp;omega),mK _ _ _ _ lZ]
   have hft:=qV.frozen (pre.length+k);have y1:=lC hy k;have t1:=lC pV k;have y0:=hy.getD (by decide) k;have t0:=pV.getD (by decide) k
   have hm:0<=(x:Int)*nth ys k/\(x:Int)*nth ys k<=18446744065119617025:=by
    have:=vh hx y0;have e:(x:Int)*nth ys k=((x*ys.getD k 0:Nat):Int):=by unfold nth;simp
    rw[e];omega
   have HE:=aa (show (cc:Int)+((x:Int)*nth ys k+nth t k)=((cc+(x*ys.getD k 0+t.getD k 0):Nat):Int) by unfold nth;simp);have wm:cc+(x*ys.getD k 0+t.getD k 0)<18446744073709551616:=by have:=vh hx y0;omega
   have HS:=aa (zv (x:=x) (ys:=ys) hlt lZ HV.out rfl);have HZ:=aa wm;clear hcb hB h4 k4 y0 t0 wm
   go_wp2
   go_roundw
   case rel =>
    have hE:=HE.out;have hz:=HZ.out;refine⟨k+1,t.set k ((cc+(x*ys.getD k 0+t.getD k 0)) % bf),(cc+(x*ys.getD k 0+t.getD k 0)) / bf,by go_num,?_,?_,by omega,aD hg _,aa (by rw[cP];exact Ht.out),pV.set (ig _ (by decide)),fun _=>⟨rfl,?_⟩,aa ?_,HS⟩
    ·rw[hE];congr 1
    ·exact fN (by omega)
    ·rw[<-mF _ _ _ _ _ lZ];exact qV.set _ _ _ (by rw[hE];rfl)
    rw[List.drop_set_of_lt (by omega)];have:=congrArg (List.drop 1) HD.out
    rwa [List.drop_drop,List.drop_drop] at this
   case measure=>simp[eT];omega
  have hkk:k=ys.length:=by omega
  subst hkk;obtain⟨rfl,qV⟩:=hB (by omega);have lZ:ys.length<t.length:=by have:=Ht.out;omega
  have hft:=qV.frozen (pre.length+ys.length)
  have hct:wr.cell? ⟨g,pre.length+ys.length,none⟩=some (.int .u32 (nth t ys.length)):=by
   rw[qV.cell (by simp;omega),mK _ _ _ _ lZ]
  have TW:t.getD ys.length 0=0:=by
   have:=congrArg (fun l=>l.getD 0 0) HD.out;simp only[List.getD_eq_getElem?_getD,List.getElem?_drop,pe] at this ⊢;rw[this];have h:=H0.out
   simpa using h
  have Jz:val bf (t.set ys.length cc)=val bf s+x*val bf ys:=by
   have h1:=oC bf t ys.length cc lZ;have h2:=HV.out;rw[cz] at h2;rw[TW] at h1
   omega
  have HF:=aa Jz;clear Jz TW hB h4 k4
  go_wp2
  go_end0
  refine⟨t.set ys.length cc,rfl,⟨some ⟨g,pre.length,none⟩,cap,by rw[cP,Ht.out],by rw[cP,Ht.out];exact h1,h2,h3,fun _=>⟨rfl,?_⟩⟩,aD hg _,by rw[cP];exact Ht.out,pV.set rN,HF.out⟩;rw[<-mF _ _ _ _ _ lZ];exact qV.set _ _ _ (by omega)
theorem B_ {B:Nat} {xs:List Nat} (hB:2<=B) {m:Nat} (h:val B xs<B ^ m) {j:Nat} (hj:m<=j):xs.getD j 0=0:=by
 by_cases hl:j<xs.length
 ·have h1:=oB B xs (j+1) (by omega);have h2:=fH B xs j hl;rw[h2] at h1;have h3:B ^ m<=B ^ j:=dc (by omega) hj;rcases fG (xs.getD j 0) with h0 | h0
  ·exact h0
  have:1*B ^ j<=xs.getD j 0*B ^ j:=de _ h0
  omega
 exact yq (by omega)
theorem DC {P s' xs ys:List Nat} {i:Nat} (hi:i<=P.length) (hv:val bf P=val bf (xs.take i)*val bf ys) (hs:val bf s'=val bf (P.drop i)+xs.getD i 0*val bf ys) :
  val bf (P.take i++s')=val bf (xs.take (i+1))*val bf ys:=by
 rw[mD,hs,nO,cO,<-hv,oB bf P i hi,bD,fy hi]
 grind
theorem DD {P xs ys:List Nat} {i:Nat} (dx:fK bf xs) (dy:fK bf ys) (hi:i<=xs.length) (hv:val bf P=val bf (xs.take i)*val bf ys):(P.drop i).getD ys.length 0=0:=by
 have h1:=gZ (dx.take i);have h2:=gZ dy;rw[bD,fy hi] at h1
 have h3:val bf P<bf ^ (i+ys.length):=by
  rw[hv,Nat.pow_add];exact Nat.mul_lt_mul'' h1 h2
 have:=B_ (B:=bf) (xs:=P) (by decide) h3 (ag _)
 simpa [dj,List.getElem?_drop] using this
theorem FZ {w:af} {T:aZ} {g i n:Nat} {P:List Nat} (hB:qD w g .u32 T P) (hi:i<P.length) (hn:n=P.length - i) (hm:P.length<=9223372036854775807) :
  Ws w .u32 T (.slice (some ⟨g,i,none⟩) n n) g (P.take i) (P.drop i) []:=by
 have e1:(P.drop i).length=n:=by simp;omega
 have e2:(P.take i).length=i:=by simp;omega
 refine⟨some ⟨g,i,none⟩,n,by rw[e1],by rw[e1];omega,by omega,(fun e=>by cases e),fun _=>⟨by rw[e2],?_⟩⟩;rw[k_,dG];exact hB
theorem CX {w:af} {T:aZ} {v:ak} {g:Nat} {pre s post:List Nat} (h:Ws w .u32 T v g pre s post) (h0:s.length≠0):qD w g .u32 T (pre++s++post):=by
 obtain⟨_,_,_,_,_,_,h4⟩:=h;exact (h4 h0).2
theorem G0 (va vb:ak) (xs ys:List Nat) (w:af) (hx:Sl w .u32 va xs) (hy:Sl w .u32 vb ys) (dx:fK bf xs) (dy:fK bf ys) (lx:xs.length<=1000000) (ly:ys.length<=1000000) :
  aV aj 99 #[va,vb] w fun e w'=>∃ v,e=.returned v/\Sl w' .u32 v (fJ bf (val bf xs*val bf ys))/\aB w.heap.size w w':=by
 obtain⟨i0,hi,hz0,iq,mP⟩:=rm zO;obtain⟨ao,ac,rfl⟩:=eJ hx;obtain⟨bo,bc,rfl⟩:=eJ hy;have nx:=jc xs;have ny:=jc ys;have hx':=hx.take (nz xs) nx;have hy':=hy.take (nz ys) ny;have EH:=dx.take (nz xs);have Fz:=dy.take (nz ys);have VX:=cR (B:=bf) (by decide) dx;have VY:=cR (B:=bf) (by decide) dy;have ex:(xs.take (nz xs)).length=nz xs:=by simp;omega
 have ey:(ys.take (nz ys)).length=nz ys:=by simp;omega
 have EV:=aa hx;have YU:=aa hy;have Sx:=aa (fun w=>eG ao xs.length ac xs w);have Sw:=aa (fun w=>eG bo ys.length bc ys w);clear hx hy;rw[<-VX,<-VY];clear VX VY dx dy;generalize xs.take (nz xs)=X at *;generalize ys.take (nz ys)=Y at *;generalize nz xs=n at *;generalize nz ys=m at *
 have SX:Hid (∀ w1,aB w.heap.size w w1->∀ k,k<n->∃ a,ao=some a/\w1.cell? (a.add k)=some (.int .u32 (nth X k))):=by
  intro w1 hb k hk;obtain⟨OR,cap',e,_,_,_,q⟩:=hx'.below hb;injection e with e1 e2 e3;subst e1;exact q k (by omega)
 have EX:=aa ex;have EY:=aa ey;clear ex ey;go_enter Tryz.func99,Tryz.ntmps99
 go_wp2_with fail
 refine (Sx.out _ EV.out).mono ?_;rintro e w' ⟨rfl,rfl⟩;go_wp2_with fail
 refine (Sw.out _ YU.out).mono ?_;rintro e w' ⟨rfl,rfl⟩;go_wp2_with (at_make;refine nj _ rfl _ _ 24 rfl 153 i0 .u32 Tryz.underlying24 hi hz0 iq _ _ _ _ (n+m) rfl rfl (by omega) (by omega) (by omega) (by omega) ?_;intro w1 JE gp hs1)
 go_loopw [20] (fun j wr=>∃ (i:Nat) (P:List Nat),j=.int .i64 i/\i<=n/\qD wr w.heap.size .u32 153 P/\aB w.heap.size w wr/\fK bf P/\Hid (P.length=n+m)/\Hid (val bf P=val bf (X.take i)*val bf Y)) (fun j _=>n - (eT j).toNat)
 case atStart=>exact⟨0,_,rfl,Nat.zero_le _,JE,gp,fK.replicate (by decide) _,aa (by simp),aa (by rw[kD];simp[val])⟩
 case round =>
  clear JE gp hs1;obtain⟨i,P,rfl,hin,hB,hb,RE,HL,HV⟩:=hrel
  by_cases hlt:i<n
  ·obtain⟨a,rfl,hca⟩:=SX.out wr hb i hlt;have XA:i<P.length:=by have:=HL.out;omega
   have P0:=lC EH i;have hx0:=EH.getD (by decide) i;have Mt:=FZ (n:=n+m - i) hB XA (by rw[HL.out]) (by have:=HL.out;omega);have XB:=aa (DD EH Fz (by rw[EX.out];exact hin) HV.out);have hap:vJ w.heap.size (.slice bo m bc):=qg hy' (ag _);have hsize:Hid ((P.drop i).length=n+m - i):=aa (by rw[List.length_drop,HL.out]);have PY:=hy'.below hb;go_wp2_with fail
   refine (wU w.heap.size (P.take i) (P.drop i) [] Y _ _ (X.getD i 0) _ wr Mt PY hap (by rw[hsize.out,EY.out];omega) (RE.drop i) Fz rfl hx0 XB.out).mono ?_;rintro e w3 ⟨s',rfl,Hz,MB,Fq,RF,Mv⟩;have lN:aB w.heap.size w w3:=hb.trans (f_ MB (ag _) hb.size);have Uy:=CX Hz (by rw[Fq,hsize.out];omega);rw[dG] at Uy;have Bz:=aa (DC (by omega) HV.out Mv);have Vr:=aa Fq;clear Mv Fq Hz MB Mt hB;go_wp2_with fail
   go_roundw
   case rel=>exact⟨i+1,P.take i++s',by go_num,by omega,Uy,lN,(RE.take i).append RF,aa (by rw[dB,Vr.out,hsize.out,bD,HL.out];omega),Bz⟩
   case measure=>simp[eT];omega
  have Ry:i=n:=by omega
  subst Ry
  have hv:val bf P=val bf X*val bf Y:=by
   have h:=HV.out
   rwa [eH (by rw[EX.out];omega)] at h
  have YL:=aa hv;clear hv;have Mw:=hB.sl 0 (i+m) (i+m) (by rw[HL.out];omega) (ag _) (by omega);rw[cf,eH (by rw[HL.out];omega)] at Mw;go_wp2_with fail
  refine (lV _ P _ Mw RE).mono ?_;rintro e w4 ⟨v4,rfl,TU,rfl⟩;go_wp2_with fail
  go_ret
  refine⟨_,rfl,?_,hb⟩;rw[YL.out] at TU;exact TU
def GN (w:af) (v:ak) (n k:Nat):Prop:=∃ xs,Sl w .u32 v xs/\fK bf xs/\val bf xs=n/\xs.length<=k
theorem GN.below {w w':af} {v:ak} {n k:Nat} (h:GN w v n k) (hb:aB w.heap.size w w'):GN w' v n k:=by
 obtain⟨xs,h1,h2,h3,h4⟩:=h;exact⟨xs,h1.below hb,h2,h3,h4⟩
theorem GN.lt {w:af} {v:ak} {n k:Nat} (h:GN w v n k):n<bf ^ k:=by
 obtain⟨xs,_,h2,h3,h4⟩:=h;rw[<-h3];exact az (gZ h2) (dc (by decide) h4)
theorem Lu {w:af} {v:ak} {n k:Nat} (h:Sl w .u32 v (fJ bf n)) (hn:n<bf ^ k):GN w v n k:=
 ⟨_,h,ng (by decide) _,jQ (by decide) _,gm (by decide) hn⟩
theorem zH {m n k1 k2:Nat} (h1:m<bf ^ k1) (h2:n<bf ^ k2):m+n<bf ^ (k1+k2+1):=by
 have a:bf ^ k1<=bf ^ (k1+k2):=dc (by decide) (by omega);have b:bf ^ k2<=bf ^ (k1+k2):=dc (by decide) (by omega);rw[cG];have:bf ^ (k1+k2)*2<=bf ^ (k1+k2)*bf:=ru _ (by decide)
 omega
theorem OI {va vb:ak} {m n k1 k2:Nat} {w:af} (hx:GN w va m k1) (hy:GN w vb n k2) :
  aV aj 96 #[va,vb] w fun e w'=>e=.returned (.int .i64 (mV m n))/\aB w.heap.size w w':=by
 obtain⟨xs,hx,dx,rfl,lx⟩:=hx;obtain⟨ys,hy,dy,rfl,ly⟩:=hy;exact wL _ _ _ _ w hx hy dx dy
def bl (n:Nat):Nat:=(fJ 2 n).length
theorem sH:bl 0=0:=by unfold bl;rw[fF];rfl
theorem wQ {n:Nat} (h:0<n):bl n=1+bl (n / 2):=by unfold bl;rw[jr (by decide) h];simp;omega
theorem Cs (n:Nat) (h:n<2 ^ 64):Lib.bitLen n=bl n:=by
 induction n using pI with
 | ind n ih =>
  by_cases h0:n=0
  ·subst h0;rw[sH];decide
  rw[Lib.bitLen_half n h0 h,wQ (by omega),ih (n / 2) (by omega) (by omega)]
theorem LH (k:Nat):∀ v t:Nat,v<2 ^ k->0<t->bl (v+t*2 ^ k)=k+bl t:=by
 induction k with
 | zero=>intro v t hv ht;simp at hv;subst hv;simp
 | succ k ih =>
  intro v t hv ht;have hp:0<2 ^ (k+1):=Nat.pow_pos (by decide);have hpos:0<v+t*2 ^ (k+1):=by have:=Nat.mul_pos ht hp;omega
  rw[wQ hpos];have e:(v+t*2 ^ (k+1)) / 2=v / 2+t*2 ^ k:=by rw[cG,<-Nat.mul_assoc];omega
  rw[e,ih (v / 2) t (by rw[cG] at hv;omega) ht]
  omega
theorem OL {n k:Nat} (h:n<2 ^ k):bl n<=k:=gm (by decide) h
theorem bits_nat (va:ak) (xs:List Nat) (w:af) (hx:Sl w .u32 va xs) (dx:fK bf xs) (lx:xs.length<=1000000) :
  aV aj 105 #[va] w fun e w'=>e=.returned (.int .i64 ((bl (val bf xs):Nat):Int))/\w=w':=by
 have HX:=aa hx;obtain⟨ao,ac,rfl,a1,a2,a3,a4⟩:=hx;have nx:=jc xs
 by_cases h0:nz xs=0
 ·have hv:val bf xs=0:=by rw[<-cR (B:=bf) (by decide) dx,h0];rfl
  have HV:=aa hv;have hz:(((nz xs:Nat):Int)==0)=true:=by rw[h0];rfl
  clear h0 hv a4;go_enter Tryz.func105,Tryz.ntmps105
  go_wp2_with fail
  refine (eG _ _ _ xs _ HX.out).mono ?_;rintro e w' ⟨rfl,rfl⟩;go_wp2_with fail
  go_ret
  exact⟨by rw[HV.out,sH];rfl,rfl⟩
 have hz:(((nz xs:Nat):Int)==0)=false:=by rw[beq_eq_false_iff_ne];omega
 have hp:1<=nz xs:=by omega
 obtain⟨a,rfl,hca⟩:=a4 (nz xs - 1) (by omega);have t1:=dx.getD (by decide) (nz xs - 1);have t2:=lC dx (nz xs - 1);have hl:bl (xs.getD (nz xs - 1) 0)<=32:=OL t1
 have cS:Lib.bitLen (nth xs (nz xs - 1)).toNat=bl (xs.getD (nz xs - 1) 0):=by
  unfold nth;rw[Int.toNat_natCast];exact Cs _ (Nat.lt_trans t1 (by decide))
 have Rd:0<xs.getD (nz xs - 1) 0:=by
  rcases fG (xs.getD (nz xs - 1) 0) with h | h
  ·have h3:=vX (xs:=xs.take (nz xs)) (k:=nz xs - 1) (by rw[bD];omega) (by simpa [dj,show nz xs - 1<nz xs by omega] using h);have h5:(fJ bf (val bf xs)).length=nz xs:=iJ (by decide) dx;have h6:=mE (B:=bf) (by decide) (ng (B:=bf) (by decide) (val bf xs));rw[jQ (by decide)] at h6;have h7:=congrArg cW h6;rw[bD,h5,mU (by decide) dx] at h7
   have h8:nz ((xs.take (nz xs)).take (nz xs - 1+1))=nz (xs.take (nz xs)):=by
    rw[show nz xs - 1+1=nz xs by omega,List.take_take,Nat.min_self]
   have h9:=jc ((xs.take (nz xs)).take (nz xs - 1));rw[bD,bD] at h9
   omega
  exact h
 have l_:bl (val bf xs)=(nz xs - 1)*32+bl (xs.getD (nz xs - 1) 0):=by
  have e:=cR (B:=bf) (by decide) dx;have e2:=nO bf xs (nz xs - 1);rw[show nz xs - 1+1=nz xs by omega] at e2;have e3:bf ^ (nz xs - 1)=2 ^ ((nz xs - 1)*32):=by rw[Nat.mul_comm,Nat.pow_mul]
  have e4:=gZ (dx.take (nz xs - 1));rw[bD,fy (by omega),e3] at e4;rw[<-e,e2,e3,LH _ _ _ e4 Rd]
 generalize bl (xs.getD (nz xs - 1) 0)=b at *;have HF:=aa l_;have HB:=aa cS;clear h0 a4 cS l_;go_enter Tryz.func105,Tryz.ntmps105
 go_wp2_with fail
 refine (eG _ _ _ xs _ HX.out).mono ?_;rintro e w' ⟨rfl,rfl⟩;go_wp2_with fail
 refine (Tryz.bits_Len32 _ _ (by omega) (by omega)).mono ?_;rintro e w' ⟨rfl,rfl⟩;rw[HB.out];go_wp2_with fail
 go_ret
 refine⟨?_,rfl⟩;rw[HF.out,show (((nz xs - 1)*32+b:Nat):Int)=(((nz xs:Nat):Int) - 1)*32+(b:Int) by omega]
 rfl
theorem Au {va:ak} {n k:Nat} {w:af} (hx:GN w va n k) (hk:k<=1000000) :
  aV aj 105 #[va] w fun e w'=>e=.returned (.int .i64 ((bl n:Nat):Int))/\w=w':=by
 obtain⟨xs,hx,dx,rfl,lx⟩:=hx;exact bits_nat _ _ w hx dx (by omega)
theorem gR (P:List Nat) (i v t:Nat):(P.set i v).getD t 0=if t=i/\i<P.length then v else P.getD t 0:=by
 by_cases h:t=i
 ·subst h
  by_cases hl:t<P.length
  ·simp[dj,hl]
  simp[dj,hl]
 rw[List.getD_eq_getElem?_getD,List.getElem?_set_ne (fun e=>h e.symm),<-List.getD_eq_getElem?_getD,if_neg (by simp[h])]
def By (w w':af):Prop:=∀ a k z,w.cell? a=some (.int k z)->w'.cell? a=some (.int k z)
def Jm (c:Array ak):Bool:=c.toList.all fun v=>match v with | .int ..=>false | _=>true
structure AB (g:Nat) (w w':af):Prop where
 os:w'.os=w.os
 tape:w'.tape=w.tape
 output:w'.output=w.output
 size:w'.heap.size=w.heap.size
 block:∀ k,k≠g->w'.heap[k]?=w.heap[k]?
 keeps:By w w'
 shape:∀ c T,w.heap[g]?=some (.cells c T (0,0))->Jm c=true->∃ c',w'.heap[g]?=some (.cells c' T (0,0))/\c'.size=c.size/\Jm c'=true
theorem aq {w:af} {g:Nat} {c:Array ak} {T:aZ} (h:w.heap[g]?=some (.cells c T (0,0))) (i:Nat) {v:ak} (hv:c[i]?=some v):w.cell? ⟨g,i,none⟩=some v:=by
 rw[cT w g i _ T (0,0) h];exact hv
theorem aY {w:af} {g:Nat} {c:Array ak} {T:aZ} (h:w.heap[g]?=some (.cells c T (0,0))) (i:Nat):w.frozen? ⟨g,i,none⟩=false:=je w g i _ T h
theorem iI (W:af) (o:Obj) (g:Nat) (h:W.heap.size=g):(W.alloc o).heap[g]?=some o:=by
 subst h
 show (W.heap.push o)[W.heap.size]?=some o
 simp
theorem BX {W:af} {g:Nat} {ob:Obj} (h:W.heap[g]?=some ob) (o:Obj):(W.alloc o).heap[g]?=some ob:=by
 rw[nG W o g (Array.getElem?_eq_some_iff.1 h).1];exact h
namespace rZ
abbrev Fact:=(Nat->ak)->ak->af->Prop
def mask (L:List Nat) (x:Nat->ak):Nat->ak:=fun j=>if L.contains j then x j else undef
def pA (x:Nat->ak) (k:Nat) (v:ak):Nat->ak:=fun j=>if j=k then v else x j
def eN (ops:List fk) (j:Nat):Option Tmp:=(ops[j]?).bind (·.dst)
def dep (D:List (List Nat)) (k:Nat):List Nat:=D.getD k []
def ok (ops:List fk) (D:List (List Nat)) (m size:Nat):Bool:=
 decide (m<=ops.length) && (fm ops.length).all fun k =>
  match ops[k]? with
  | none=>false
  | some o =>
   (o.after.all fun e=>!Region.binds .any e || decide (e.on<k)) &&
   ((dep D k).all fun j=>(o.after.any fun e=>Region.binds .any e && (e.on==j || (dep D e.on).contains j)) && ((dep D j).all fun i=>(dep D k).contains i) && decide (j<k)) &&
   (decide (k<m) || (fm m).all fun j=>(dep D k).contains j) &&
   (match o.dst with | none=>true | some d=>decide (d<size) && (fm k).all fun j=>eN ops j != some d)
def zI (ops:List fk) (D:List (List Nat)) (al:List Nat) (st:List (Nat × Nat)) (nq:Nat):Bool:=
 (fm ops.length).all fun k=>match st.lookup k with
  | none=>true
  | some i=>(if i<1000 then (dep D k).contains i && al.contains i else decide (i - 1000<nq)) && (fm ops.length).all fun j=>j==k || st.lookup j != some i
def pre (ops:List fk) (D:List (List Nat)) (k t:Nat):Bool:=
 (fm ops.length).all fun j=>eN ops j != some t || j==k || (dep D j).contains k
def fill:List fk->(Nat->ak)->Nat->Array ak->Array ak
 | [],_,_,t=>t
 | o::l,x,k,t=>fill l x (k+1) (match o.dst with | some d=>t.setIfInBounds d (x k) | none=>t)
def Na:Exit->Act->af->Prop:=fun _ _ _=>False
def fact (F:List Fact) (j:Nat):Fact:=(F.reverse[j]?).getD fun _ _ _=>True
section
variable (P:lB) (ops:List fk) (D:List (List Nat)) (al:List Nat) (st:List (Nat × Nat)) (og:Nat->Nat) (nq:Nat) (t0:Array ak) (ds:List Deferred) (w0:af)
def own (k:Nat):Option Nat:=st.lookup k
def tv (x:Nat->ak) (i:Nat):ak:=if i<1000 then x i else .pointer (some ⟨og (i - 1000),0,none⟩)
structure At (F:Nat->Fact) (k:Nat) (T:Array ak) (x:Nat->ak) (w:af):Prop where
 be:∀ B,B<=w0.heap.size->(∀ q,q<nq->B<=og q)->aB B w0 w
 bl:∀ b,b<w0.heap.size->(∀ q,q<nq->og q≠b)->w.heap[b]?=w0.heap[b]?
 kp:By w0 w
 od:∀ q,q<nq->(∀ k',own st k'=some (1000+q)->k'=k\/(dep D k').contains k=true)->w.heap[og q]?=w0.heap[og q]?
 tm:∀ j d,(dep D k).contains j=true->eN ops j=some d->T[d]?=some (x j)
 fa:∀ j,(dep D k).contains j=true->F j (mask (dep D j) x) (x j) w
 pre:∀ t,rZ.pre ops D k t=true->T[t]?=t0[t]?
structure Next (V:Fact) (k:Nat) (x:Nat->ak) (w:af) (v:ak) (w':af):Prop where
 is:V x v w'
 bw:own st k=none->aB w.heap.size w w'
 pv:∀ i,own st k=some i->∃ g,tv og x i=.pointer (some ⟨g,0,none⟩)/\AB g w w'
 al:al.contains k=true->∃ g,v=.pointer (some ⟨g,0,none⟩)/\w.heap.size<=g/\g<w'.heap.size
def Cw (F:Nat->Fact) (k:Nat) (o:fk) (V:Fact):Prop:=
 ∀ (T:Array ak) (x:Nat->ak) (w:af),At ops D st og nq t0 w0 F k T x w ->
  ∀ K:Act->af->Prop,Hid (∀ v w',Next al st og V k x w v w'->K ((⟨T,ds⟩:Act).put o.dst v) w') ->
   if iV o (yielded ops.toArray T)=true then o.wp P ⟨T,ds⟩ w K Na else K ((⟨T,ds⟩:Act).put o.dst undef) w
def tV (k:Nat) (V:Fact):Prop:=(∀ x v w w',V x v w->aB w.heap.size w w'->V x v w')/\(st ≠ []->∀ x v w w' g,V x v w->(∀ i,own st k=some i->tv og x i ≠ .pointer (some ⟨g,0,none⟩))->AB g w w'->V x v w')
def Left (F:Nat->Fact) (m:Nat) (x:Nat->ak) (w:af):Prop:=
 ((∀ B,B<=w0.heap.size->(∀ q,q<nq->B<=og q)->aB B w0 w)/\(∀ b,b<w0.heap.size->(∀ q,q<nq->og q≠b)->w.heap[b]?=w0.heap[b]?)/\By w0 w)/\(∀ j,j<m->F j (mask (dep D j) x) (x j) w) /\
 (∀ i,al.contains i=true->i<m->∃ g,x i=.pointer (some ⟨g,0,none⟩)/\w0.heap.size<=g/\g<w.heap.size) /\
 (∀ i j,al.contains i=true->al.contains j=true->i<m->j<m->i≠j->x i≠x j)
def aF (m:Nat) (G:(Nat->ak)->af->Prop):List fk->Nat->List Fact->Prop
 | [],k,F=>k=m/\∀ x w,Left D al og nq w0 (fact F) m x w->G x w
 | o::rest,k,F=>(k=m/\∀ x w,Left D al og nq w0 (fact F) m x w->G x w) \/
  ∃ V,tV st og k V/\Cw P ops D al st og nq t0 ds w0 (fact F) k o V/\aF m G rest (k+1) (V::F)
variable {P ops D al st og nq t0 ds w0}
def plain (al:List Nat) (st:List (Nat × Nat)) (k:Nat):Bool:=!al.contains k && (own st k).isNone
theorem gl {o:fk} {T:Array ak} {g d:Nat} {want b:Bool} (hg:o.guard=some (g,want)) (hd:eN ops g=some d) (hT:T[d]?=some (.bool b)):iV o (yielded ops.toArray T)=(b==want):=by
 have hy:yielded ops.toArray T g=some b:=by
  have hd':(ops.toArray[g]?).bind (·.dst)=some d:=by simpa [eN] using hd
  unfold yielded;rw[hd'];simp only[Option.bind_some,hT]
 unfold iV;rw[hg];simp only[hy]
 cases b<;>cases want<;>rfl
structure Inv (H:Nat->Fact) (m:Nat) (listed:Array Bool) (a:Act) (w:af) (x:Nat->ak):Prop where
 tm:∀ j d,listed.getD j false=true->eN ops j=some d->a.tmps[d]?=some (x j)
 pre:∀ t,(∀ j,listed.getD j false=true->eN ops j≠some t)->a.tmps[t]?=t0[t]?
 sz:a.tmps.size=t0.size
 df:a.defers=ds
 be:∀ B,B<=w0.heap.size->(∀ q,q<nq->B<=og q)->aB B w0 w
 bl:∀ b,b<w0.heap.size->(∀ q,q<nq->og q≠b)->w.heap[b]?=w0.heap[b]?
 kp:By w0 w
 od:∀ q,q<nq->(∀ k',listed.getD k' false=true->own st k'≠some (1000+q))->w.heap[og q]?=w0.heap[og q]?
 sw:w0.heap.size<=w.heap.size
 ls:listed.size=ops.length
 dn:∀ j,listed.getD j false=true->∀ i,(dep D j).contains i=true->listed.getD i false=true
 lt:∀ j,listed.getD j false=true->j<m
 fa:∀ j,listed.getD j false=true->H j (mask (dep D j) x) (x j) w
 pt:∀ i,al.contains i=true->listed.getD i false=true->∃ g,x i=.pointer (some ⟨g,0,none⟩)/\w0.heap.size<=g/\g<w.heap.size
 ne:∀ i j,al.contains i=true->al.contains j=true->listed.getD i false=true->listed.getD j false=true->i≠j->x i≠x j
section
variable {m size:Nat} (hok:ok ops D m size=true)
include hok
end
section
variable {m:Nat} {Q:Exit->Act->af->Prop} {H:Nat->Fact}
def Rest (P:lB) (ops:List fk) (Q:Exit->Act->af->Prop) (t0:Array ak) (ds:List Deferred) (m:Nat) (x:Nat->ak) (w:af):Prop:=
 wpAny P .any ops.toArray Q (ops.length - m) (bI m true++bI (ops.length - m) false).toArray ⟨fill (ops.take m) x 0 t0,ds⟩ w
end
end
end rZ
open Classical in
theorem LI {n:Nat} (h:0<n):0<bl n:=by rw[wQ h];omega
def dn (l:List UInt8):Nat:=l.foldl (fun n c=>10*n+(c.toNat - 48)) 0
def Tn (l:List UInt8):Prop:=∀ c ∈ l,48<=c.toNat/\c.toNat<=57
theorem IC (l:List UInt8) (c:UInt8):dn (l++[c])=10*dn l+(c.toNat - 48):=by
 unfold dn;rw[List.foldl_append];rfl
theorem oe {d:Nat} (h:d<10):(UInt8.ofNat (48+d)).toNat=48+d:=by
 rw[UInt8.toNat_ofNat'];omega
theorem q_ (n:Nat):Tn (aO n)/\dn (aO n)=n/\aO n ≠ []/\(0<n->(aO n).getD 0 48≠48):=by
 induction n using pI with
 | ind n ih =>
  by_cases h:n<10
  ·rw[Lib.decDigits_one h];refine⟨?_,?_,by simp,?_⟩
   ·intro c hc;obtain rfl:=List.mem_singleton.1 hc;rw[oe h];omega
   ·show 10*0+((UInt8.ofNat (48+n)).toNat - 48)=n
    rw[oe h];omega
   intro h0 e;have e1:UInt8.ofNat (48+n)=48:=e;have e2:=congrArg UInt8.toNat e1;rw[oe h] at e2;have e3:(48:UInt8).toNat=48:=rfl
   omega
  obtain⟨h1,h2,h3,h4⟩:=ih (n / 10) (by omega);have hd:n % 10<10:=by omega
  rw[aO,dif_neg h];refine⟨?_,?_,by simp,?_⟩
  ·intro c hc;rcases List.mem_append.1 hc with hc | hc
   ·exact h1 c hc
   obtain rfl:=List.mem_singleton.1 hc;rw[oe hd];omega
  ·rw[IC,h2,oe hd];omega
  intro _;have h5:=h4 (by omega)
  cases hl:aO (n / 10) with
  | nil=>exact absurd hl h3
  | cons a m=>rw[hl] at h5;simpa using h5
end Go.Proofs.YtoncclhbdkjhmaaGreatDoor
namespace Go.Proofs.YtoncclhbdkjhmaaGreatDoor
open Go.RowKit Go.Sort Go.Lib
set_option maxRecDepth 100000
theorem xY (w:af) (T:aZ) (nd:Nat) (hs:nd<=24):Holds (fun (b:UInt8)=>dz .u8 (b.toNat:Int)) (w.alloc (.cells Lib.zeros24 T)) w.heap.size 0 (nh nd (0:UInt8)):=fun j hj=>by
 have hj':j<nd:=by simpa using hj
 refine⟨?_,World.frozen?_alloc_new _ _ _ _⟩;rw[World.cell?_alloc_new,Lib.zeros24_at _ (by omega),getElem!_pos _ j hj]
 simp
theorem wR (w:af) (o:Obj) (dk:Array UInt8) (k:Nat):aB w.heap.size w ((putRow (fun (b:UInt8)=>dz .u8 (b.toNat:Int)) (w.alloc o) w.heap.size 0 dk).drewN k):=by
 rw[alloc_eq_grow];obtain⟨os',_,e⟩:=putRow_grow_new (fun (b:UInt8)=>dz .u8 (b.toNat:Int)) w #[o] w.heap.size 0 dk (ag _);rw[e];exact⟨rfl,rfl,rfl,by show w.heap.size<=(w.heap++os').size;rw[Array.size_append];omega,fun i hi=>heap_grow_old w os' hi⟩
set_option maxRecDepth 100000 in
theorem On (u : Nat) (h1 : 100 ≤ u) (hu64 : u < 18446744073709551616) (w : af) (htab : jY aj w "internal/strconv.uint64pow10" .u64 lJ) :
  aV aj 197 #[.int .u64 u,.int .i64 10] w fun e w'=>e=.returned (.string ⟨(aO u).toArray⟩)/\aB w.heap.size w w':=by
 have T_:jf u<=20:=by have:=Lib.numDigits_eq u (by omega) hu64;split at this<;>omega
 have hal:Tryz.prog.arrayLen 233=24:=by simp[Program.arrayLen,Tryz.underlying233]
 have Xh:∀ W,(Instr.sliceAt 233 (.pointer (some ⟨w.heap.size,0,none⟩)) none (some (.int .i64 (jf u:Int))) none).run aj W=.ok (.slice (some ⟨w.heap.size,0,none⟩) (jf u) 24) W:=fun W=>by
  rw[run_sliceAt_array_h W 233 ⟨w.heap.size,0,none⟩ (by simp[Program.arrayLen,Program.elem,Tryz.underlying233]) .i64 (jf u:Int) (by omega) (by rw[hal];omega)];go_simp
  try omega
 have RT:=xY w 233 (jf u) (by omega);have hfmt:=Tryz.internal_strconv_formatBase10 w.heap.size 0 24 u (nh (jf u) 0) (w.alloc (.cells Lib.zeros24 233)) RT (by rw[jZ];exact Lib.lt_pow_nDigits u) hu64 (by rw[jZ];omega);rw[jZ] at hfmt;have Zp:=aa RT;have S_:=aa hfmt;clear RT hal hfmt;go_enter Tryz.func197,Tryz.ntmps197
 go_wp2_with fail
 refine (Tryz.internal_strconv_numDigits u (by omega) hu64 _ (Lib.tabIs_alloc htab _)).mono ?_;rintro e w' ⟨rfl,rfl⟩;go_wp2_with fail
 refine S_.out.mono ?_;rintro e w' ⟨rfl,k,v',dk,rfl,hF⟩
 have lM:(convert 99 9 (.slice (some ⟨w.heap.size,0,none⟩) (jf u) 24)).run aj ((putRow (fun (b:UInt8)=>dz .u8 (b.toNat:Int)) (w.alloc (.cells Lib.zeros24 233)) w.heap.size 0 dk).drewN k)=.ok (.string ⟨(aO u).toArray⟩) ((putRow (fun (b:UInt8)=>dz .u8 (b.toNat:Int)) (w.alloc (.cells Lib.zeros24 233)) w.heap.size 0 dk).drewN k):=by
  have h:=run_convert_bytes_back (P:=aj) ((putRow (fun (b:UInt8)=>dz .u8 (b.toNat:Int)) (w.alloc (.cells Lib.zeros24 233)) w.heap.size 0 dk).drewN k) 99 9 5 ⟨w.heap.size,0,none⟩ 24 (aO u) jW jN eF (fun j hj=>by
   rw[Lib.row_is_numeral hF j hj,Lib.add_plain,World.cell?_drewN]
   exact cell?_putRow (fun (b:UInt8)=>dz .u8 (b.toNat:Int)) _ w.heap.size 0 _ dk Zp.out (by rw[hF.size,jZ]) j (by rw[hF.size];rw[Lib.decDigits_length] at hj;exact hj))
  rw[Lib.decDigits_length] at h;exact h
 have HB:=aa (wR w (.cells Lib.zeros24 233) dk k);go_wp2_with fail
 go_ret
 exact⟨rfl,HB.out⟩
theorem oD {w w':af} {name:String} {k:cy} {zs:List Int} (h:jY aj w name k zs) (hb:aB w.heap.size w w'):jY aj w' name k zs:=by
 unfold jY World.var? at *
 cases hg:Tryz.prog.globalNamed name with
 | none=>simp[hg] at h
 | some g =>
  simp only[hg,Option.bind_some] at h ⊢
  have hlt:g<w.heap.size:=by
   rcases pb g w.heap.size with h' | h'
   ·exact h'
   rw[Array.getElem?_eq_none h'] at h;simp at h
  rw[hb.block g hlt];exact h
theorem Oo (u : Nat) (hu64 : u < 18446744073709551616) (w : af) (htab : jY aj w "internal/strconv.uint64pow10" .u64 lJ) :
  aV aj 184 #[.int .u64 u,.int .i64 10] w fun e w'=>e=.returned (.string ⟨(aO u).toArray⟩)/\aB w.heap.size w w':=by
 by_cases h:u<100
 ·refine (Cc u _ rfl h w).mono ?_;rintro e w' ⟨rfl,rfl⟩;exact⟨rfl,ax _ _⟩
 have HF:=aa (On u (by omega) hu64 w htab);clear h htab;go_enter Tryz.func184,Tryz.ntmps184
 go_wp2_with fail
 refine HF.out.mono ?_;rintro e w' ⟨rfl,hb⟩;go_wp2_with fail
 go_ret
 exact⟨rfl,hb⟩
theorem Om {w : af} (htab : jY aj w "internal/strconv.uint64pow10" .u64 lJ) : Ke w (fun i => i < 18446744073709551616) :=
 fun w' i z hb hz hi=>by
  subst hz;exact Oo i hi w' (oD htab hb)
theorem xz (va : ak) (xs : List Nat) (w : af) (htab : jY aj w "internal/strconv.uint64pow10" .u64 lJ) (hx : Sl w .u32 va xs) (dx : fK bf xs) (lx : xs.length ≤ 10000) :
  aV aj 151 #[va] w fun e w'=>e=.returned (.string ⟨(aO (val bf xs)).toArray⟩)/\aB w.heap.size w w':=
 C7 _ va xs w (Om htab) hx dx lx (fun g hg _=>by have hG:G9=1000000000:=rfl;show g<18446744073709551616;omega) (fun _ g hg=>by have hG:G9=1000000000:=rfl;show G9+g<18446744073709551616;omega)
end Go.Proofs.YtoncclhbdkjhmaaGreatDoor
namespace Go.Proofs.YtoncclhbdkjhmaaGreatDoor
open Go.RowKit
set_option maxRecDepth 100000
def sg (b:Bool) (n:Nat):Int:=if b then -(n:Int) else (n:Int)
theorem qK (b:Bool) (n:Nat):(sg b n).natAbs=n:=by cases b<;>simp[sg]
theorem Kw (b:Bool) (n:Nat):decide (sg b n<0)=(b && decide (0<n)):=by
 cases b
 ·simp[sg]
 simp[sg]
def GI (w:af) (v:ak) (z:Int) (k:Nat):Prop:=∃ b va n,v=.agg #[.bool b,va]/\GN w va n k/\z=sg b n
def CI (w:af) (v:ak) (z:Int) (k:Nat):Prop:=∃ va,v=.agg #[.bool (decide (z<0)),va]/\Sl w .u32 va (fJ bf z.natAbs)/\z.natAbs<bf ^ k
theorem GI.below {w w':af} {v:ak} {z:Int} {k:Nat} (h:GI w v z k) (hb:aB w.heap.size w w'):GI w' v z k:=by
 obtain⟨b,va,n,rfl,h,rfl⟩:=h;exact⟨b,va,n,rfl,h.below hb,rfl⟩
theorem CI.below {w w':af} {v:ak} {z:Int} {k:Nat} (h:CI w v z k) (hb:aB w.heap.size w w'):CI w' v z k:=by
 obtain⟨va,rfl,h,h2⟩:=h;exact⟨va,rfl,h.below hb,h2⟩
theorem CI.gi {w:af} {v:ak} {z:Int} {k:Nat} (h:CI w v z k):GI w v z k:=by
 obtain⟨va,rfl,h,h2⟩:=h;refine⟨_,va,_,rfl,Lu h h2,?_⟩;unfold sg
 by_cases hz:z<0
 ·rw[if_pos (by simpa using hz)];omega
 rw[if_neg (by simpa using hz)];omega
theorem OJ {w:af} {b:Bool} {n k:Nat} {va:ak} (h:Sl w .u32 va (fJ bf n)) (hn:n<bf ^ k):CI w (.agg #[.bool (b && decide (0<n)),va]) (sg b n) k:=
 ⟨va,by rw[Kw],by rw[qK];exact h,by rw[qK];exact hn⟩
theorem rP {n:Nat}:0<n->0<(fJ bf n).length:=fun h=>by
 rcases fG (fJ bf n).length with h0 | h0
 ·have:=jQ (B:=bf) (by decide) n;rw[dJ h0] at this
  simp[val] at this;omega
 exact h0
theorem hO (b:Bool) (va:ak) (n k:Nat) (w:af) (hs:Sl w .u32 va (fJ bf n)) (hn:n<bf ^ k) :
  aV aj 90 #[.bool b,va] w fun e w'=>∃ v,e=.returned v/\CI w' v (sg b n) k/\aB w.heap.size w w':=by
 have Un:∀ w' B,B=(b && decide (0<n))->aB w.heap.size w w'->CI w' (.agg #[.bool B,va]) (sg b n) k:=fun w' B e hb=>by subst e;exact OJ (hs.below hb) hn
 obtain⟨ao,ac,rfl⟩:=eJ hs;have HS:=aa Un;clear Un hs hn
 cases b
 ·go_enter Tryz.func90,Tryz.ntmps90
  go_wp2
  exact aJ (v:=.agg #[.bool false,.slice ao (fJ bf n).length ac]) (by simp[results,Tryz.results90,go_sem]) rfl ⟨_,rfl,HS.out _ _ rfl ((ax _ _).alloc (ag _) _),(ax _ _).alloc (ag _) _⟩
 by_cases h0:0<n
 ·have hl:=rP h0;have HD:=aa (show true=(true && decide (0<n)) by simp[h0]);go_enter Tryz.func90,Tryz.ntmps90
  go_wp2
  exact aJ (v:=.agg #[.bool true,.slice ao (fJ bf n).length ac]) (by simp[results,Tryz.results90,go_sem]) rfl ⟨_,rfl,HS.out _ _ HD.out ((ax _ _).alloc (ag _) _),(ax _ _).alloc (ag _) _⟩
 obtain rfl:n=0:=by omega
 have HD:=aa (show false=(true && decide (0<0)) by simp);have hl:(fJ bf 0).length<=0:=by rw[fF];exact ag _
 have hd:decide (0<(fJ bf 0).length)=false:=by rw[decide_eq_false_iff_not];omega
 go_enter Tryz.func90,Tryz.ntmps90
 go_wp2
 exact aJ (v:=.agg #[.bool false,.slice ao (fJ bf 0).length ac]) (by simp[results,Tryz.results90,go_sem]) rfl ⟨_,rfl,HS.out _ _ HD.out ((ax _ _).alloc (ag _) _),(ax _ _).alloc (ag _) _⟩
theorem GN.shape {w:af} {v:ak} {n k:Nat} (h:GN w v n k):∃ ao l c,v=.slice ao l c/\l<=k:=by
 obtain⟨xs,h,_,_,hk⟩:=h;obtain⟨ao,c,rfl⟩:=eJ h;exact⟨ao,_,c,rfl,hk⟩
theorem Kn {va:ak} {n k:Nat} {w:af} (hx:GN w va n k) (hk:k<=1000000) :
  aV aj 110 #[va] w fun e w'=>∃ v,e=.returned v/\Sl w' .u32 v (fJ bf n)/\aB w.heap.size w w':=by
 obtain⟨xs,hx,dx,rfl,lx⟩:=hx;exact (xx _ xs w hx dx (by omega)).mono fun _ _ ⟨v,he,hs,hb⟩=>⟨v,he,hs.sl,hb⟩
theorem CI.shape {w:af} {v:ak} {z:Int} {k:Nat} (h:CI w v z k):∃ b ao l c,v=.agg #[.bool b,.slice ao l c]:=by
 obtain⟨va,rfl,h,_⟩:=h;obtain⟨ao,c,rfl⟩:=eJ h;exact⟨_,ao,_,c,rfl⟩
theorem GI.shape {w:af} {v:ak} {z:Int} {k:Nat} (h:GI w v z k):∃ b ao l c n,v=.agg #[.bool b,.slice ao l c]/\GN w (.slice ao l c) n k/\z=sg b n:=by
 obtain⟨b,va,n,rfl,h,rfl⟩:=h;obtain⟨ao,l,c,rfl,_⟩:=h.shape;exact⟨b,ao,l,c,n,rfl,h,rfl⟩
theorem bR {w:af} {g:Nat} {T:aZ} {a b:ak} (h:w.heap[g]?=some (.cells #[a,b] T (0,0))) :
  w.cell? ⟨g,0,none⟩=some a/\w.cell? ⟨g,1,none⟩=some b/\w.frozen? ⟨g,0,none⟩=false/\w.frozen? ⟨g,1,none⟩=false:=
 ⟨by rw[cT w g 0 _ T (0,0) h];rfl,by rw[cT w g 1 _ T (0,0) h];rfl,je w g 0 _ T h,je w g 1 _ T h⟩
theorem Sl.set {w:af} {k:cy} {v:ak} {xs:List Nat} (h:Sl w k v xs) {p:cu} {u:ak} (hc:w.cell? p=some u) (hu:∀ k z,u ≠ .int k z) (x:ak):Sl (w.setCell p x) k v xs:=by
 obtain⟨ao,cap,rfl,h1,h2,h3,h4⟩:=h;refine⟨ao,cap,rfl,h1,h2,h3,fun i hi=>?_⟩;obtain⟨a,ha,hq⟩:=h4 i hi;refine⟨a,ha,?_⟩;rw[World.cell?_setCell_other w p (a.add i) x (fun e=>by rw[<-e,hc] at hq;injection hq with hq;exact hu _ _ hq)];exact hq
theorem Sl.uE {w:af} {k:cy} {v:ak} {xs:List Nat} (h:Sl w k v xs) {g:Nat} {T:aZ} {b0:Bool} {a0:Option cu} {n0 c0:Nat} (hB:w.heap[g]?=some (.cells #[.bool b0,.slice a0 n0 c0] T (0,0))) (x y:ak) :
  Sl ((w.setCell ⟨g,0,none⟩ x).setCell ⟨g,1,none⟩ y) k v xs:=by
 obtain⟨q0,q1,_,_⟩:=bR hB;refine (h.set q0 (by intro k z e;cases e) x).set (u:=.slice a0 n0 c0) ?_ (by intro k z e;cases e) y;rw[World.cell?_setCell_other w _ _ x (by intro e;injection e with _ e;omega)];exact q1
theorem CI.uE {w:af} {v:ak} {z:Int} {k:Nat} (h:CI w v z k) {g:Nat} {T:aZ} {b0:Bool} {a0:Option cu} {n0 c0:Nat} (hB:w.heap[g]?=some (.cells #[.bool b0,.slice a0 n0 c0] T (0,0))) (x y:ak) :
  CI ((w.setCell ⟨g,0,none⟩ x).setCell ⟨g,1,none⟩ y) v z k:=by
 obtain⟨va,rfl,h,h2⟩:=h;exact⟨va,rfl,h.uE hB x y,h2⟩
theorem Av {B:Nat} {w w':af} (h:aB B w w') (hB:B<=w.heap.size) (x y:ak):aB B w ((w'.setCell ⟨w.heap.size,0,none⟩ x).setCell ⟨w.heap.size,1,none⟩ y):=
 (h.setCell (by simpa using hB) _).setCell (by simpa using hB) _
theorem mY (b:Bool) (va:ak) (n k:Nat) (w:af) (hx:GN w va n k) (hk:k<=1000000) :
  aV aj 58 #[.bool b,va] w fun e w'=>∃ v,e=.returned v/\CI w' v (sg b n) k/\aB w.heap.size w w':=by
 have hn:=hx.lt;have hx':=hx;obtain⟨ao,l,c,rfl,hl⟩:=hx.shape;go_enter Tryz.func58,Tryz.ntmps58
 go_wp2_with fail
 refine (Kn (hx'.below ((ax _ _).alloc (ag _) _)) hk).mono ?_;rintro e w1 ⟨v1,rfl,s1,gp⟩;have JE:=(gp.block w.heap.size (by simp)).trans (bz w _);have Of:aB w.heap.size w w1:=((ax _ _).alloc (ag _) _).trans (gp.mono (by simp));go_wp2_with fail
 refine (hO b v1 n k w1 s1 hn).mono ?_;rintro e w2 ⟨v2,rfl,c2,e_⟩;have Is:=(e_.block w.heap.size (ae JE)).trans JE;have fx:aB w.heap.size w w2:=Of.trans (e_.mono Of.size);obtain⟨bb,bo,bl,bc,rfl⟩:=c2.shape;obtain⟨q0,q1,f0,f1⟩:=bR Is;have HB:=aa Is;clear JE Is;go_wp2_with fail
 exact aJ (v:=.agg #[.bool bb,.slice bo bl bc]) (by simp[results,Tryz.results58,go_sem,q0,q1]) rfl ⟨_,rfl,c2.uE HB.out _ _,Av fx (ag _) _ _⟩
theorem Nf {va vb:ak} {m n k1 k2:Nat} {w:af} (hx:GN w va m k1) (hy:GN w vb n k2) (h1:k1<=1000000) (h2:k2<=1000000) :
  aV aj 99 #[va,vb] w fun e w'=>∃ v,e=.returned v/\Sl w' .u32 v (fJ bf (m*n))/\aB w.heap.size w w':=by
 obtain⟨xs,hx,dx,rfl,lx⟩:=hx;obtain⟨ys,hy,dy,rfl,ly⟩:=hy;exact G0 _ _ _ _ w hx hy dx dy (by omega) (by omega)
theorem OS {va vb:ak} {m n k1 k2:Nat} {w:af} (hx:GN w va m k1) (hy:GN w vb n k2) (h1:k1<=1000000) (h2:k2<=1000000) :
  aV aj 97 #[va,vb] w fun e w'=>∃ v,e=.returned v/\Sl w' .u32 v (fJ bf (m+n))/\aB w.heap.size w w':=by
 obtain⟨xs,hx,dx,rfl,lx⟩:=hx;obtain⟨ys,hy,dy,rfl,ly⟩:=hy;exact IM _ _ _ _ w hx hy dx dy (by omega) (by omega)
theorem GN.drew {w:af} {v:ak} {n k:Nat} (h:GN w v n k):GN w.drew v n k:=h
theorem GN.alloc {w:af} {v:ak} {n k:Nat} (h:GN w v n k) (o:Obj):GN (w.alloc o) v n k:=h.below ((ax _ _).alloc (ag _) _)
theorem ck {B:Nat} {w w1:af} (h:aB B w.drew w1):aB B w w1:=⟨h.os,h.tape,h.output,h.size,h.block⟩
theorem wP {w w1:af} {T1 T2:aZ} {c1 c2:Array ak} (hb:aB (w.heap.size+2) ((w.alloc (.cells c1 T1)).alloc (.cells c2 T2)) w1) :
  w1.heap[w.heap.size]?=some (.cells c1 T1 (0,0))/\w1.heap[w.heap.size+1]?=some (.cells c2 T2 (0,0)):=by
 have h1:=bz (w.alloc (.cells c1 T1)) (.cells c2 T2);refine⟨(hb.block _ (by omega)).trans ?_,(hb.block _ (by omega)).trans (by simpa using h1)⟩;rw[nG _ _ _ (by simp)];exact bz w _
theorem qA {w w1:af} {T1 T2 T3:aZ} {c1 c2 c3:Array ak} (hb:aB (w.heap.size+3) (((w.alloc (.cells c1 T1)).alloc (.cells c2 T2)).alloc (.cells c3 T3)) w1) :
  w1.heap[w.heap.size]?=some (.cells c1 T1 (0,0))/\w1.heap[w.heap.size+1]?=some (.cells c2 T2 (0,0))/\w1.heap[w.heap.size+2]?=some (.cells c3 T3 (0,0)):=by
 have h1:=bz ((w.alloc (.cells c1 T1)).alloc (.cells c2 T2)) (.cells c3 T3);obtain⟨a,b⟩:=wP (ax (w.heap.size+2) ((w.alloc (.cells c1 T1)).alloc (.cells c2 T2)));refine⟨(hb.block _ (by omega)).trans ?_,(hb.block _ (by omega)).trans ?_,(hb.block _ (by omega)).trans (by simpa using h1)⟩
 ·rw[nG _ _ _ (by simp;omega)];exact a
 rw[nG _ _ _ (by simp)];exact b
theorem EM (w:af) (o1 o2:Obj):aB w.heap.size w ((w.alloc o1).alloc o2):=((ax _ _).alloc (ag _) _).alloc (by simp) _
theorem Aw (w:af) (o1 o2 o3:Obj):aB w.heap.size w (((w.alloc o1).alloc o2).alloc o3):=(EM w o1 o2).alloc (by simp;omega) _
theorem ie {B g:Nat} {w w':af} (h:aB B w w') (hB:B<=g) (x y:ak):aB B w ((w'.setCell ⟨g,0,none⟩ x).setCell ⟨g,1,none⟩ y):=
 (h.setCell (by simpa using hB) _).setCell (by simpa using hB) _
theorem Ac {w:af} {g g' o:Nat} {x y:ak} (h:g'≠g):((w.setCell ⟨g,0,none⟩ x).setCell ⟨g,1,none⟩ y).cell? ⟨g',o,none⟩=w.cell? ⟨g',o,none⟩:=by
 rw[World.cell?_setCell_other _ _ _ _ (by intro e;injection e with e;omega),World.cell?_setCell_other _ _ _ _ (by intro e;injection e with e;omega)]
theorem Kx (a b:Bool) (m n:Nat):sg a m*sg b n=sg (a != b) (m*n):=by
 cases a<;>cases b<;>simp[sg,Int.neg_mul,Int.mul_neg]
theorem MT (va vb:ak) (y z:Int) (k1 k2:Nat) (w:af) (hx:GI w va y k1) (hy:GI w vb z k2) (h1:k1<=1000000) (h2:k2<=1000000) :
  aV aj 48 #[va,vb] w fun e w'=>∃ v,e=.returned v/\CI w' v (y*z) (k1+k2)/\aB w.heap.size w w':=by
 obtain⟨b,ao,l,c,m,rfl,hg,rfl⟩:=hx.shape;obtain⟨d,po,pl,pc,n,rfl,oW,rfl⟩:=hy.shape;have hn:m*n<bf ^ (k1+k2):=by rw[Nat.pow_add];exact Nat.mul_lt_mul'' hg.lt oW.lt
 rw[Kx];have hW:=Aw w (.cells #[.bool b,.slice ao l c] 26) (.cells #[.bool d,.slice po pl pc] 26) (.cells #[.bool false,.slice none 0 0] 26);go_enter Tryz.func48,Tryz.ntmps48
 go_wp2_with fail
 go_region_held3 (fun w'=>w'.cell? ⟨w.heap.size,0,none⟩=some (.bool b)/\w'.cell? ⟨w.heap.size,1,none⟩=some (.slice ao l c)/\w'.cell? ⟨w.heap.size+1,0,none⟩=some (.bool d)/\w'.cell? ⟨w.heap.size+1,1,none⟩=some (.slice po pl pc))
  (first | exact⟨vr,vq,vp,ug⟩ | exact⟨(Ac (by omega)).trans vr,(Ac (by omega)).trans vq,(Ac (by omega)).trans vp,(Ac (by omega)).trans ug⟩ | go_keep)
  (first
   | (go_at_call 99;refine (Nf (((hg.alloc _).alloc _).alloc _).drew (((oW.alloc _).alloc _).alloc _).drew h1 h2).mono ?_;rintro e w2 ⟨v2,rfl,s2,e_⟩;have eR:=qA (ck (e_.mono (by simp)));have fx:=hW.trans (ck (e_.mono (by simp;omega)));clear e_;obtain⟨vr,vq,_,_⟩:=bR eR.1;obtain⟨vp,ug,_,_⟩:=bR eR.2.1)
   | (
     go_at_call 90;refine (hO _ v2 _ (k1+k2) w2 s2 hn).mono ?_;rintro e w3 ⟨v3,rfl,c3,lN⟩;obtain⟨bb,bo,bl,bc,rfl⟩:=c3.shape
     have n_:=(lN.block _ (ae eR.1)).trans eR.1;have iA:=(lN.block _ (ae eR.2.1)).trans eR.2.1;have pO:=(lN.block _ (ae eR.2.2)).trans eR.2.2;have qU:=fx.trans (lN.mono fx.size);clear lN eR fx vr vq vp ug
     obtain⟨vr,vq,_,_⟩:=bR n_;obtain⟨vp,ug,_,_⟩:=bR iA;obtain⟨q0,q1,f0,f1⟩:=bR pO;have HB:=aa pO;clear n_ iA pO))
 go_wp2_with fail
 exact aJ (v:=.agg #[.bool bb,.slice bo bl bc]) (by simp[results,Tryz.results48,go_sem,q0,q1]) rfl ⟨_,rfl,c3.uE HB.out _ _,ie qU (by omega) _ _⟩
theorem LJ {n:Nat}:bl n=0 ↔ n=0:=⟨fun h=>by rcases fG n with h0 | h0;exact h0;exact absurd h (by have:=LI h0;omega),fun h=>by rw[h,sH]⟩
def dQ (z:Int):Int:=if z=0 then 0 else if z<0 then -1 else 1
theorem fB (va:ak) (z:Int) (k:Nat) (w:af) (hx:GI w va z k) (hk:k<=1000000) :
  aV aj 51 #[va] w fun e w'=>e=.returned (.int .i64 (dQ z))/\aB w.heap.size w w':=by
 obtain⟨b,ao,l,c,n,rfl,hg,rfl⟩:=hx.shape
 by_cases h0:n=0
 ·subst h0;have HB:=aa (show dQ (sg b 0)=0 by cases b<;>simp[dQ,sg]);have hz:(((bl 0:Nat):Int)==0)=true:=by rw[sH];rfl
  go_enter Tryz.func51,Tryz.ntmps51
  go_wp2_with fail
  refine (Au (hg.alloc _) hk).mono ?_;rintro e w3 ⟨rfl,rfl⟩;go_wp2_with fail
  go_ret
  exact⟨by rw[HB.out];rfl,(ax _ _).alloc (ag _) _⟩
 have hz:(((bl n:Nat):Int)==0)=false:=by rw[beq_eq_false_iff_ne];have:=mt LJ.1 h0;omega
 have hp:0<n:=by omega
 cases b
 ·have HB:=aa (show dQ (sg false n)=1 by unfold dQ sg;simp only[Bool.false_eq_true,if_false];rw[if_neg (by omega),if_neg (by omega)]);go_enter Tryz.func51,Tryz.ntmps51
  go_wp2_with fail
  refine (Au (hg.alloc _) hk).mono ?_;rintro e w3 ⟨rfl,rfl⟩;go_wp2_with fail
  go_ret
  exact⟨by rw[HB.out];rfl,(ax _ _).alloc (ag _) _⟩
 have HB:=aa (show dQ (sg true n) = -1 by unfold dQ sg;simp only[if_true];rw[if_neg (by omega),if_pos (by omega)]);go_enter Tryz.func51,Tryz.ntmps51
 go_wp2_with fail
 refine (Au (hg.alloc _) hk).mono ?_;rintro e w3 ⟨rfl,rfl⟩;go_wp2_with fail
 go_ret
 exact⟨by rw[HB.out];rfl,(ax _ _).alloc (ag _) _⟩
theorem Jc {va vb:ak} {m n k1 k2:Nat} {w:af} (hx:GN w va m k1) (hy:GN w vb n k2) (h1:k1<=1000000) (hle:n<=m) :
  aV aj 98 #[va,vb] w fun e w'=>∃ v,e=.returned (.tuple #[v,.bool true])/\Sl w' .u32 v (fJ bf (m - n))/\aB w.heap.size w w':=by
 obtain⟨xs,hx,dx,rfl,lx⟩:=hx;obtain⟨ys,hy,dy,rfl,ly⟩:=hy;exact Kt _ _ _ _ w hx hy dx dy (by omega) hle
theorem Ks {va vb:ak} {m n k1 k2:Nat} {w:af} (hx:GN w va m k1) (hy:GN w vb n k2) (hlt:m<n) :
  aV aj 98 #[va,vb] w fun e w'=>e=.returned (.tuple #[.slice none 0 0,.bool false])/\aB w.heap.size w w':=by
 obtain⟨xs,hx,dx,rfl,lx⟩:=hx;obtain⟨ys,hy,dy,rfl,ly⟩:=hy;exact sub_lt _ _ _ _ w hx hy dx dy hlt
theorem dZ {m k k':Nat} (h:m<bf ^ k) (hk:k<=k'):m<bf ^ k':=az h (dc (by decide) hk)
theorem Ky (b:Bool) (m n:Nat):sg b m+sg b n=sg b (m+n):=by
 cases b<;>simp[sg];omega
theorem Gu {b d:Bool} (h:b≠d) {m n:Nat} (hle:n<=m):sg b m+sg d n=sg b (m - n):=by
 cases b<;>cases d<;>simp[sg] at *<;>omega
theorem Gt {b d:Bool} (h:b≠d) {m n:Nat} (hle:m<=n):sg b m+sg d n=sg d (n - m):=by
 cases b<;>cases d<;>simp[sg] at *<;>omega
theorem xn (va vb:ak) (y z:Int) (k1 k2:Nat) (w:af) (hx:GI w va y k1) (hy:GI w vb z k2) (h1:k1<=1000000) (h2:k2<=1000000) :
  aV aj 47 #[va,vb] w fun e w'=>∃ v,e=.returned v/\CI w' v (y+z) (k1+k2+1)/\aB w.heap.size w w':=by
 obtain⟨b,ao,l,c,m,rfl,hg,rfl⟩:=hx.shape;obtain⟨d,po,pl,pc,n,rfl,oW,rfl⟩:=hy.shape;have Xt:=hg.lt;have Xs:=oW.lt;have hW:=Aw w (.cells #[.bool b,.slice ao l c] 26) (.cells #[.bool d,.slice po pl pc] 26) (.cells #[.bool false,.slice none 0 0] 26)
 by_cases hbd:b=d
 ·subst hbd;have hn:=zH Xt Xs;rw[Ky];have heq:(b==b)=true:=by cases b<;>rfl
  go_enter Tryz.func47,Tryz.ntmps47
  go_wp2_with fail
  go_region_held3 (fun w'=>w'.cell? ⟨w.heap.size,0,none⟩=some (.bool b)/\w'.cell? ⟨w.heap.size,1,none⟩=some (.slice ao l c)/\w'.cell? ⟨w.heap.size+1,1,none⟩=some (.slice po pl pc))
   (first | exact⟨vr,vq,ug⟩ | exact⟨(Ac (by omega)).trans vr,(Ac (by omega)).trans vq,(Ac (by omega)).trans ug⟩ | go_keep)
   (first
    | (go_at_call 97;refine (OS (((hg.alloc _).alloc _).alloc _).drew (((oW.alloc _).alloc _).alloc _).drew h1 h2).mono ?_;rintro e w2 ⟨v2,rfl,s2,e_⟩;have eR:=qA (ck (e_.mono (by simp)));have fx:=hW.trans (ck (e_.mono (by simp;omega)));clear e_;obtain⟨vr,vq,_,_⟩:=bR eR.1;obtain⟨vp,ug,_,_⟩:=bR eR.2.1)
    | (
      go_at_call 90;refine (hO _ v2 _ (k1+k2+1) w2 s2 hn).mono ?_;rintro e w3 ⟨v3,rfl,c3,lN⟩;obtain⟨bb,bo,bl,bc,rfl⟩:=c3.shape
      have n_:=(lN.block _ (ae eR.1)).trans eR.1;have iA:=(lN.block _ (ae eR.2.1)).trans eR.2.1;have pO:=(lN.block _ (ae eR.2.2)).trans eR.2.2;have qU:=fx.trans (lN.mono fx.size);clear lN eR fx vr vq vp ug
      obtain⟨vr,vq,_,_⟩:=bR n_;obtain⟨vp,ug,_,_⟩:=bR iA;obtain⟨q0,q1,f0,f1⟩:=bR pO;have HB:=aa pO;clear n_ iA pO))
  go_wp2_with fail
  exact aJ (v:=.agg #[.bool bb,.slice bo bl bc]) (by simp[results,Tryz.results47,go_sem,q0,q1]) rfl ⟨_,rfl,c3.uE HB.out _ _,ie qU (by omega) _ _⟩
 have heq:(b==d)=false:=by cases b<;>cases d<;>simp at hbd ⊢
 by_cases hle:n<=m
 ·have hn:m - n<bf ^ (k1+k2+1):=dZ (k:=k1) (by omega) (by omega);rw[Gu hbd hle];clear hbd;go_enter Tryz.func47,Tryz.ntmps47
  go_wp2_with fail
  refine (Jc (((hg.alloc _).alloc _).alloc _) (((oW.alloc _).alloc _).alloc _) h1 hle).mono ?_;rintro e w2 ⟨v2,rfl,s2,e_⟩;have eR:=qA (e_.mono (by simp));have fx:=hW.trans (e_.mono (by simp;omega));clear e_;obtain⟨vr,vq,_,_⟩:=bR eR.1;obtain⟨vp,ug,_,_⟩:=bR eR.2.1;have HK:=aa eR.2.2;clear eR;obtain⟨vo,vc,rfl⟩:=eJ s2;go_wp2_with fail
  refine (hO _ _ _ (k1+k2+1) w2 s2 hn).mono ?_;rintro e w3 ⟨v3,rfl,c3,lN⟩;obtain⟨bb,bo,bl,bc,rfl⟩:=c3.shape;have pO:=(lN.block _ (ae HK.out)).trans HK.out;have qU:=fx.trans (lN.mono fx.size);clear lN fx vr vq vp ug;obtain⟨q0,q1,f0,f1⟩:=bR pO;have HB:=aa pO;clear pO;go_wp2_with fail
  exact aJ (v:=.agg #[.bool bb,.slice bo bl bc]) (by simp[results,Tryz.results47,go_sem,q0,q1]) rfl ⟨_,rfl,c3.uE HB.out _ _,ie qU (by omega) _ _⟩
 have hn:n - m<bf ^ (k1+k2+1):=dZ (k:=k2) (by omega) (by omega);have hlt:m<n:=by omega
 have NW:m<=n:=by omega
 rw[Gt hbd NW];clear hbd hle;go_enter Tryz.func47,Tryz.ntmps47
 go_wp2_with fail
 refine (Ks (((hg.alloc _).alloc _).alloc _) (((oW.alloc _).alloc _).alloc _) hlt).mono ?_;rintro e w2 ⟨rfl,e_⟩;have eR:=qA (e_.mono (by simp));have fx:=hW.trans (e_.mono (by simp;omega));clear e_;obtain⟨vr,vq,_,_⟩:=bR eR.1;obtain⟨vp,ug,_,_⟩:=bR eR.2.1;have HK:=aa eR;clear eR;go_wp2_with fail
 refine (Jc (oW.below fx) (hg.below fx) h2 NW).mono ?_;rintro e w4 ⟨v4,rfl,s4,pQ⟩;have n_:=(pQ.block _ (ae HK.out.1)).trans HK.out.1;have iA:=(pQ.block _ (ae HK.out.2.1)).trans HK.out.2.1;have eR:=(pQ.block _ (ae HK.out.2.2)).trans HK.out.2.2;have oY:=fx.trans (pQ.mono fx.size);clear pQ vr vq vp ug;obtain⟨vr,vq,_,_⟩:=bR n_;obtain⟨vp,ug,_,_⟩:=bR iA;have Ff:=aa eR;clear n_ iA eR;obtain⟨vo,vc,rfl⟩:=eJ s4;go_wp2_with fail
 refine (hO _ _ _ (k1+k2+1) w4 s4 hn).mono ?_;rintro e w3 ⟨v3,rfl,c3,lN⟩;obtain⟨bb,bo,bl,bc,rfl⟩:=c3.shape;have pO:=(lN.block _ (ae Ff.out)).trans Ff.out;have qU:=oY.trans (lN.mono oY.size);clear lN oY fx vr vq vp ug;obtain⟨q0,q1,f0,f1⟩:=bR pO;have HB:=aa pO;clear pO;go_wp2_with fail
 exact aJ (v:=.agg #[.bool bb,.slice bo bl bc]) (by simp[results,Tryz.results47,go_sem,q0,q1]) rfl ⟨_,rfl,c3.uE HB.out _ _,ie qU (by omega) _ _⟩
theorem GI.alloc {w:af} {v:ak} {z:Int} {k:Nat} (h:GI w v z k) (o:Obj):GI (w.alloc o) v z k:=h.below ((ax _ _).alloc (ag _) _)
theorem Ok {w:af} {va:ak} {n k:Nat} (h:GN w va n k) (b:Bool):GI w (.agg #[.bool b,va]) (sg b n) k:=⟨b,va,n,rfl,h,rfl⟩
theorem CW (va vb:ak) (y z:Int) (k1 k2:Nat) (w:af) (hx:GI w va y k1) (hy:GI w vb z k2) (h1:k1<=1000000) (h2:k2<=1000000) :
  aV aj 79 #[va,vb] w fun e w'=>∃ v,e=.returned v/\CI w' v (y - z) (k1+k2+1)/\aB w.heap.size w w':=by
 obtain⟨b,ao,l,c,m,rfl,hg,rfl⟩:=hx.shape;obtain⟨d,po,pl,pc,n,rfl,oW,rfl⟩:=hy.shape;have hW:=Aw w (.cells #[.bool b,.slice ao l c] 26) (.cells #[.bool d,.slice po pl pc] 26) (.cells #[.bool false,.slice none 0 0] 26);rw[show sg b m - sg d n=sg b m+sg (!d) n by cases d<;>simp[sg]<;>omega];go_enter Tryz.func79,Tryz.ntmps79
 go_wp2_with fail
 refine (xn _ _ _ _ k1 k2 _ (((hx.alloc _).alloc _).alloc _) (Ok (((oW.alloc _).alloc _).alloc _) (!d)) h1 h2).mono ?_;rintro e w3 ⟨v3,rfl,c3,lN⟩;obtain⟨bb,bo,bl,bc,rfl⟩:=c3.shape;have pO:=(qA (lN.mono (by simp))).2.2;have qU:=hW.trans (lN.mono (by simp;omega));clear lN;obtain⟨q0,q1,f0,f1⟩:=bR pO;have HB:=aa pO;clear pO;go_wp2_with fail
 exact aJ (v:=.agg #[.bool bb,.slice bo bl bc]) (by simp[results,Tryz.results79,go_sem,q0,q1]) rfl ⟨_,rfl,c3.uE HB.out _ _,ie qU (by omega) _ _⟩
theorem yG (a b:Int) (w:af):aV aj 95 #[.int .i64 a,.int .i64 b] w fun e w'=>e=.returned (.int .i64 (dQ (a - b)))/\w=w':=by
 have HN:∀ (x:Int) (w:af),aV aj 143 #[.int .i64 x] w fun e w'=>e=.returned (.bool false)/\w=w':=by
  intro x w;go_enter Tryz.func143,Tryz.ntmps143
  go_wp2
  go_ret
  exact⟨by simp,rfl⟩
 rcases Int.lt_trichotomy a b with h | h | h
 ·have HS:=aa (show dQ (a - b) = -1 by unfold dQ;rw[if_neg (by omega),if_pos (by omega)]);have H:=aa HN;clear HN;go_enter Tryz.func95,Tryz.ntmps95
  go_wp2_with fail
  refine (H.out a _).mono ?_;rintro e w' ⟨rfl,rfl⟩;go_wp2_with fail
  refine (H.out b _).mono ?_;rintro e w' ⟨rfl,rfl⟩;go_wp2_with fail
  go_ret
  exact⟨by rw[HS.out];rfl,rfl⟩
 ·subst h;have HS:=aa (show dQ (a - a)=0 by unfold dQ;rw[if_pos (by omega)]);have H:=aa HN;clear HN;go_enter Tryz.func95,Tryz.ntmps95
  go_wp2_with fail
  refine (H.out a _).mono ?_;rintro e w' ⟨rfl,rfl⟩;go_wp2_with fail
  refine (H.out a _).mono ?_;rintro e w' ⟨rfl,rfl⟩;go_wp2_with fail
  go_ret
  exact⟨by rw[HS.out];rfl,rfl⟩
 have HS:=aa (show dQ (a - b)=1 by unfold dQ;rw[if_neg (by omega),if_neg (by omega)]);have H:=aa HN;clear HN;have h':¬ a<b:=by omega
 go_enter Tryz.func95,Tryz.ntmps95
 go_wp2_with fail
 refine (H.out a _).mono ?_;rintro e w' ⟨rfl,rfl⟩;go_wp2_with fail
 refine (H.out b _).mono ?_;rintro e w' ⟨rfl,rfl⟩;go_wp2_with fail
 go_ret
 exact⟨by rw[HS.out];rfl,rfl⟩
theorem M9 (n:Nat) (z:Int) (w:af) (hz:z=(n:Int)) (hn:n<18446744073709551616) :
  aV aj 91 #[.int .u64 z] w fun e w'=>∃ v,e=.returned v/\Sl w' .u32 v (fJ bf n)/\n<bf ^ 2/\aB w.heap.size w w':=
 (KI n z w hz hn).mono fun _ _ ⟨v,he,hs,hb⟩=>⟨v,he,hs,Nat.lt_of_lt_of_eq hn (by decide),hb⟩
theorem si (z:Int) (w:af) (h1 : -9223372036854775808<=z) (h2:z<=9223372036854775807) :
  aV aj 42 #[.int .i64 z] w fun e w'=>∃ v,e=.returned v/\CI w' v z 2/\aB w.heap.size w w':=by
 have hW:aB w.heap.size w (w.alloc (.cells #[.bool false,.slice none 0 0] 26)):=(ax _ _).alloc (ag _) _
 by_cases hz:z<0
 ·have HZ:=aa (show sg true z.natAbs=z by simp[sg];omega);go_enter Tryz.func42,Tryz.ntmps42
  go_wp2_with fail
  refine (M9 z.natAbs _ _ (by simp only[IntKind.wrap_u64];omega) (by omega)).mono ?_;rintro e w2 ⟨v2,rfl,s2,hn,e_⟩;have eR:=(e_.block w.heap.size (by simp)).trans (bz w _);have fx:=hW.trans (e_.mono (by simp));clear e_;obtain⟨vo,vc,rfl⟩:=eJ s2;go_wp2_with fail
  refine (hO _ _ _ 2 w2 s2 hn).mono ?_;rintro e w3 ⟨v3,rfl,c3,lN⟩;obtain⟨bb,bo,bl,bc,rfl⟩:=c3.shape;have pO:=(lN.block _ (ae eR)).trans eR;have qU:=fx.trans (lN.mono fx.size);clear lN eR fx;obtain⟨q0,q1,f0,f1⟩:=bR pO;have HB:=aa pO;clear pO;rw[HZ.out] at c3;go_wp2_with fail
  exact aJ (v:=.agg #[.bool bb,.slice bo bl bc]) (by simp[results,Tryz.results42,go_sem,q0,q1]) rfl ⟨_,rfl,c3.uE HB.out _ _,ie qU (by omega) _ _⟩
 have HZ:=aa (show sg false z.natAbs=z by simp[sg];omega);go_enter Tryz.func42,Tryz.ntmps42
 go_wp2_with fail
 refine (M9 z.natAbs _ _ (by omega) (by omega)).mono ?_;rintro e w2 ⟨v2,rfl,s2,hn,e_⟩;have eR:=(e_.block w.heap.size (by simp)).trans (bz w _);have fx:=hW.trans (e_.mono (by simp));clear e_;obtain⟨vo,vc,rfl⟩:=eJ s2;go_wp2_with fail
 refine (hO _ _ _ 2 w2 s2 hn).mono ?_;rintro e w3 ⟨v3,rfl,c3,lN⟩;obtain⟨bb,bo,bl,bc,rfl⟩:=c3.shape;have pO:=(lN.block _ (ae eR)).trans eR;have qU:=fx.trans (lN.mono fx.size);clear lN eR fx;obtain⟨q0,q1,f0,f1⟩:=bR pO;have HB:=aa pO;clear pO;rw[HZ.out] at c3;go_wp2_with fail
 exact aJ (v:=.agg #[.bool bb,.slice bo bl bc]) (by simp[results,Tryz.results42,go_sem,q0,q1]) rfl ⟨_,rfl,c3.uE HB.out _ _,ie qU (by omega) _ _⟩
theorem AW (z:Int) : -1<=dQ z/\dQ z<=1:=by unfold dQ;split;omega;split<;>omega
theorem BP {y z:Int} (h:dQ y≠dQ z):dQ (dQ y - dQ z)=dQ (y - z):=by
 unfold dQ at h ⊢
 split at h<;>split at h<;>(try split at h)<;>(try split at h)<;>simp_all<;>first | omega | (rw[if_neg (by omega)];first | rw[if_pos (by omega)] | rw[if_neg (by omega)])
theorem BO {b d:Bool} {m n:Nat} (h:dQ (sg b m)=dQ (sg d n)):dQ (sg b m)*mV m n=dQ (sg b m - sg d n):=by
 unfold dQ sg mV at *
 cases b<;>cases d<;>simp at h ⊢<;>(repeat' split at h)<;>(repeat' split)<;>first | rfl | omega
theorem C0 (va vb:ak) (y z:Int) (k1 k2:Nat) (w:af) (hx:GI w va y k1) (hy:GI w vb z k2) (h1:k1<=1000000) (h2:k2<=1000000) :
  aV aj 45 #[va,vb] w fun e w'=>e=.returned (.int .i64 (dQ (y - z)))/\aB w.heap.size w w':=by
 have N1:=hx;have RA:=hy;obtain⟨b,ao,l,c,m,rfl,hg,rfl⟩:=hx.shape;obtain⟨d,po,pl,pc,n,rfl,oW,rfl⟩:=hy.shape;have hW:=EM w (.cells #[.bool b,.slice ao l c] 26) (.cells #[.bool d,.slice po pl pc] 26)
 by_cases hs:dQ (sg b m)=dQ (sg d n)
 ·have HE:=aa (BO hs);have HS:=aa hs;have Ft:=AW (sg b m);have nI:=AW (sg b m - sg d n);have hne:(dQ (sg d n) != dQ (sg d n))=false:=by simp
  clear hs;go_enter Tryz.func45,Tryz.ntmps45
  go_wp2_with fail
  refine (fB _ _ k1 _ ((N1.alloc _).alloc _) h1).mono ?_;rintro e w2 ⟨rfl,e_⟩;have eR:=wP (e_.mono (by simp));have fx:=hW.trans (e_.mono (by simp;omega));clear e_;obtain⟨vr,vq,_,_⟩:=bR eR.1;obtain⟨vp,ug,_,_⟩:=bR eR.2;have HK:=aa eR;clear eR;rw[HS.out];go_wp2_with fail
  refine (fB _ _ k2 _ (RA.below fx) h2).mono ?_;rintro e w4 ⟨rfl,pQ⟩;have n_:=(pQ.block _ (ae HK.out.1)).trans HK.out.1;have iA:=(pQ.block _ (ae HK.out.2)).trans HK.out.2;have oY:=fx.trans (pQ.mono fx.size);clear pQ vr vq vp ug;obtain⟨vr,vq,_,_⟩:=bR n_;obtain⟨vp,ug,_,_⟩:=bR iA;have Vw:=aa n_;have J':=aa iA;clear n_ iA;go_wp2_with fail
  refine (OI (hg.below oY) (oW.below oY)).mono ?_;rintro e w5 ⟨rfl,Fw⟩;have Ll:=oY.trans (Fw.mono oY.size);have HP:=aa (show dQ (sg d n)*mV m n=dQ (sg b m - sg d n) by rw[<-HS.out];exact HE.out);have p1 : -9223372036854775808<=dQ (sg d n)*mV m n:=by rw[HP.out];omega
  have p2:dQ (sg d n)*mV m n<=9223372036854775807:=by rw[HP.out];omega
  clear Fw;go_wp2_with fail
  go_ret
  exact⟨by rw[<-HP.out];rfl,Ll⟩
 have HD:=aa (BP hs);have hne:(dQ (sg b m) != dQ (sg d n))=true:=by rw[bne_iff_ne];exact hs
 clear hs;go_enter Tryz.func45,Tryz.ntmps45
 go_wp2_with fail
 refine (fB _ _ k1 _ ((N1.alloc _).alloc _) h1).mono ?_;rintro e w2 ⟨rfl,e_⟩;have eR:=wP (e_.mono (by simp));have fx:=hW.trans (e_.mono (by simp;omega));clear e_;obtain⟨vp,ug,_,_⟩:=bR eR.2;have HK:=aa eR.2;clear eR;go_wp2_with fail
 refine (fB _ _ k2 _ (RA.below fx) h2).mono ?_;rintro e w4 ⟨rfl,pQ⟩;have iA:=(pQ.block _ (ae HK.out)).trans HK.out;have oY:=fx.trans (pQ.mono fx.size);clear pQ vp ug;obtain⟨vp,ug,_,_⟩:=bR iA;clear iA;go_wp2_with fail
 refine (fB _ _ k2 _ (RA.below oY) h2).mono ?_;rintro e w5 ⟨rfl,Fw⟩;have Ll:=oY.trans (Fw.mono oY.size);clear Fw vp ug;go_wp2_with fail
 refine (yG _ _ _).mono ?_;rintro e w6 ⟨rfl,rfl⟩;rw[HD.out];go_wp2_with fail
 go_ret
 exact⟨rfl,Ll⟩
def jb (z:Int):List UInt8:=if z<0 then 45::aO z.natAbs else aO z.natAbs
theorem OQ (l:List UInt8):((⟨#[45]⟩:ByteArray)++(⟨l.toArray⟩:ByteArray))=⟨(45::l).toArray⟩:=by
 apply ByteArray.ext
 simp[ByteArray.data_append]
theorem ID {n k:Nat} (h:n<bf ^ k) (hk:k<=10000):(aO n).length<=100001:=by
 have h1:bf ^ k<=10 ^ (10*k):=by rw[Nat.pow_mul];exact Nat.pow_le_pow_left (by decide) _
 have:=js (k:=10*k+1) (az h (ai h1 (dc (by decide) (by omega)))) (by omega)
 omega
theorem uQ (va : ak) (z : Int) (k : Nat) (w : af) (htab : jY aj w "internal/strconv.uint64pow10" .u64 lJ) (hx : GI w va z k) (hk : k ≤ 10000) :
  aV aj 101 #[va] w fun e w'=>e=.returned (.string ⟨(jb z).toArray⟩)/\aB w.heap.size w w':=by
 have N1:=hx;obtain⟨b,ao,l,c,n,rfl,hg,rfl⟩:=hx.shape;have hW:aB w.heap.size w (w.alloc (.cells #[.bool b,.slice ao l c] 26)):=(ax _ _).alloc (ag _) _;have pF:=hg;obtain⟨xs,hs,dx,rfl,lx⟩:=pF;have HN:=aa (qK b (val bf xs));have RD:=ID hg.lt hk
 by_cases hz:sg b (val bf xs)<0
 ·have HS:=aa (show dQ (sg b (val bf xs)) = -1 by unfold dQ;rw[if_neg (by omega),if_pos hz]);have HT:=aa (show jb (sg b (val bf xs))=45::aO (val bf xs) by unfold jb;rw[if_pos hz,HN.out]);clear hz;go_enter Tryz.func101,Tryz.ntmps101
  go_wp2_with fail
  refine (fB _ _ k _ (N1.alloc _) (by omega)).mono ?_;rintro e w2 ⟨rfl,e_⟩;have eR:=(e_.block w.heap.size (by simp)).trans (bz w _);have fx:=hW.trans (e_.mono (by simp));clear e_;obtain⟨vr,vq,_,_⟩:=bR eR;clear eR;rw[HS.out];go_wp2_with fail
  refine (xz _ xs w2 (oD htab fx) (hs.below fx) dx (by omega)).mono ?_;rintro e w4 ⟨rfl,pQ⟩;have oY:=fx.trans (pQ.mono fx.size);go_wp2_with fail
  go_ret
  exact⟨by rw[HT.out,<-OQ];rfl,oY⟩
 have HS:=aa (show (0:Int)<=dQ (sg b (val bf xs)) by unfold dQ;rw[if_neg hz];split<;>omega);have HT:=aa (show jb (sg b (val bf xs))=aO (val bf xs) by unfold jb;rw[if_neg hz,HN.out]);clear hz;have h0:=HS.out;go_enter Tryz.func101,Tryz.ntmps101
 go_wp2_with fail
 refine (fB _ _ k _ (N1.alloc _) (by omega)).mono ?_;rintro e w2 ⟨rfl,e_⟩;have eR:=(e_.block w.heap.size (by simp)).trans (bz w _);have fx:=hW.trans (e_.mono (by simp));clear e_;obtain⟨vr,vq,_,_⟩:=bR eR;clear eR;go_wp2_with fail
 refine (xz _ xs w2 (oD htab fx) (hs.below fx) dx (by omega)).mono ?_;rintro e w4 ⟨rfl,pQ⟩;have oY:=fx.trans (pQ.mono fx.size);go_wp2_with fail
 go_ret
 exact⟨by rw[HT.out];rfl,oY⟩
def zn (l:List UInt8):Int:=if l.head?=some 45 then -(dn (l.drop 1):Int) else (dn l:Int)
end Go.Proofs.YtoncclhbdkjhmaaGreatDoor
