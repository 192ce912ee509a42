/-
 Joined texts: KBase,KNat,KRef,Shelf,KText,KMul,aO,KSh.
-/
import Init
import Derived.WalkKit
import Derived.WalkSpells
import Derived.WalkLawsBesides
import Derived.Lib.Hide
import Derived.Laws.CopyOwn
import Derived.Laws.AppendOwnNone
import Derived.Test.YtoncclhbdkjhmaaGreatDoorRows
import Derived.Deep.QuietTactic
import Derived.BigQuiet
import Derived.Shelf.Strings.Builder1
import Derived.Shelf.Small.Bits
import Derived.Shelf.Small.Wraps
import Derived.Shelf.Strconv.Itoa0
import Derived.Shelf.Strconv.Itoa1
import Derived.Shelf.LaysM
import Derived.Shelf.Strconv.Itoa2
import Derived.Test.YtoncclhbdkjhmaaGreatDoorProg
import Derived.Lib.Builder
import Derived.Lib.ItoaNum
import Derived.Lib.AppendStr
import Derived.RegionTactic
import Derived.StillTailTactics
import Derived.Deep.RegionHeld3
set_option maxHeartbeats 32000000
open Array renaming getD_eq_getD_getElem?→aQ,getElem?_eq_getElem→bj,getElem?_setIfInBounds_ne→fX,replicate→mK
open Bool renaming and_eq_true→cR,or_eq_true→eO,or_true→mE
open Go renaming lt_of_block→ag,World→an,Value→ay,heap_setCell_same→aF,Calls→bf,TypeId→bu,Addr→cH,IntKind→cN,cell_of_row→dM,Oper→fg,info_parts→oI,frozen_of_row→rJ,Program→rL
open Go.Addr renaming add→sP
open Go.IntKind renaming u32→kP
open Go.Lib renaming hid→aa,decDigits→bh,byteCells→c_,byteCells_length→o_
open Go.Proofs.Tryz renaming prog→ax,underlying9→gH,underlying3→kD,zeroValue9→k6,zeroValue3→k_,underlying5→lf,underlying4→lg,underlying24→lP,zeroValue5→nO,zeroValue4→nP,underlying99→oh,sizeOf9→om,sizeOf3→ot,isAgg9→qd,isAgg3→qf,sizeOf4→rK,underlying153→vk,underlying0→xu
open Go.Region renaming wanted→iJ
open Go.RowKit renaming Below→aC,intOf→fH
open Go.RowKit.Below renaming refl→av
open Go.Shelf renaming Ren→mJ
open Go.Value renaming int→gG
open Go.World renaming block_lt_of_cell?→bW
open Go.World.grownBy renaming refl→aJ
open Go.World.ownsRow renaming kept→iT
open List renaming length_take→aW,replicate→bA,take_length→bD,take_succ_eq_append_getElem→bH,length_set→cm,take_of_length_le→cr,getElem_mem→cI,all_eq_true→cQ,getD→dz,length→dL,getElem?_eq_getElem→d_,eq_nil_of_length_eq_zero→fh,append_assoc→gl,set_cons_succ→gI,drop_eq_nil_of_le→gP,range→gQ,drop_eq_getElem_cons→iq,getElem?_append_right→iz,length_replicate→iB,getElem?_append_left→iK,append_nil→iN,drop_zero→iV,length_drop→jv,mem_range→kO,reverse_cons→mD,take_append_drop→nQ,getD_eq_getElem?_getD→oO,replicate_zero→tT
open Nat renaming le_refl→ak,le_trans→aq,zero_le→au,lt_of_lt_of_le→aK,mul_le_mul_right→aU,eq_zero_or_pos→bO,pow_le_pow_right→bU,pow_succ→bY,min_eq_left→cE,add_mul→cL,pow_pos→cT,mod_lt→di,div_lt_of_lt_mul→dB,zero_add→eG,mul_le_mul_left→eX,mul_comm→fk,lt_or_ge→ik,mod_eq_of_lt→iw,xor_lt_two_pow→ju,mod_add_div→jG,pow_add→jT,div_eq_of_lt→kJ,mul_le_mul→lj,mul_assoc→mI,add_mul_div_left→nv,add_zero→oJ,strongRecOn→r7,lt_trans→uG,add_mul_mod_self_right→AP,add_mul_mod_self_left→A2,zero_mul→DD
open Option renaming getD_some→mC
namespace Go.Proofs.YtoncclhbdkjhmaaGreatDoor
set_option maxRecDepth 100000
theorem eY {α:Type _} {xs:List α} {i:Nat}:xs.toArray[i]?=xs[i]?:=List.getElem?_toArray
theorem fD {α:Type _} {a:α} {xs:List α} {i:Nat}:(a::xs)[i+1]?=xs[i]?:=List.getElem?_cons_succ
theorem fm {α:Type _} {a:α} {l:List α}:(a::l)[0]?=some a:=List.getElem?_cons_zero
theorem fI {α:Type _} {xs ys:List α}:(xs++ys).length=xs.length+ys.length:=List.length_append
theorem ru {α:Type _} {a:α} {xs:List α}:(a::xs).length=xs.length+1:=List.length_cons
theorem xC {α:Type _}:([]:List α).length=0:=List.length_nil
theorem Cb {α:Type _} {a:α} {xs:List α} {i:Nat}:(a::xs).take (i+1)=a::xs.take i:=List.take_succ_cons
theorem Ca {α:Type _} {l:List α}:l.take 0=[]:=List.take_zero
theorem B_ {α:Type _} {a:α} {l:List α} {i:Nat}:(a::l).drop (i+1)=l.drop i:=List.drop_succ_cons
theorem B9 {α:Type _} {l:List α}:l.drop 0=l:=iV
theorem xz {α:Type _} {l:List α} {i:Nat} {a:α}:l.toArray.setIfInBounds i a=(l.set i a).toArray:=List.setIfInBounds_toArray _ _ _
theorem xy {α:Type _} {x:α} {xs:List α} {a:α}:(x::xs).set 0 a=a::xs:=List.set_cons_zero
theorem xx {α:Type _} {x:α} {xs:List α} {n:Nat} {a:α}:(x::xs).set (n+1) a=x::xs.set n a:=gI

def val (B:Nat):List Nat->Nat
 | []=>0
 | x::xs=>x+B*val B xs

def eI (B:Nat) (xs:List Nat):Prop:=∀ x ∈ xs,x<B

theorem lE (B:Nat) (xs ys:List Nat):val B (xs++ys)=val B xs+B ^ xs.length*val B ys:=by
 induction xs with
 | nil=>simp[val]
 | cons x xs ih=>simp only[List.cons_append,val,ih,ru,bY];grind
theorem eJ {B:Nat} {xs:List Nat} (h:eI B xs):val B xs<B ^ xs.length:=by
 induction xs with
 | nil=>simp[val]
 | cons x xs ih =>
  have h1:x<B:=h x (by simp);have h2:=ih (fun y hy=>h y (by simp[hy]));simp only[val,ru,bY];have:B*(val B xs+1)<=B*B ^ xs.length:=eX _ h2
  grind
theorem kQ (B:Nat) (xs:List Nat) (i v:Nat) (h:i<xs.length):val B (xs.set i v)+xs.getD i 0*B ^ i=val B xs+v*B ^ i:=by
 induction xs generalizing i with
 | nil=>simp at h
 | cons x xs ih =>
  cases i with
  | zero=>simp[val];omega
  | succ i =>
   have:=ih i (by simpa using h);simp only[gI,val,List.getD_cons_succ,bY]
   grind
theorem gC (B:Nat) (xs:List Nat) (k:Nat) (h:k<xs.length):val B (xs.take (k+1))=val B (xs.take k)+xs.getD k 0*B ^ k:=by
 rw[bH h,lE];have e:(xs.take k).length=k:=by simp;omega
 simp[val,e,dz,h,fk]
theorem iP (B n:Nat):val B (bA n 0)=0:=by
 induction n with
 | zero=>rfl
 | succ n ih=>simp[List.replicate_succ,val,ih]
theorem eI.set {B:Nat} {xs:List Nat} (h:eI B xs) {i v:Nat} (hv:v<B):eI B (xs.set i v):=by
 intro x hx;rcases List.mem_or_eq_of_mem_set hx with h' | h'
 ·exact h x h'
 omega
theorem eI.append {B:Nat} {xs ys:List Nat} (h:eI B xs) (k:eI B ys):eI B (xs++ys):=by
 intro x hx;rcases List.mem_append.1 hx with h' | h'
 ·exact h x h'
 exact k x h'
theorem eI.take {B:Nat} {xs:List Nat} (h:eI B xs) (n:Nat):eI B (xs.take n):=fun x hx=>h x (List.mem_of_mem_take hx)
theorem eI.drop {B:Nat} {xs:List Nat} (h:eI B xs) (n:Nat):eI B (xs.drop n):=fun x hx=>h x (List.mem_of_mem_drop hx)
theorem eI.getD {B:Nat} {xs:List Nat} (h:eI B xs) (hB:0<B) (i:Nat):xs.getD i 0<B:=by
 by_cases hi:i<xs.length
 ·have:=h xs[i] (cI hi);simpa [dz,hi] using this
 simpa [dz,Nat.le_of_not_lt hi] using hB
theorem eI.replicate {B:Nat} (hB:0<B) (n:Nat):eI B (bA n 0):=fun x hx=>by rw[List.eq_of_mem_replicate hx];exact hB
theorem eI.nil (B:Nat):eI B []:=fun x hx=>by cases hx
def nz (xs:List Nat):Nat:=(xs.reverse.dropWhile (· == 0)).length
theorem gR (xs:List Nat):nz xs<=xs.length:=by
 unfold nz;have:=(List.dropWhile_suffix (p:=(· == 0)) (l:=xs.reverse)).length_le
 simpa using this
theorem yK {xs:List Nat} {k:Nat} (h:k<xs.length) (h0:xs.getD k 0=0):nz (xs.take (k+1))=nz (xs.take k):=by
 unfold nz;rw[bH h]
 simp[dz,h] at h0
 simp[h0]
theorem JV {xs:List Nat} {k:Nat} (h:k<xs.length) (h0:xs.getD k 0≠0):nz (xs.take (k+1))=k+1:=by
 unfold nz;rw[bH h]
 simp[dz,h] at h0
 have e:(xs[k]==0)=false:=by simpa using h0
 rw[List.reverse_append,List.reverse_singleton,List.singleton_append,List.dropWhile_cons,e]
 simp;omega
def fx (B:Nat) (n:Nat):List Nat:=
 if _h:2<=B/\0<n then n % B::fx B (n / B) else []
termination_by n
decreasing_by exact Nat.div_lt_self _h.2 (by omega)
theorem fe (B:Nat):fx B 0=[]:=by unfold fx;simp
theorem kY {B n:Nat} (hB:2<=B) (h:0<n):fx B n=n % B::fx B (n / B):=by rw[fx];simp[hB,h]
theorem jg {B:Nat} (hB:2<=B) (n:Nat):val B (fx B n)=n:=by
 induction n using r7 with
 | ind n ih =>
  by_cases h:0<n
  ·rw[kY hB h];simp only[val];rw[ih _ (Nat.div_lt_self h (by omega))];have:=jG n B;omega
  have:n=0:=by omega
  subst this;simp[fe,val]
theorem kB {B:Nat} (hB:2<=B) (n:Nat):eI B (fx B n):=by
 induction n using r7 with
 | ind n ih =>
  by_cases h:0<n
  ·rw[kY hB h];intro x hx;rcases List.mem_cons.1 hx with rfl | hx
   ·exact di _ (by omega)
   exact ih _ (Nat.div_lt_self h (by omega)) x hx
  have:n=0:=by omega
  subst this;simp[fe,eI]
theorem pD {B:Nat} (hB:2<=B) {xs:List Nat} (h:eI B xs):xs.take (nz xs)=fx B (val B xs):=by
 induction xs with
 | nil=>simp[nz,val,fe]
 | cons x xs ih =>
  have hx:x<B:=h x (by simp);have hd:eI B xs:=fun y hy=>h y (by simp[hy])
  have ND:=ih hd
  by_cases hz:nz xs=0
  ·have hv:val B xs=0:=by
    have:fx B (val B xs)=[]:=by rw[<-ND,hz];rfl
    by_cases h0:0<val B xs
    ·rw[kY hB h0] at this;cases this
    omega
   have hall:xs.reverse.dropWhile (· == 0)=[]:=fh hz;simp only[val,hv,Nat.mul_zero,oJ]
   have e:nz (x::xs)=if x=0 then 0 else 1:=by
    unfold nz;rw[mD,List.dropWhile_append,hall]
    by_cases hx0:x=0
    ·simp[hx0]
    simp[hx0,List.dropWhile]
    have:(x==0)=false:=by simpa using hx0
    simp[this]
   by_cases hx0:x=0
   ·rw[e,if_pos hx0,hx0,fe];rfl
   rw[e,if_neg hx0,kY hB (by omega),iw hx,kJ hx,fe];rfl
  have hne:xs.reverse.dropWhile (· == 0) ≠ []:=fun e=>hz (by unfold nz;rw[e];rfl)
  have e:nz (x::xs)=nz xs+1:=by
   unfold nz;rw[mD,List.dropWhile_append,if_neg (by simpa using hne)]
   simp
  have hv:0<val B xs:=by
   rcases bO (val B xs) with h0 | h0
   ·rw[h0,fe] at ND;have:=congrArg dL ND
    simp at this
    have hl:=gR xs;rcases this with h1 | h1
    ·omega
    subst h1;simp[nz] at hz
   exact h0
  have Ti:0<x+B*val B xs:=by
   have h1:1<=B:=by omega
   have:=lj h1 hv;omega
  rw[e,List.take_succ_cons,ND,val,kY (n:=x+B*val B xs) hB Ti];rw[A2,iw hx,nv _ _ (by omega),kJ hx,eG]
theorem pX {B:Nat} (hB:2<=B) {xs:List Nat} (h:eI B xs):fx B (val B xs)=xs.take (nz xs):=(pD hB h).symm
theorem e_ {B:Nat} (hB:2<=B) {xs:List Nat} (h:eI B xs):(fx B (val B xs)).length=nz xs:=by
 rw[pX hB h,aW];have:=gR xs;omega
theorem bZ {B:Nat} (hB:2<=B) {xs:List Nat} (h:eI B xs):val B (xs.take (nz xs))=val B xs:=by rw[pD hB h,jg hB]
theorem fL {B:Nat} (hB:2<=B) {n k:Nat} (h:n<B ^ k):(fx B n).length<=k:=by
 induction k generalizing n with
 | zero=>simp at h;subst h;simp[fe]
 | succ k ih =>
  by_cases h0:0<n
  ·rw[kY hB h0,ru];have:n / B<B ^ k:=dB (by rw[bY] at h;rw[fk];exact h);have:=ih this;omega
  have:n=0:=by omega
  subst this;simp[fe]
theorem tZ {B:Nat} (hB:2<=B) {n k:Nat} (h:(fx B n).length<=k):n<B ^ k:=by
 have h1:=eJ (kB hB n);rw[jg hB] at h1;exact aK h1 (bU (by omega) h)
theorem yM {B:Nat} (hB:2<=B) {n k:Nat} (h:k<(fx B n).length):B ^ k<=n:=by
 rcases ik n (B ^ k) with h1 | h1
 ·have:=fL hB h1;omega
 exact h1
end Go.Proofs.YtoncclhbdkjhmaaGreatDoor
namespace Go.Proofs.YtoncclhbdkjhmaaGreatDoor
open Go.RowKit
set_option maxRecDepth 100000
def nth (xs:List Nat) (i:Nat):Int:=((xs.getD i 0:Nat):Int)
theorem yL {xs:List Nat} {i:Nat} (h:i<xs.length):nth xs i=((xs[i]:Nat):Int):=by
 unfold nth;simp[dz,h]
def Sl (w:an) (k:cN) (v:ay) (xs:List Nat):Prop:=
 ∃ (ao:Option cH) (cap:Nat),v=.slice ao xs.length cap/\xs.length<=cap/\cap<=9223372036854775807/\(ao=none->cap=0) /\
  ∀ i,i<xs.length->∃ a,ao=some a/\w.cell? (a.add i)=some (.int k (nth xs i))
theorem tH (a:cH) (i j:Nat):(a.add i).add j=a.add (i+j):=by
 unfold sP
 by_cases hi:i=0
 ·simp[hi]
 by_cases hj:j=0
 ·simp[hj]
 simp[hi,hj];omega
theorem bS {w:an} {a:cH} {v:ay} (h:w.cell? a=some v):a.block<w.heap.size:=bW w a h
theorem Sl.nil (w:an) (k:cN):Sl w k (.slice none 0 0) []:=
 ⟨none,0,rfl,by simp,by omega,fun _=>rfl,fun i hi=>by simp at hi⟩
theorem Sl.below {w w':an} {k:cN} {v:ay} {xs:List Nat} (h:Sl w k v xs) (hb:aC w.heap.size w w'):Sl w' k v xs:=by
 obtain⟨ao,cap,rfl,h1,h2,h3,h4⟩:=h;refine⟨ao,cap,rfl,h1,h2,h3,fun i hi=>?_⟩;obtain⟨a,ha,hc⟩:=h4 i hi;exact⟨a,ha,by rw[hb.cell (bS hc)];exact hc⟩
theorem Sl.take {w:an} {k:cN} {ao:Option cH} {n cap:Nat} {xs:List Nat} (h:Sl w k (.slice ao n cap) xs) (m:Nat) (hm:m<=xs.length):Sl w k (.slice ao m cap) (xs.take m):=by
 obtain⟨DO,cap',e,h1,h2,h3,h4⟩:=h;injection e with e1 e2 e3;subst e1;subst e3;have hl:(xs.take m).length=m:=by simp;omega
 refine⟨ao,cap,by rw[hl],by rw[hl];omega,h2,h3,fun i hi=>?_⟩;rw[hl] at hi;obtain⟨a,ha,hc⟩:=h4 i (by omega);refine⟨a,ha,?_⟩;rw[hc];unfold nth
 simp[dz,hi]
def oH (w:an) (g:Nat) (k:cN) (T:bu) (l:List Nat):Prop:=
 w.heap[g]?=some (.cells ((l.map fun (n:Nat)=>gG k ((n:Nat):Int)).toArray) T (0,0))
theorem oH.lt {w:an} {g:Nat} {k:cN} {T:bu} {l:List Nat} (h:oH w g k T l):g<w.heap.size:=ag h
theorem oH.cell {w:an} {g:Nat} {k:cN} {T:bu} {l:List Nat} (h:oH w g k T l) {i:Nat} (hi:i<l.length):w.cell? ⟨g,i,none⟩=some (.int k (nth l i)):=by
 rw[dM w g i _ T (0,0) h]
 simp[hi,yL hi]
theorem oH.frozen {w:an} {g:Nat} {k:cN} {T:bu} {l:List Nat} (h:oH w g k T l) (i:Nat):w.frozen? ⟨g,i,none⟩=false:=rJ w g i _ T h
theorem oH.set {w:an} {g:Nat} {k:cN} {T:bu} {l:List Nat} (h:oH w g k T l) (i:Nat) (n:Nat) (z:Int) (hz:z=(n:Int)):oH (w.setCell ⟨g,i,none⟩ (.int k z)) g k T (l.set i n):=by
 subst hz;unfold oH;rw[aF w g i _ T _ h]
 simp[List.map_set]
theorem oH.other {w w':an} {g:Nat} {k:cN} {T:bu} {l:List Nat} (h:oH w g k T l) {row:Option Nat} (hg:w.grownBy w' row) (hne:some g≠row):oH w' g k T l:=by
 unfold oH at *;rw[hg.block g (ag h) hne];exact h
theorem oH.below {w w':an} {B g:Nat} {k:cN} {T:bu} {l:List Nat} (h:oH w g k T l) (hg:aC B w w') (hB:g<B):oH w' g k T l:=by
 unfold oH at *;rw[hg.block g hB];exact h
theorem zn (g off i:Nat):(⟨g,off,none⟩:cH).add i=⟨g,off+i,none⟩:=by simp[sP]
theorem oH.sl {w:an} {g:Nat} {k:cN} {T:bu} {l:List Nat} (h:oH w g k T l) (off n cap:Nat) (hn:off+n<=l.length) (hc:n<=cap) (hm:cap<=9223372036854775807) :
  Sl w k (.slice (some ⟨g,off,none⟩) n cap) ((l.drop off).take n):=by
 have hl:((l.drop off).take n).length=n:=by simp;omega
 refine⟨some ⟨g,off,none⟩,cap,by rw[hl],by rw[hl];exact hc,hm,(fun e=>by cases e),fun i hi=>⟨_,rfl,?_⟩⟩;rw[hl] at hi;rw[zn,h.cell (i:=off+i) (by omega)];unfold nth
 simp[dz,hi]
theorem aI {w0 w:an} {g i:Nat} (h:w0.grownBy w (some g)) (v:ay):w0.grownBy (w.setCell ⟨g,i,none⟩ v) (some g):=
 ⟨h.os,h.tape,h.output,by simpa [World.setCell] using h.size,fun k hk hne=>by
  rw[Below.heap_setCell _ _ _ _ (fun e=>hne (by rw[e]))];exact h.block k hk hne⟩
theorem uS {a b c:an} {row:Option Nat} (h:a.grownBy b row) (k:b.grownBy c row):a.grownBy c row:=
 ⟨k.os.trans h.os,k.tape.trans h.tape,k.output.trans h.output,aq h.size k.size,fun i hi hne=>(k.block i (aK hi h.size) hne).trans (h.block i hi hne)⟩
theorem wH {a b:an} {row:Option Nat} (h:aC a.heap.size a b):a.grownBy b row:=
 ⟨h.os,h.tape,h.output,h.size,fun k hk _=>h.block k hk⟩
def r6 (g:Nat) (v:ay):Prop:=∀ a n c,v=.slice (some a) n c->a.block=g->n=0
theorem Sl.grown {w w':an} {k:cN} {v:ay} {xs:List Nat} {g:Nat} (h:Sl w k v xs) (hg:w.grownBy w' (some g)) (ha:r6 g v):Sl w' k v xs:=by
 obtain⟨ao,cap,rfl,h1,h2,h3,h4⟩:=h;refine⟨ao,cap,rfl,h1,h2,h3,fun i hi=>?_⟩;obtain⟨a,rfl,hc⟩:=h4 i hi;refine⟨a,rfl,?_⟩;have hb:(a.add i).block=a.block:=by unfold sP;split<;>rfl
 refine hg.cell hc (fun e=>?_);injection e with e;have:=ha a _ _ rfl (by rw[<-e,hb])
 omega
def Ws (w:an) (k:cN) (T:bu) (v:ay) (g:Nat) (pre s post:List Nat):Prop:=
 ∃ (ao:Option cH) (cap:Nat),v=.slice ao s.length cap/\s.length<=cap/\cap<=9223372036854775807/\(ao=none->cap=0) /\
  (s.length≠0->ao=some ⟨g,pre.length,none⟩/\oH w g k T (pre++s++post))
def B3 (w:an) (k:cN) (T:bu) (ao:Option cH) (g:Nat) (pre s post:List Nat) (n:Nat):Prop:=
 n≠0->ao=some ⟨g,pre.length,none⟩/\oH w g k T (pre++s++post)
theorem jA {xs:List Nat} (h:eI 4294967296 xs) (i:Nat):0<=nth xs i/\nth xs i<4294967296:=by
 have h1:=h.getD (by omega) i;unfold nth;omega
theorem Sl.at {w:an} {k:cN} {b:cH} {n c:Nat} {xs:List Nat} (h:Sl w k (.slice (some b) n c) xs) {i:Nat} (hi:i<xs.length):w.cell? (b.add i)=some (.int k (nth xs i)):=by
 obtain⟨_,_,e,_,_,_,q⟩:=h;injection e with e1 e2 e3;subst e1;obtain⟨b',e,q⟩:=q i hi;injection e with e;subst e;exact q
theorem Ws.sl {w:an} {k:cN} {T:bu} {v:ay} {g:Nat} {pre s post:List Nat} (h:Ws w k T v g pre s post):Sl w k v s:=by
 obtain⟨ao,cap,rfl,h1,h2,h3,h4⟩:=h;refine⟨ao,cap,rfl,h1,h2,h3,fun i hi=>?_⟩;obtain⟨rfl,hb⟩:=h4 (by omega);refine⟨_,rfl,?_⟩;rw[zn,hb.cell (by simp;omega)];unfold nth
 simp[dz,iK,iz,hi]
theorem mq (pre s post:List Nat) (i:Nat) (h:i<s.length):nth (pre++s++post) (pre.length+i)=nth s i:=by
 unfold nth
 simp[dz,iK,iz,h]
theorem mo (pre s post:List Nat) (i n:Nat) (h:i<s.length):(pre++s++post).set (pre.length+i) n=pre++s.set i n++post:=by
 rw[gl,List.set_append_right _ _ (by omega),List.set_append_left _ _ (by omega),gl]
 simp
theorem Ws.below {w w':an} {B:Nat} {k:cN} {T:bu} {v:ay} {g:Nat} {pre s post:List Nat} (h:Ws w k T v g pre s post) (hb:aC B w w') (hg:g<B):Ws w' k T v g pre s post:=by
 obtain⟨ao,cap,rfl,h1,h2,h3,h4⟩:=h;exact⟨ao,cap,rfl,h1,h2,h3,fun i=>⟨(h4 i).1,(h4 i).2.below hb hg⟩⟩
theorem y8 {w:an} {base:Nat} {e:bu} {g n cap:Nat} {xs:List ay} (h:w.ownsRow base e 1 (.slice (some ⟨g,0,none⟩) n cap) n xs) (hn:n=cap):w.heap[g]?=some (.cells xs.toArray e (0,0)):=by
 obtain⟨hl,h2⟩:=h;rcases h2 with ⟨e1,_⟩ | ⟨g',cap',cur,e1,_,hg,_,_,hs,ht⟩
 ·cases e1
 injection e1 with e1 e2 e3;injection e1 with e1;injection e1 with e1;subst e1;subst e3;subst hn;rw[hg,<-ht,Nat.mul_one]
 congr 2
 rw[cr (by simp[hs])]
theorem iX {P:rL} (w:an) {ops:Array fg} {rest:List fg} {o:fg} {a:Act} {Q:Exit->Act->an->Prop}
  (hg:o.guard=none) (l c:Operand) (t:bu) (hop:o.op=Op.makeSlice t l c)
  (e:bu) (i:TypeInfo) (k:cN) (h1:P.underlying t=some (.slice e)) (h2:P.info? e=some i) (h3:i.zero=some (.int k 0)) (h4:i.size=1)
  (kl kc:cN) (L C:Int) (n:Nat) (hl:a.eval l=.int kl L) (hc:a.eval c=.int kc C) (hL:L=(n:Int)) (hC:C=(n:Int)) (b2:i.bytes<=8) (b3:n<=35184372088832)
  (hK:∀ w',oH w' w.heap.size k e (bA n 0)->aC w.heap.size w w'->w.heap.size<w'.heap.size->wpList P ops Q rest (a.put o.dst (.slice (some ⟨w.heap.size,0,none⟩) n n)) w') :
  wpList P ops Q (o::rest) a w:=by
 have hb:i.bytes*n<=281474976710656:=aq (lj b2 b3) (by omega);refine wpList_make_full w hg l c t hop w.heap.size e i (.int k 0) 1 h1 h2 h3 h4 kl kc L C n hl hc hL hC hb (by unfold maxLen;omega) (ak _) ?_;intro w' ho jR;have hh:=y8 ho rfl
 have hB:oH w' w.heap.size k e (bA n 0):=by
  unfold oH;rw[hh]
  have:(madeCells (Value.cells (.int k 0)) (n*1)).toList=bA n (.int k 0):=by
   rw[Nat.mul_one];exact toList_madeCells_one _ _
  rw[this]
  simp
 exact hK w' hB ⟨jR.os,jR.tape,jR.output,jR.size,fun j hj=>jR.block j hj (by simp)⟩ hB.lt
theorem AF {w:an} {k:cN} {sp:Option cH} {n c:Nat} {xs:List Nat} (h:Sl w k (.slice sp n c) xs) (m:Nat) (hm:m<=xs.length) (h0:0<m) :
  ∃ ad,sp=some ad/\∀ j v,((xs.take m).map fun (x:Nat)=>gG k ((x:Nat):Int))[j]?=some v->w.cell? (ad.add j)=some v:=by
 obtain⟨ao,cap,e,h1,h2,h3,h4⟩:=h;injection e with e1 e2 e3;subst e1;obtain⟨a,rfl,_⟩:=h4 0 (by omega);refine⟨a,rfl,fun j v hj=>?_⟩
 have y7:j<m:=by
  have:=(List.getElem?_eq_some_iff.1 hj).1
  simp at this;omega
 obtain⟨b,e,q⟩:=h4 j (by omega);injection e with e;subst e;rw[q,<-hj]
 simp[y7,yL (show j<xs.length by omega),show j<xs.length by omega]
theorem qI {w:an} {k:cN} {sp:Option cH} {n c:Nat} {xs:List Nat} (h:Sl w k (.slice sp n c) xs):n=xs.length:=by
 obtain⟨ao,cap,e,_⟩:=h;injection e
theorem EJ (k:cN) (xs:List Nat):∀ u ∈ (xs.map fun (x:Nat)=>gG k ((x:Nat):Int)),u.oneCell'=true:=by
 intro u hu;obtain⟨x,_,rfl⟩:=List.mem_map.1 hu
 rfl
theorem vl {P:rL} {w:an} {ops:Array fg} {rest:List fg} {o:fg} {a:Act} {Q:Exit->Act->an->Prop} (hgd:o.guard=none) (d s:Operand) (dT sT:bu)
  (ho:o.op=.call { callee:=.builtin .copy,args:=#[d,s],argTypes:=#[dT,sT] }) (elem:bu) (hu:P.underlying dT=some (.slice elem)) (hsz:(P.info? elem).map (·.size)=some 1)
  (g n dCap:Nat) (sp:Option cH) (sLen sCap:Nat) (hd:a.eval d=.slice (some ⟨g,0,none⟩) n dCap) (hs:a.eval s=.slice sp sLen sCap)
  (k:cN) (T:bu) (l xs:List Nat) (hB:oH w g k T l) (hn:n=l.length) (hx:Sl w k (.slice sp sLen sCap) xs) (hle:xs.length<=n)
  (B:Nat) (w0:an) (hb:aC B w0 w) (hBg:B<=g)
  (h:∀ w',oH w' g k T (xs++l.drop xs.length)->aC B w0 w'->wpList P ops Q rest (a.put o.dst (.int .i64 xs.length)) w') :
  wpList P ops Q (o::rest) a w:=by
 have DH:=qI hx;have hmin:Nat.min sLen n=xs.length:=by rw[DH];exact cE hle
 refine wpList_copy_splice hgd d s dT sT ho elem hu hsz (some ⟨g,0,none⟩) sp n dCap sLen sCap hd hs g 0 (l.map fun (x:Nat)=>gG k ((x:Nat):Int)) T hB (xs.map fun (x:Nat)=>gG k ((x:Nat):Int)) (by rw[hmin];simp) ?_ (by simp;omega) (EJ k xs) B w0 hb hBg ?_
 ·intro h0;refine⟨rfl,?_⟩;have:=AF hx xs.length (ak _) (by simpa using h0)
  rwa [bD] at this
 intro w' hh hb'
 have:=h w' (by
  unfold oH;rw[hh.out]
  congr 2
  simp[splice]) hb'
 simpa [goInt] using this
def Ow (w:an) (base:Nat) (k:cN) (T:bu) (v:ay) (xs:List Nat):Prop:=
 w.ownsRow base T 1 v xs.length (xs.map fun (x:Nat)=>gG k ((x:Nat):Int))
theorem Ow.nil (w:an) (base:Nat) (k:cN) (T:bu):Ow w base k T (.slice none 0 0) []:=World.ownsRow_nil w base T 1
theorem Ow.alloc {w:an} {base:Nat} {k:cN} {T:bu} {v:ay} {xs:List Nat} (h:Ow w base k T v xs) (o:Obj):Ow (w.alloc o) base k T v xs:=World.ownsRow.alloc h o
theorem Ow.sl {w:an} {base:Nat} {k:cN} {T:bu} {v:ay} {xs:List Nat} (h:Ow w base k T v xs):Sl w k v xs:=by
 have h':=h;obtain⟨h1,h2⟩:=h;rcases h2 with ⟨rfl,h2⟩ | ⟨g,cap,cur,rfl,hb,hg,hn,hm,hs,ht⟩
 ·have:xs=[]:=fh h2;subst this;exact Sl.nil _ _
 refine⟨some ⟨g,0,none⟩,cap,rfl,hn,by unfold maxLen at hm;omega,(fun e=>by cases e),fun i hi=>⟨_,rfl,?_⟩⟩;rw[zn,eG,World.ownsRow.cellAt h' i (by omega)]
 simp[hi,yL hi]
theorem Ow.CG {w:an} {base:Nat} {k:cN} {T:bu} {v:ay} {xs:List Nat} (h:Ow w base k T v xs):∀ j,v.ownBlock=some j->base<=j:=fun j hj=>(World.ownsRow.lt h j hj).1
theorem sQ {P:rL} (w:an) {ops:Array fg} {rest:List fg} {o:fg} {a:Act} {Q:Exit->Act->an->Prop} (hgd:o.guard=none) (s x:Operand) (t:bu)
  (ho:o.op=.call { callee:=.builtin .append,args:=#[s,x],argTypes:=#[t,t] })
  (e:bu) (i:TypeInfo) (k:cN) (ht:P.underlying t=some (.slice e)) (hi:P.info? e=some i) (hz:i.zero=some (.int k 0)) (hsize:i.size=1) (hby:i.bytes<=8)
  (base:Nat) (v:ay) (xs:List Nat) (hs:a.eval s=v) (hown:Ow w base k e v xs)
  (h:Nat) (z:Int) (n:Nat) (hx:a.eval x=.slice (some ⟨h,0,none⟩) 1 1) (hc:w.cell? ⟨h,0,none⟩=some (.int k z)) (OF:z=(n:Int))
  (hlen:xs.length<=1000000000) (hbase:base<=w.heap.size)
  (hK:∀ v' w',Ow w' base k e v' (xs++[n])->aC base w w'->wpList P ops Q rest (a.put o.dst v') w'):wpList P ops Q (o::rest) a w:=by
 have cV:(xs.length+1)*i.bytes<=140737488355328:=aq (lj (show xs.length+1<=1000000001 by omega) hby) (by omega);refine wpList_append_own w hgd s x t ho base e i (.int k 0) 1 i.bytes ht hi hz hsize rfl rfl (by decide) v xs.length _ hs hown ⟨h,0,none⟩ 1 1 [.int k z] hx rfl ?_ ?_ (by unfold maxLen;omega) cV hbase ?_
 ·intro j u hj
  match j,hj with
  | 0,hj=>simp at hj;subst hj;simpa [sP] using hc
 ·intro u hu;simp at hu;subst hu;rfl
 intro v' w' h1 h2 _;refine hK v' w' ?_ ⟨h2.os,h2.tape,h2.output,h2.size,fun j hj=>h2.block j (by omega) (fun e'=>?_)⟩
 ·unfold Ow;have:(xs++[n]).map (fun (x:Nat)=>gG k ((x:Nat):Int))=xs.map (fun (x:Nat)=>gG k ((x:Nat):Int))++[.int k z]:=by rw[OF];simp
  rw[this,fI];exact h1
 have:=hown.CG j e'.symm
 omega
def wT (x y c:Int):Int:=if x<y+c then 1 else 0
theorem xR (n:Nat) (h:n<4294967296):n / 2147483648=(n.testBit 31).toNat:=by
 rw[Nat.testBit_eq_decide_div_mod_eq];have:n / 2 ^ 31<2:=by omega
 rcases (show n / 2 ^ 31=0\/n / 2 ^ 31=1 by omega) with h | h<;>simp[h]<;>omega
theorem B7 (n:Nat) (h:n<4294967296):n.testBit 31=decide (2147483648<=n):=by
 have:=xR n h
 cases hb:n.testBit 31
 ·rw[hb] at this;simp at this ⊢;omega
 rw[hb] at this;simp at this ⊢;omega
theorem AH (x y d:Nat) (hx:x<4294967296) (hy:y<4294967296) (hd:d<4294967296) :
  (((4294967295 ^^^ x) &&& y) ||| ((4294967295 ^^^ (x ^^^ y)) &&& d)) / 2147483648 =
   if (x<2147483648/\2147483648<=y)\/((x<2147483648 ↔ y<2147483648)/\2147483648<=d) then 1 else 0:=by
 have l1:(4294967295 ^^^ x)<2 ^ 32:=ju (by omega) (by omega);have l2:(x ^^^ y)<2 ^ 32:=ju (by omega) (by omega);have l3:(4294967295 ^^^ (x ^^^ y))<2 ^ 32:=ju (by omega) l2;have l4:(4294967295 ^^^ x) &&& y<2 ^ 32:=Nat.and_lt_two_pow _ (by omega);have l5:(4294967295 ^^^ (x ^^^ y)) &&& d<2 ^ 32:=Nat.and_lt_two_pow _ (by omega);rw[xR _ (Nat.or_lt_two_pow l4 l5)];simp only[Nat.testBit_or,Nat.testBit_and,Nat.testBit_xor];rw[B7 x hx,B7 y hy,B7 d hd,B7 4294967295 (by omega)]
 by_cases a:x<2147483648<;>by_cases b:y<2147483648<;>by_cases c:2147483648<=d<;>simp[a,b,c,Nat.not_le.2,Nat.not_lt.1]<;>omega
theorem BX (x y c:Int) (hx:0<=x/\x<4294967296) (hy:0<=y/\y<4294967296) (hc:0<=c/\c<=1) :
  bits BinOp.or kP (bits BinOp.and kP (bits BinOp.xor kP IntKind.u32.max x) y)
        (bits BinOp.and kP (bits BinOp.xor kP IntKind.u32.max (bits BinOp.xor kP x y)) ((x - y - c) % 4294967296)) / 2147483648=wT x y c:=by
 obtain⟨X,rfl⟩:=Int.eq_ofNat_of_zero_le hx.1;obtain⟨Y,rfl⟩:=Int.eq_ofNat_of_zero_le hy.1;obtain⟨D,hD⟩:=Int.eq_ofNat_of_zero_le (show 0<=((X:Int) - Y - c) % 4294967296 by omega);have hX:X<4294967296:=by omega
 have hY:Y<4294967296:=by omega
 have RW:D<4294967296:=by omega
 have em:IntKind.u32.max=((4294967295:Nat):Int):=by decide
 have l1:(4294967295 ^^^ X)<2 ^ 32:=ju (by omega) (by omega);have l2:(X ^^^ Y)<2 ^ 32:=ju (by omega) (by omega);have l3:(4294967295 ^^^ (X ^^^ Y))<2 ^ 32:=ju (by omega) l2;have l4:(4294967295 ^^^ X) &&& Y<2 ^ 32:=Nat.and_lt_two_pow _ (by omega);have l5:(4294967295 ^^^ (X ^^^ Y)) &&& D<2 ^ 32:=Nat.and_lt_two_pow _ (by omega);rw[hD,em,u32_xor_nat _ _ (by omega) hX,u32_xor_nat X Y hX hY,u32_xor_nat _ _ (by omega) (by omega),u32_and_nat _ _ (by omega) hY,u32_and_nat _ _ (by omega) RW,u32_or_nat _ _ (by omega) (by omega)];have hb:=AH X Y D hX hY RW;have e:((((4294967295 ^^^ X) &&& Y ||| (4294967295 ^^^ (X ^^^ Y)) &&& D:Nat):Int)) / 2147483648=(((((4294967295 ^^^ X) &&& Y) ||| ((4294967295 ^^^ (X ^^^ Y)) &&& D)) / 2147483648:Nat):Int):=by omega
 rw[e,hb];unfold wT
 by_cases h:(X:Int)<Y+c
 ·rw[if_pos h,if_pos (by omega)];rfl
 rw[if_neg h,if_neg (by omega)];rfl
theorem yy (x y c:Int) (w:an) (hx:0<=x/\x<4294967296)  (hy:0<=y/\y<4294967296) (hc:0<=c/\c<=1) :
  bf ax 180 #[.int .u32 x,.int .u32 y,.int .u32 c] w fun e w'=>e=.returned (.tuple #[.int .u32 ((x+y+c) % 4294967296),.int .u32 ((x+y+c) / 4294967296)])/\w=w':=by
 go_enter Tryz.func180,Tryz.ntmps180
 go_wp2
 go_ret2
 exact⟨rfl,rfl⟩
theorem ri (x y c:Int) (w:an) (hx:0<=x/\x<4294967296)  (hy:0<=y/\y<4294967296) (hc:0<=c/\c<=1) :
  bf ax 181 #[.int .u32 x,.int .u32 y,.int .u32 c] w fun e w'=>e=.returned (.tuple #[.int .u32 ((x - y - c) % 4294967296),.int .u32 (wT x y c)])/\w=w':=by
 have hb:=aa (BX x y c hx hy hc);go_enter Tryz.func181,Tryz.ntmps181
 go_wp2
 all_goals first
  | (go_ret2;exact⟨by rw[<-hb.out];rfl,rfl⟩)
  | (exfalso;rename_i h;exact h rfl)
theorem dA (ao:Option cH) (n cap:Nat) (xs:List Nat) (w:an) (h:Sl w .u32 (.slice ao n cap) xs) :
  bf ax 144 #[.slice ao n cap] w fun e w'=>e=.returned (.slice ao (nz xs) cap)/\w=w':=by
 have H:=aa h;obtain⟨DO,cap',e,h1,h2,h3,h4⟩:=h;injection e with e1 e2 e3;subst e1;subst e2;subst e3;go_enter Tryz.func144,Tryz.ntmps144
 go_wp2
 go_loop [3] (fun n=>∃ k:Nat,k<=xs.length/\n=.int .i64 k/\Hid (nz (xs.take k)=nz xs)) (fun n=>(fH n).toNat)
 case atStart=>exact⟨xs.length,ak _,rfl,aa (by rw[bD])⟩
 case round =>
  obtain⟨k,hk,rfl,Hn⟩:=hrel
  by_cases h0:0<k
  ·obtain⟨a,rfl,g⟩:=h4 (k-1) (by omega);clear h4
   go_wp2
   ·have hz:(nth xs (k - 1)==0)=true:=by assumption
    go_round
    case rel=>exact⟨k - 1,by omega,by go_num,aa (by rw[<-Hn.out,<-yK (k:=k - 1) (by omega) (by have:=yL (xs:=xs) (i:=k - 1) (by omega);simp at hz;unfold nth at hz;omega),show k - 1+1=k by omega])⟩
    case measure=>simp[fH];omega
   have hz:(nth xs (k - 1)==0)=false:=by assumption
   have hk':k=nz xs:=by
    rw[<-Hn.out,show k=(k - 1)+1 by omega,JV (by omega) (by simp at hz;unfold nth at hz;omega)]
   subst hk';go_ret
   exact⟨rfl,rfl⟩
  have hk':k=nz xs:=by
   rw[<-Hn.out,show k=0 by omega];rfl
  have HK:=aa hk';clear hk';have sK:k=0:=by omega
  subst sK
  go_wp2
  go_ret
  exact⟨by rw[<-HK.out];rfl,rfl⟩
def lF (ao:Option cH) (cap:Nat) (xs:List Nat):ay:=if nz xs=0 then .slice none 0 0 else .slice ao (nz xs) cap
theorem uI (ao:Option cH) (n cap:Nat) (xs:List Nat) (w:an) (h:Sl w .u32 (.slice ao n cap) xs) :
  bf ax 138 #[.slice ao n cap] w fun e w'=>e=.returned (lF ao cap xs)/\w=w':=by
 by_cases h0:nz xs=0
 ·have H0:=aa h0;clear h0;have hz:(((nz xs:Nat):Int)==0)=true:=by rw[H0.out];rfl
  go_enter Tryz.func138,Tryz.ntmps138
  go_wp2_with (go_at_call 144;refine (dA _ _ _ _ _ h).mono ?_;rintro e w' ⟨rfl,rfl⟩)
  go_ret
  exact⟨by unfold lF;rw[if_pos H0.out];rfl,rfl⟩
 have hz:(((nz xs:Nat):Int)==0)=false:=by simp;omega
 go_enter Tryz.func138,Tryz.ntmps138
 go_wp2_with (go_at_call 144;refine (dA _ _ _ _ _ h).mono ?_;rintro e w' ⟨rfl,rfl⟩)
 go_ret
 exact⟨by unfold lF;rw[if_neg h0];rfl,rfl⟩
theorem ue:(Tryz.prog.info? 153).map (fun i=>(i.zero,i.size,i.bytes))=some (some (.int .u32 0),1,4):=by kernel_rfl
theorem JJ:(Tryz.prog.info? 153).map (·.size)=some 1:=by kernel_rfl
theorem lH (ao:Option cH) (m cap:Nat) (xs:List Nat) (n:Nat) (z:Int) (w:an) (h:Sl w .u32 (.slice ao m cap) xs) (hn:xs.length<=n) (hb:n<=1073741824) (OF:z=(n:Int)) :
  bf ax 146 #[.slice ao m cap,.int .i64 z] w fun e w'=>∃ v,e=.returned v/\Ws w' .u32 153 v w.heap.size [] (xs++bA (n - xs.length) 0) []/\aC w.heap.size w w'/\(n≠0->w.heap.size<w'.heap.size):=by
 subst OF
 by_cases h0:n=0
 ·subst h0;have hx:xs=[]:=fh (by omega);subst hx;go_enter Tryz.func146,Tryz.ntmps146
  go_wp2
  go_ret
  exact⟨_,rfl,⟨none,0,rfl,by simp,by omega,fun _=>rfl,fun e=>by simp at e⟩,av _ _,fun e=>absurd rfl e⟩
 obtain⟨i0,hi,hz0,jK,tN⟩:=oI ue;have hz:(((n:Nat):Int)==0)=false:=by simp;omega
 go_enter Tryz.func146,Tryz.ntmps146
 go_wp2_with (at_make;refine iX _ rfl _ _ 24 rfl 153 i0 .u32 lP hi hz0 jK _ _ _ _ n rfl rfl rfl rfl ?b2 ?b3 ?_)
 case b2=>omega
 case b3=>omega
 intro w1 Cv dm hs1;go_wp2_with (with_reducible refine vl rfl (.tmp 10) (.tmp 11) 24 24 rfl 153 lP JJ w.heap.size n n ao m cap rfl rfl .u32 153 _ xs Cv ?c1 (h.below dm) hn w.heap.size w dm (ak _) ?_)
 case c1=>simp
 intro w2 Ij cV
 go_wp2
 go_ret
 refine⟨_,rfl,?_,cV,fun _=>Ij.lt⟩;refine⟨some ⟨w.heap.size,0,none⟩,n,?_,?_,by omega,(fun e=>by cases e),fun _=>⟨rfl,?_⟩⟩
 ·simp;omega
 ·simp;omega
 simpa using Ij
theorem Ea {B:Nat} (t ys:List Nat) (S k cc:Nat) (hy:k<ys.length) (ht:k<t.length) (h:val B t+cc*B ^ k=S+val B (ys.take k)) :
  val B (t.set k ((t.getD k 0+ys.getD k 0+cc) % B))+((t.getD k 0+ys.getD k 0+cc) / B)*B ^ (k+1)=S+val B (ys.take (k+1)):=by
 have h1:=kQ B t k ((t.getD k 0+ys.getD k 0+cc) % B) ht;rw[gC B ys k hy];have h2:=jG (t.getD k 0+ys.getD k 0+cc) B;generalize (t.getD k 0+ys.getD k 0+cc) % B=r at *;generalize (t.getD k 0+ys.getD k 0+cc) / B=q at *;rw[bY]
 grind
theorem Bb {B:Nat} (t:List Nat) (S k cc:Nat) (ht:k<t.length) (h:val B t+cc*B ^ k=S) :
  val B (t.set k ((t.getD k 0+cc) % B))+((t.getD k 0+cc) / B)*B ^ (k+1)=S:=by
 have h1:=kQ B t k ((t.getD k 0+cc) % B) ht;have h2:=jG (t.getD k 0+cc) B;generalize (t.getD k 0+cc) % B=r at *;generalize (t.getD k 0+cc) / B=q at *;rw[bY]
 grind
theorem Dk {B:Nat} {t:List Nat} {S n cc:Nat} (hd:eI B t) (hn:t.length=n) (h:val B t+cc*B ^ n=S):val B t=S % B ^ n:=by
 have h1:=eJ hd;rw[hn] at h1;rw[<-h,AP,iw h1]
theorem uB (g:Nat) (pre s post ys:List Nat) (vs vb:ay) (w:an) (hw:Ws w .u32 153 vs g pre s post) (hb:Sl w .u32 vb ys) (ha:r6 g vb) (hl:ys.length<=s.length)
  (hs:eI 4294967296 s) (hy:eI 4294967296 ys) :
  bf ax 147 #[vs,vb] w fun e w'=>∃ s',e=.returned (.tuple #[])/\Ws w' .u32 153 vs g pre s' post/\w.grownBy w' (some g)/\s'.length=s.length/\eI 4294967296 s' /\
   val 4294967296 s'=(val 4294967296 s+val 4294967296 ys) % 4294967296 ^ s.length:=by
 obtain⟨ao,cap,rfl,h1,h2,h3,h4⟩:=hw;have HB:=aa hb;obtain⟨bo,KJ,rfl,k1,k2,k3,k4⟩:=hb;go_enter Tryz.func147,Tryz.ntmps147
 go_wp2
 go_loopw [4,10] (fun c i wr=>∃ (k:Nat) (t:List Nat) (cc:Nat),i=.int .i64 k/\c=.int .u32 (cc:Int)/\cc<=1/\k<=ys.length/\w.grownBy wr (some g)/\Hid (t.length=s.length)/\eI 4294967296 t /\
   B3 wr .u32 153 ao g pre t post s.length /\
   Hid (val 4294967296 t+cc*4294967296 ^ k=val 4294967296 s+val 4294967296 (ys.take k)))
  (fun _ i _=>ys.length - (fH i).toNat)
 case atStart=>exact⟨0,s,0,rfl,rfl,by omega,by omega,aJ _ _,aa rfl,hs,h4,aa (by simp[val])⟩
 case round =>
  obtain⟨k,t,cc,rfl,rfl,tQ,hk,hg,Ht,qw,hB,HV⟩:=hrel
  by_cases hlt:k<ys.length
  ·obtain⟨b,rfl,hcb⟩:=k4 k hlt;obtain⟨rfl,qW⟩:=hB (by omega);have mw:k<t.length:=by have:=Ht.out;omega
   have Ih:=(HB.out.grown hg ha).at hlt
   have hct:wr.cell? ⟨g,pre.length+k,none⟩=some (.int .u32 (nth t k)):=by
    rw[qW.cell (by simp;omega),mq _ _ _ _ mw]
   have hft:=qW.frozen (pre.length+k);have y1:=jA hy k;have t1:=jA qw k;clear hcb hB h4 k4;go_wp2_with (go_at_call 180;refine (yy _ _ _ _ (by omega) (by omega) (by omega)).mono ?_;rintro e w' ⟨rfl,rfl⟩)
   go_roundw
   case rel =>
    refine⟨k+1,t.set k ((t.getD k 0+ys.getD k 0+cc) % 4294967296),(t.getD k 0+ys.getD k 0+cc) / 4294967296,by go_num,?_,?_,by omega,aI hg _,aa (by rw[cm];exact Ht.out),qw.set (by omega),fun _=>⟨rfl,?_⟩,aa (Ea t ys _ k cc hlt mw HV.out)⟩
    ·congr 1
    ·unfold nth at y1 t1;omega
    rw[<-mo _ _ _ _ _ mw];exact qW.set _ _ _ (by unfold nth;omega)
   case measure=>simp[fH];omega
  have hkk:k=ys.length:=by omega
  subst hkk
  go_wp2
  clear hk hlt
  go_loopw [4,7] (fun c i w2=>∃ (j:Nat) (t:List Nat) (cc:Nat),i=.int .i64 j/\c=.int .u32 (cc:Int)/\cc<=1/\j<=s.length/\w.grownBy w2 (some g)/\Hid (t.length=s.length)/\eI 4294967296 t /\
    B3 w2 .u32 153 ao g pre t post s.length /\
    Hid (val 4294967296 t+cc*4294967296 ^ j=val 4294967296 s+val 4294967296 ys))
   (fun _ i _=>s.length - (fH i).toNat)
  case atStart=>exact⟨ys.length,t,cc,rfl,rfl,tQ,hl,hg,Ht,qw,hB,aa (by rw[HV.out,bD])⟩
  case round =>
   clear hB HV qw Ht hg tQ k4;obtain⟨k,t,cc,rfl,rfl,tQ,hk,hg,Ht,qw,hB,HV⟩:=hrel
   by_cases hlt:0<cc/\k<s.length
   ·obtain⟨hc0,hlt⟩:=hlt;obtain⟨rfl,qW⟩:=hB (by omega);have mw:k<t.length:=by have:=Ht.out;omega
    have hct:wr.cell? ⟨g,pre.length+k,none⟩=some (.int .u32 (nth t k)):=by
     rw[qW.cell (by simp;omega),mq _ _ _ _ mw]
    have hft:=qW.frozen (pre.length+k);have t1:=jA qw k;clear hB h4;go_wp2_with (go_at_call 180;refine (yy _ _ _ _ (by omega) (by omega) (by omega)).mono ?_;rintro e w' ⟨rfl,rfl⟩)
    go_roundw
    case rel =>
     refine⟨k+1,t.set k ((t.getD k 0+cc) % 4294967296),(t.getD k 0+cc) / 4294967296,by go_num,?_,?_,by omega,aI hg _,aa (by rw[cm];exact Ht.out),qw.set (by omega),fun _=>⟨rfl,?_⟩,aa (Bb t _ k cc mw HV.out)⟩
     ·congr 1
     ·unfold nth at t1;omega
     rw[<-mo _ _ _ _ _ mw];exact qW.set _ _ _ (by unfold nth;omega)
    case measure=>simp[fH];omega
   have hend:val 4294967296 t=(val 4294967296 s+val 4294967296 ys) % 4294967296 ^ s.length:=by
    by_cases h0:cc=0
    ·have hv:=HV.out;subst h0;rw[DD,oJ] at hv;rw[<-hv,iw (by rw[<-Ht.out];exact eJ qw)]
    have:k=s.length:=by omega
    subst this;exact Dk qw Ht.out HV.out
   have It:=aa hend;clear hend;have ow:Ws wr .u32 153 (.slice ao s.length cap) g pre t post:=⟨ao,cap,by rw[Ht.out],by rw[Ht.out];exact h1,h2,h3,by rw[Ht.out];exact hB⟩
   clear h4
   by_cases hc0:0<cc
   ·go_wp2
    go_end0
    exact⟨t,rfl,ow,hg,Ht.out,qw,It.out⟩
   go_wp2
   go_end0
   exact⟨t,rfl,ow,hg,Ht.out,qw,It.out⟩
abbrev aH:Nat:=4294967296
theorem D_ {B:Nat} (t ys:List Nat) (S k cc v b:Nat) (hy:k<ys.length) (ht:k<t.length) (h:val B t+val B (ys.take k)=S+cc*B ^ k) (hv:v+ys.getD k 0+cc=t.getD k 0+b*B) :
  val B (t.set k v)+val B (ys.take (k+1))=S+b*B ^ (k+1):=by
 have h1:=kQ B t k v ht;rw[gC B ys k hy,bY];generalize B ^ k=P at *;have h3:v*P+ys.getD k 0*P+cc*P=t.getD k 0*P+b*B*P:=by rw[<-cL,<-cL,hv,cL]
 grind
theorem zQ {B:Nat} (t:List Nat) (S Y k cc v b:Nat) (ht:k<t.length) (h:val B t+Y=S+cc*B ^ k) (hv:v+cc=t.getD k 0+b*B) :
  val B (t.set k v)+Y=S+b*B ^ (k+1):=by
 have h1:=kQ B t k v ht;rw[bY];generalize B ^ k=P at *;have h3:v*P+cc*P=t.getD k 0*P+b*B*P:=by rw[<-cL,hv,cL]
 grind
theorem rF (x y c:Nat) (hx:x<4294967296) (hy:y<4294967296) (hc:c<=1) :
  ∃ b:Nat,wT x y c=(b:Int)/\b<=1/\∃ v:Nat,((x:Int) - y - c) % 4294967296=(v:Int)/\v<4294967296/\v+y+c=x+b*4294967296:=by
 unfold wT
 by_cases h:(x:Int)<y+c
 ·rw[if_pos h];exact⟨1,rfl,by omega,(((x:Int) - y - c) % 4294967296).toNat,by omega,by omega,by omega⟩
 rw[if_neg h];exact⟨0,rfl,by omega,(((x:Int) - y - c) % 4294967296).toNat,by omega,by omega,by omega⟩
theorem zP (g:Nat) (pre s post ys:List Nat) (vs vb:ay) (w:an) (hw:Ws w .u32 153 vs g pre s post) (hb:Sl w .u32 vb ys) (ha:r6 g vb) (hl:ys.length<=s.length)
  (hs:eI 4294967296 s) (hy:eI 4294967296 ys) (hle:val 4294967296 ys<=val 4294967296 s) :
  bf ax 148 #[vs,vb] w fun e w'=>∃ s',e=.returned (.tuple #[])/\Ws w' .u32 153 vs g pre s' post/\w.grownBy w' (some g)/\s'.length=s.length/\eI 4294967296 s' /\
   val 4294967296 s'=val 4294967296 s - val 4294967296 ys:=by
 have B4:=aa hle;clear hle;obtain⟨ao,cap,rfl,h1,h2,h3,h4⟩:=hw;have HB:=aa hb;obtain⟨bo,KJ,rfl,k1,k2,k3,k4⟩:=hb;go_enter Tryz.func148,Tryz.ntmps148
 go_wp2
 go_loopw [4,10] (fun c i wr=>∃ (k:Nat) (t:List Nat) (cc:Nat),i=.int .i64 k/\c=.int .u32 (cc:Int)/\cc<=1/\k<=ys.length/\w.grownBy wr (some g)/\Hid (t.length=s.length)/\eI 4294967296 t /\
   B3 wr .u32 153 ao g pre t post s.length /\
   Hid (val 4294967296 t+val 4294967296 (ys.take k)=val 4294967296 s+cc*4294967296 ^ k))
  (fun _ i _=>ys.length - (fH i).toNat)
 case atStart=>exact⟨0,s,0,rfl,rfl,by omega,by omega,aJ _ _,aa rfl,hs,h4,aa (by simp[val])⟩
 case round =>
  obtain⟨k,t,cc,rfl,rfl,tQ,hk,hg,Ht,qw,hB,HV⟩:=hrel
  by_cases hlt:k<ys.length
  ·obtain⟨b,rfl,hcb⟩:=k4 k hlt;obtain⟨rfl,qW⟩:=hB (by omega);have mw:k<t.length:=by have:=Ht.out;omega
   have Ih:=(HB.out.grown hg ha).at hlt
   have hct:wr.cell? ⟨g,pre.length+k,none⟩=some (.int .u32 (nth t k)):=by
    rw[qW.cell (by simp;omega),mq _ _ _ _ mw]
   have hft:=qW.frozen (pre.length+k);have y1:=jA hy k;have t1:=jA qw k;clear hcb hB h4 k4;go_wp2_with (go_at_call 181;refine (ri _ _ _ _ (by omega) (by omega) (by omega)).mono ?_;rintro e w' ⟨rfl,rfl⟩)
   go_roundw
   case rel =>
    obtain⟨b',e1,e2,v',e3,e4,e5⟩:=rF (t.getD k 0) (ys.getD k 0) cc (by unfold nth at t1;omega) (by unfold nth at y1;omega) tQ;refine⟨k+1,t.set k v',b',by go_num,?_,e2,by omega,aI hg _,aa (by rw[cm];exact Ht.out),qw.set e4,fun _=>⟨rfl,?_⟩,aa (D_ t ys _ k cc v' b' hlt mw HV.out e5)⟩
    ·rw[<-e1];rfl
    rw[<-mo _ _ _ _ _ mw];exact qW.set _ _ _ e3
   case measure=>simp[fH];omega
  have hkk:k=ys.length:=by omega
  subst hkk
  go_wp2
  clear hk hlt
  go_loopw [4,7] (fun c i w2=>∃ (j:Nat) (t:List Nat) (cc:Nat),i=.int .i64 j/\c=.int .u32 (cc:Int)/\cc<=1/\j<=s.length/\w.grownBy w2 (some g)/\Hid (t.length=s.length)/\eI 4294967296 t /\
    B3 w2 .u32 153 ao g pre t post s.length /\
    Hid (val 4294967296 t+val 4294967296 ys=val 4294967296 s+cc*4294967296 ^ j))
   (fun _ i _=>s.length - (fH i).toNat)
  case atStart=>exact⟨ys.length,t,cc,rfl,rfl,tQ,hl,hg,Ht,qw,hB,aa (by rw[<-HV.out,bD])⟩
  case round =>
   clear hB HV qw Ht hg tQ k4;obtain⟨k,t,cc,rfl,rfl,tQ,hk,hg,Ht,qw,hB,HV⟩:=hrel
   by_cases hc0:0<cc
   ·have hlt:k<s.length:=by
     rcases ik k s.length with h | h
     ·exact h
     exfalso
     have hk':k=s.length:=by omega
     have hv:=HV.out;have yg:=eJ qw;have hle:=B4.out;rw[Ht.out] at yg;rw[hk',show cc=1 by omega] at hv
     omega
    obtain⟨rfl,qW⟩:=hB (by omega);have mw:k<t.length:=by have:=Ht.out;omega
    have hct:wr.cell? ⟨g,pre.length+k,none⟩=some (.int .u32 (nth t k)):=by
     rw[qW.cell (by simp;omega),mq _ _ _ _ mw]
    have hft:=qW.frozen (pre.length+k);have t1:=jA qw k;clear hB h4;go_wp2_with (go_at_call 181;refine (ri _ _ _ _ (by omega) (by omega) (by omega)).mono ?_;rintro e w' ⟨rfl,rfl⟩)
    go_roundw
    case rel =>
     obtain⟨b',e1,e2,v',e3,e4,e5⟩:=rF (t.getD k 0) 0 cc (by unfold nth at t1;omega) (by omega) tQ;refine⟨k+1,t.set k v',b',by go_num,?_,e2,by omega,aI hg _,aa (by rw[cm];exact Ht.out),qw.set e4,fun _=>⟨rfl,?_⟩,aa (zQ t _ _ k cc v' b' mw HV.out (by omega))⟩
     ·rw[<-e1];rfl
     rw[<-mo _ _ _ _ _ mw];exact qW.set _ _ _ (by rw[<-e3];unfold nth;omega)
    case measure=>simp[fH];omega
   have hend:val 4294967296 t=val 4294967296 s - val 4294967296 ys:=by
    have hv:=HV.out;rw[show cc=0 by omega,DD,oJ] at hv
    omega
   have It:=aa hend;clear hend;have ow:Ws wr .u32 153 (.slice ao s.length cap) g pre t post:=⟨ao,cap,by rw[Ht.out],by rw[Ht.out];exact h1,h2,h3,by rw[Ht.out];exact hB⟩
   clear h4
   go_wp2
   go_end0
   exact⟨t,rfl,ow,hg,Ht.out,qw,It.out⟩
def mz (a b:Nat):Int:=if a<b then -1 else if a=b then 0 else 1
theorem CD {xs ys:List Nat} (hx:eI aH xs) (hy:eI aH ys) (h:nz xs<nz ys):val aH xs<val aH ys:=by
 have h1:=e_ (B:=aH) (by decide) hx;have h2:=e_ (B:=aH) (by decide) hy;exact aK (tZ (B:=aH) (k:=nz xs) (by decide) (by omega)) (yM (by decide) (by omega))
theorem jH (B:Nat) (xs:List Nat) (k:Nat) (h:k<=xs.length):val B xs=val B (xs.take k)+B ^ k*val B (xs.drop k):=by
 have:=lE B (xs.take k) (xs.drop k);rw[nQ] at this;rw[this,aW,cE h]
theorem CB {B:Nat} {xs ys:List Nat} {k:Nat} (hx:eI B xs) (hk:k<xs.length) (hk':k<ys.length) (he:xs.drop (k+1)=ys.drop (k+1)) (h:xs.getD k 0<ys.getD k 0):val B xs<val B ys:=by
 rw[jH B xs (k+1) (by omega),jH B ys (k+1) (by omega),he,gC B xs k hk,gC B ys k hk'];have h1:=eJ (hx.take k);rw[aW,cE (by omega)] at h1;have h2:(xs.getD k 0+1)*B ^ k<=ys.getD k 0*B ^ k:=aU _ h;rw[cL,Nat.one_mul] at h2
 omega
theorem Dr {xs ys:List Nat} {k:Nat} (hk:k<xs.length) (hk':k<ys.length) (he:xs.drop (k+1)=ys.drop (k+1)) (h:xs.getD k 0=ys.getD k 0):xs.drop k=ys.drop k:=by
 rw[iq hk,iq hk',he]
 congr 1
 simpa [dz,hk,hk'] using h
theorem vP {a b:Nat} (h:a<b):mz a b = -1:=by unfold mz;rw[if_pos h]
theorem CE {a b:Nat} (h:b<a):mz a b=1:=by unfold mz;rw[if_neg (by omega),if_neg (by omega)]
theorem Io {a b:Nat} (h:a=b):mz a b=0:=by unfold mz;rw[if_neg (by omega),if_pos h]
theorem ij (w:an) (n:Nat) (B:Nat):aC B w (w.drewN n):=⟨rfl,rfl,rfl,ak _,fun _ _=>rfl⟩
theorem vh {P:rL} {f:FuncId} {args:Array ay} {w:an} {a b:Nat} {v:ay} (h:∀ W:an,bf P f args W fun e w'=>e=.returned v/\w'=W) :
  bf P f args (w.drewN (a+b)) fun e w'=>e=.returned v/\∃ m,w'=w.drewN (a+m):=
 (h (w.drewN (a+b))).mono fun _ _ hh=>⟨hh.1,b,hh.2⟩
theorem Ck (w:an):bf ax 145 #[.bool true] w fun e w'=>e=.returned (.int .i64 (-1))/\w'=w:=by
 go_enter Tryz.func145,Tryz.ntmps145
 go_wp2
 go_ret
 exact⟨rfl,rfl⟩
theorem Cl (w:an):bf ax 145 #[.bool false] w fun e w'=>e=.returned (.int .i64 1)/\w'=w:=by
 go_enter Tryz.func145,Tryz.ntmps145
 go_wp2
 go_ret
 exact⟨rfl,rfl⟩
theorem rD (va vb:ay) (xs ys:List Nat) (w:an) (hx:Sl w .u32 va xs) (hy:Sl w .u32 vb ys) (dx:eI aH xs) (dy:eI aH ys) :
  bf ax 96 #[va,vb] w fun e w'=>e=.returned (.int .i64 (mz (val aH xs) (val aH ys)))/\aC w.heap.size w w':=by
 have HX:=aa hx;have HY:=aa hy;obtain⟨ao,ac,rfl,a1,a2,a3,a4⟩:=hx;obtain⟨bo,bc,rfl,b1,b2,b3,b4⟩:=hy;have nx:=gR xs;have ny:=gR ys
 by_cases hne:nz xs=nz ys
 ·have OX:(((nz xs:Nat):Int) != ((nz ys:Nat):Int))=false:=by simp[hne]
  have HN:=aa hne;clear hne;have We:nz xs<=nz ys/\nz ys<=nz xs:=by have:=HN.out;omega
  go_enter Tryz.func96,Tryz.ntmps96
  go_wp2_with fail
  refine (dA _ _ _ xs _ HX.out).mono ?_;rintro e w' ⟨rfl,rfl⟩;go_wp2_with fail
  refine (dA _ _ _ ys _ HY.out).mono ?_;rintro e w' ⟨rfl,rfl⟩;go_wp2_with fail
  go_loopw [5] (fun i wr=>∃ k:Nat,k<=nz xs/\i=.int .i64 ((k:Int) - 1)/\Hid ((xs.take (nz xs)).drop k=(ys.take (nz ys)).drop k)/\aC w.heap.size w wr) (fun i _=>(fH i+1).toNat)
  case atStart=>exact⟨nz xs,ak _,rfl,aa (by rw[HN.out,gP (by simp;omega),gP (by simp;omega)]),av _ _⟩
  case round =>
   obtain⟨k,hk,rfl,HD,hb⟩:=hrel
   by_cases h0:0<k
   ·obtain⟨a,rfl,hca⟩:=a4 (k - 1) (by omega);obtain⟨b,rfl,hcb⟩:=b4 (k - 1) (by omega);have T5:wr.cell? (a.add (k - 1))=some (.int .u32 (nth xs (k - 1))):=by rw[hb.cell (bS hca)];exact hca
    have Ih:wr.cell? (b.add (k - 1))=some (.int .u32 (nth ys (k - 1))):=by rw[hb.cell (bS hcb)];exact hcb
    have gx:(xs.take (nz xs)).getD (k - 1) 0=xs.getD (k - 1) 0:=by simp[dz,show k - 1<nz xs by omega]
    have gy:(ys.take (nz ys)).getD (k - 1) 0=ys.getD (k - 1) 0:=by simp[dz,show k - 1<nz ys by omega]
    have lx:(xs.take (nz xs)).length=nz xs:=by simp;omega
    have ly:(ys.take (nz ys)).length=nz ys:=by simp;omega
    have QK:Hid ((xs.take (nz xs)).drop (k - 1+1)=(ys.take (nz ys)).drop (k - 1+1)):=aa (by rw[show k - 1+1=k by omega];exact HD.out);have GX:=aa gx;have GY:=aa gy;have LX:=aa lx;have LY:=aa ly;clear gx gy lx ly hca hcb a4 b4
    by_cases he:xs.getD (k - 1) 0=ys.getD (k - 1) 0
    ·have he':(nth xs (k - 1) != nth ys (k - 1))=false:=by simp only[nth,he];exact bne_self_eq_false _
     have HE:=aa he;clear he;go_wp2_with fail
     go_quiet (fail)
     go_wp2_with fail
     go_roundw
     case rel=>exact⟨k - 1,by omega,by go_num,aa (Dr (by have:=LX.out;omega) (by have:=LY.out;omega) QK.out (by rw[GX.out,GY.out,HE.out])),hb.trans (ij _ _ _)⟩
     case measure=>simp[fH];omega
    have he':(nth xs (k - 1) != nth ys (k - 1))=true:=by simp only[nth,bne_iff_ne];omega
    rcases Nat.lt_or_gt_of_ne he with hlt | hgt
    ·have hd:nth xs (k - 1)<nth ys (k - 1):=by unfold nth;omega
     have ow:mz (val aH xs) (val aH ys) = -1:=by
      have:=CB (B:=aH) (dx.take (nz xs)) (ys:=ys.take (nz ys)) (k:=k - 1) (by have:=LX.out;omega) (by have:=LY.out;omega) QK.out (by rw[GX.out,GY.out];exact hlt);rw[bZ (by decide) dx,bZ (by decide) dy] at this;exact vP this
     have HF:=aa ow;clear he hlt ow;go_wp2_with fail
     go_quiet (fail)
     go_wp2_with fail
     go_quiet ((go_at_call 145;exact vh Ck))
     go_wp2_with fail
     go_ret
     exact⟨by rw[HF.out];rfl,(hb.trans (ij _ _ _)).trans (ij _ _ _)⟩
    have hd:nth ys (k - 1)<nth xs (k - 1):=by unfold nth;omega
    have hd':decide (nth xs (k - 1)<nth ys (k - 1))=false:=by simp;omega
    have ow:mz (val aH xs) (val aH ys)=1:=by
     have:=CB (B:=aH) (dy.take (nz ys)) (ys:=xs.take (nz xs)) (k:=k - 1) (by have:=LY.out;omega) (by have:=LX.out;omega) QK.out.symm (by rw[GX.out,GY.out];exact hgt);rw[bZ (by decide) dx,bZ (by decide) dy] at this;exact CE this
    have HF:=aa ow;clear he hgt ow;go_wp2_with fail
    go_quiet (fail)
    go_wp2_with fail
    go_quiet ((go_at_call 145;exact (vh Cl)))
    go_wp2_with fail
    go_ret
    exact⟨by rw[HF.out];rfl,(hb.trans (ij _ _ _)).trans (ij _ _ _)⟩
   have ow:mz (val aH xs) (val aH ys)=0:=by
    have hd:=HD.out;rw[show k=0 by omega,iV,iV] at hd;exact Io (by rw[<-bZ (by decide) dx,hd,bZ (by decide) dy])
   have HF:=aa ow;clear ow;go_wp2_with fail
   go_ret
   exact⟨by rw[HF.out];rfl,hb⟩
 have OX:(((nz xs:Nat):Int) != ((nz ys:Nat):Int))=true:=by rw[bne_iff_ne];omega
 rcases Nat.lt_or_gt_of_ne hne with hlt | hgt
 ·have HF:=aa (vP (CD dx dy hlt));clear hne;go_enter Tryz.func96,Tryz.ntmps96
  go_wp2_with fail
  refine (dA _ _ _ xs _ HX.out).mono ?_;rintro e w' ⟨rfl,rfl⟩;go_wp2_with fail
  refine (dA _ _ _ ys _ HY.out).mono ?_;rintro e w' ⟨rfl,rfl⟩;go_wp2_with fail
  refine (Ck _).mono ?_;rintro e w' ⟨rfl,rfl⟩;go_wp2_with fail
  go_ret
  exact⟨by rw[HF.out];rfl,av _ _⟩
 have HF:=aa (CE (CD dy dx hgt));have hd:decide (nz xs<nz ys)=false:=by simp;omega
 clear hne;go_enter Tryz.func96,Tryz.ntmps96
 go_wp2_with fail
 refine (dA _ _ _ xs _ HX.out).mono ?_;rintro e w' ⟨rfl,rfl⟩;go_wp2_with fail
 refine (dA _ _ _ ys _ HY.out).mono ?_;rintro e w' ⟨rfl,rfl⟩;go_wp2_with fail
 refine (Cl _).mono ?_;rintro e w' ⟨rfl,rfl⟩;go_wp2_with fail
 go_ret
 exact⟨by rw[HF.out];rfl,av _ _⟩
theorem oS {w:an} {k:cN} {v:ay} {xs:List Nat} (h:Sl w k v xs) {g:Nat} (hg:w.heap.size<=g):r6 g v:=by
 obtain⟨ao,cap,rfl,h1,h2,h3,h4⟩:=h;intro a n c e hb;injection e with e1 e2 e3;subst e2;rcases bO xs.length with h0 | h0
 ·exact h0
 obtain⟨a',e,hc⟩:=h4 0 h0;have:=bS hc;rw[e1] at e;injection e with e;subst e;have hb':(a.add 0).block=a.block:=by unfold sP;split<;>rfl
 omega
theorem A' {w:an} {ao:Option cH} {n cap:Nat} {xs:List Nat} (h:Sl w .u32 (.slice ao n cap) xs) (hd:eI aH xs):Sl w .u32 (lF ao cap xs) (fx aH (val aH xs)):=by
 rw[<-pD (by decide) hd];unfold lF
 by_cases h0:nz xs=0
 ·rw[if_pos h0,h0];exact Sl.nil _ _
 rw[if_neg h0];exact h.take _ (gR xs)
theorem Ws.at {w:an} {k:cN} {T:bu} {v:ay} {g:Nat} {pre s post:List Nat} (h:Ws w k T v g pre s post):∃ ao cap,v=.slice ao s.length cap:=by
 obtain⟨ao,cap,e,_⟩:=h;exact⟨ao,cap,e⟩
theorem jI (v:ay) (xs:List Nat) (w:an) (h:Sl w .u32 v xs) (hd:eI aH xs) :
  bf ax 138 #[v] w fun e w'=>∃ v',e=.returned v'/\Sl w .u32 v' (fx aH (val aH xs))/\w=w':=by
 obtain⟨ao,cap,rfl⟩:∃ ao cap,v=.slice ao xs.length cap:=by obtain⟨ao,cap,e,_⟩:=h;exact⟨ao,cap,e⟩
 exact (uI _ _ _ xs _ h).mono fun e w' ⟨he,hw⟩=>⟨_,he,A' h hd,hw⟩
theorem fo {B:Nat} {a b:an} {g:Nat} (h:a.grownBy b (some g)) (hg:B<=g) (hB:B<=a.heap.size:=by omega):aC B a b:=
 ⟨h.os,h.tape,h.output,h.size,fun k hk=>h.block k (by omega) (fun e=>by injection e with e;omega)⟩
theorem lJ (B:Nat) (xs:List Nat) (n:Nat):val B (xs++bA n 0)=val B xs:=by
 rw[lE,iP];simp
theorem Iq (va vb:ay) (xs ys:List Nat) (w:an) (hx:Sl w .u32 va xs) (hy:Sl w .u32 vb ys) (dx:eI aH xs) (dy:eI aH ys) (lx:xs.length<=1000000) (ly:ys.length<=1000000) :
  bf ax 97 #[va,vb] w fun e w'=>∃ v,e=.returned v/\Sl w' .u32 v (fx aH (val aH xs+val aH ys))/\aC w.heap.size w w':=by
 obtain⟨ao,ac,rfl⟩:∃ ao cap,va=.slice ao xs.length cap:=by obtain⟨ao,cap,e,_⟩:=hx;exact⟨ao,cap,e⟩
 obtain⟨bo,bc,rfl⟩:∃ ao cap,vb=.slice ao ys.length cap:=by obtain⟨ao,cap,e,_⟩:=hy;exact⟨ao,cap,e⟩
 have nx:=gR xs;have ny:=gR ys;have hx':=hx.take (nz xs) nx;have hy':=hy.take (nz ys) ny;have zH:=dx.take (nz xs);have Gl:=dy.take (nz ys);have ex:(xs.take (nz xs)).length=nz xs:=by simp;omega
 have ey:(ys.take (nz ys)).length=nz ys:=by simp;omega
 have EX:=aa ex;have EY:=aa ey;clear ex ey
 -- what stands behind the two cuts, for the longer one first
 have fin:∀ (s s' zs:List Nat),eI aH s->eI aH zs->zs.length<=s.length->s'.length=s.length+1->eI aH s'->val aH s'=(val aH (s++bA 1 0)+val aH zs) % aH ^ (s.length+1)->val aH s+val aH zs=val aH xs+val aH ys ->
   fx aH (val aH s')=fx aH (val aH xs+val aH ys):=by
  intro s s' zs h1 h2 h3 h4 h5 h6 h7;rw[h6,lJ,h7];rw[iw];rw[<-h7];have a1:=eJ h1;have a2:=eJ h2;have a3:aH ^ zs.length<=aH ^ s.length:=bU (by decide) h3;rw[bY];have:aH ^ s.length*2<=aH ^ s.length*aH:=eX _ (by decide)
  omega
 have vx:=bZ (B:=aH) (by decide) dx;have vy:=bZ (B:=aH) (by decide) dy;have VX:=aa vx;have VY:=aa vy;clear vx vy;have SC:=aa fin;clear fin
 by_cases hlt:nz xs<nz ys
 ·go_enter Tryz.func97,Tryz.ntmps97
  go_wp2_with fail
  refine (dA _ _ _ xs _ hx).mono ?_;rintro e w' ⟨rfl,rfl⟩;go_wp2_with fail
  refine (dA _ _ _ ys _ hy).mono ?_;rintro e w' ⟨rfl,rfl⟩;go_wp2_with fail
  refine (lH bo _ bc _ (nz ys+1) _ w hy' (by rw[EY.out];omega) (by omega) (by omega)).mono ?_;rintro e w1 ⟨v1,rfl,hs1,dm,jK⟩;have hsz:=jK (by omega);go_wp2_with fail
  refine (uB w.heap.size [] _ [] _ _ _ w1 hs1 (hx'.below dm) (oS hx' (ak _)) ?_ (Gl.append (eI.replicate (by decide) _)) zH).mono ?_
  ·rw[EX.out,fI,EY.out];simp;omega
  rintro e w2 ⟨s',rfl,Cr,eV,yX,zF,yg⟩;have cV:aC w.heap.size w w2:=dm.trans (fo eV (ak _));have ID:=aa yX;have Nd:=aa yg;clear yX yg;have OQ:=Cr.sl;go_wp2_with fail
  refine (jI _ s' _ OQ zF).mono ?_;rintro e w3 ⟨v3,rfl,ht,rfl⟩;go_wp2_with fail
  go_ret
  refine⟨_,rfl,?_,cV⟩;have hl:=ID.out;have hv:=Nd.out;rw[fI,EY.out] at hl hv;rw[show nz ys+1 - nz ys=1 by omega] at hl hv;simp only[iB] at hl hv;rw[SC.out (ys.take (nz ys)) s' (xs.take (nz xs)) Gl zH (by rw[EX.out,EY.out];omega) (by rw[EY.out];exact hl) zF (by rw[EY.out];exact hv) (by have h1:=VX.out;have h2:=VY.out;omega)] at ht;exact ht
 go_enter Tryz.func97,Tryz.ntmps97
 go_wp2_with fail
 refine (dA _ _ _ xs _ hx).mono ?_;rintro e w' ⟨rfl,rfl⟩;go_wp2_with fail
 refine (dA _ _ _ ys _ hy).mono ?_;rintro e w' ⟨rfl,rfl⟩;go_wp2_with fail
 refine (lH ao _ ac _ (nz xs+1) _ w hx' (by rw[EX.out];omega) (by omega) (by omega)).mono ?_;rintro e w1 ⟨v1,rfl,hs1,dm,jK⟩;have hsz:=jK (by omega);go_wp2_with fail
 refine (uB w.heap.size [] _ [] _ _ _ w1 hs1 (hy'.below dm) (oS hy' (ak _)) ?_ (zH.append (eI.replicate (by decide) _)) Gl).mono ?_
 ·rw[EY.out,fI,EX.out];simp;omega
 rintro e w2 ⟨s',rfl,Cr,eV,yX,zF,yg⟩;have cV:aC w.heap.size w w2:=dm.trans (fo eV (ak _));have ID:=aa yX;have Nd:=aa yg;clear yX yg;have OQ:=Cr.sl;go_wp2_with fail
 refine (jI _ s' _ OQ zF).mono ?_;rintro e w3 ⟨v3,rfl,ht,rfl⟩;go_wp2_with fail
 go_ret
 refine⟨_,rfl,?_,cV⟩;have hl:=ID.out;have hv:=Nd.out;rw[fI,EX.out] at hl hv;rw[show nz xs+1 - nz xs=1 by omega] at hl hv;simp only[iB] at hl hv;rw[SC.out (xs.take (nz xs)) s' (ys.take (nz ys)) zH Gl (by rw[EX.out,EY.out];omega) (by rw[EX.out];exact hl) zF (by rw[EX.out];exact hv) (by have h1:=VX.out;have h2:=VY.out;omega)] at ht;exact ht
theorem bR {w:an} {k:cN} {v:ay} {xs:List Nat} (h:Sl w k v xs):∃ ao cap,v=.slice ao xs.length cap:=by
 obtain⟨ao,cap,e,_⟩:=h;exact⟨ao,cap,e⟩
theorem sub_lt (va vb:ay) (xs ys:List Nat) (w:an) (hx:Sl w .u32 va xs) (hy:Sl w .u32 vb ys) (dx:eI aH xs) (dy:eI aH ys) (hlt:val aH xs<val aH ys) :
  bf ax 98 #[va,vb] w fun e w'=>e=.returned (.tuple #[.slice none 0 0,.bool false])/\aC w.heap.size w w':=by
 obtain⟨ao,ac,rfl⟩:=bR hx;obtain⟨bo,bc,rfl⟩:=bR hy;have hx':=hx.take (nz xs) (gR xs);have hy':=hy.take (nz ys) (gR ys);have HC:=aa (show mz (val aH (xs.take (nz xs))) (val aH (ys.take (nz ys))) = -1 by rw[bZ (by decide) dx,bZ (by decide) dy];exact vP hlt);go_enter Tryz.func98,Tryz.ntmps98
 go_wp2_with fail
 refine (dA _ _ _ xs _ hx).mono ?_;rintro e w' ⟨rfl,rfl⟩;go_wp2_with fail
 refine (dA _ _ _ ys _ hy).mono ?_;rintro e w' ⟨rfl,rfl⟩;go_wp2_with fail
 refine (rD _ _ _ _ _ hx' hy' (dx.take _) (dy.take _)).mono ?_;rintro e w' ⟨rfl,hb⟩;rw[HC.out];go_wp2_with fail
 go_ret2
 exact⟨rfl,hb⟩
theorem JH (va vb:ay) (xs ys:List Nat) (w:an) (hx:Sl w .u32 va xs) (hy:Sl w .u32 vb ys) (dx:eI aH xs) (dy:eI aH ys) (lx:xs.length<=1000000) (hge:val aH ys<=val aH xs) :
  bf ax 98 #[va,vb] w fun e w'=>∃ v,e=.returned (.tuple #[v,.bool true])/\Sl w' .u32 v (fx aH (val aH xs - val aH ys))/\aC w.heap.size w w':=by
 obtain⟨ao,ac,rfl⟩:=bR hx;obtain⟨bo,bc,rfl⟩:=bR hy;have nx:=gR xs;have hx':=hx.take (nz xs) nx;have hy':=hy.take (nz ys) (gR ys);have zH:=dx.take (nz xs);have Gl:=dy.take (nz ys);have EX:=aa (show (xs.take (nz xs)).length=nz xs by simp;omega);have VX:=aa (bZ (B:=aH) (by decide) dx);have VY:=aa (bZ (B:=aH) (by decide) dy)
 have hc:0<=mz (val aH (xs.take (nz xs))) (val aH (ys.take (nz ys))):=by
  rw[VX.out,VY.out];unfold mz;rw[if_neg (by omega)];split<;>omega
 have hlen:(ys.take (nz ys)).length<=nz xs:=by
  rw[<-e_ (B:=aH) (by decide) dx,<-pX (by decide) dy]
  exact fL (by decide) (by
   have h1:=eJ (kB (B:=aH) (by decide) (val aH xs));rw[jg (by decide)] at h1
   omega)
 go_enter Tryz.func98,Tryz.ntmps98
 go_wp2_with fail
 refine (dA _ _ _ xs _ hx).mono ?_;rintro e w' ⟨rfl,rfl⟩;go_wp2_with fail
 refine (dA _ _ _ ys _ hy).mono ?_;rintro e w' ⟨rfl,rfl⟩;go_wp2_with fail
 refine (rD _ _ _ _ _ hx' hy' zH Gl).mono ?_;rintro e w0 ⟨rfl,hb0⟩;go_wp2_with fail
 refine (lH ao _ ac _ (nz xs) _ w0 (hx'.below hb0) (by rw[EX.out];omega) (by omega) (by omega)).mono ?_;rintro e w1 ⟨v1,rfl,hs1,dm,jK⟩;have Kq:aC w.heap.size w w1:=hb0.trans (dm.mono hb0.size);go_wp2_with fail
 have HV:=aa (show val aH (xs.take (nz xs)++bA (nz xs - (xs.take (nz xs)).length) 0)=val aH xs by rw[lJ,VX.out]);refine (zP w0.heap.size [] _ [] _ _ _ w1 hs1 (hy'.below Kq) (oS (hy'.below hb0) (ak _)) (by rw[fI,iB,EX.out];omega) (zH.append (eI.replicate (by decide) _)) Gl (by rw[HV.out,VY.out];exact hge)).mono ?_;rintro e w2 ⟨s',rfl,Cr,eV,yX,zF,yg⟩;have cV:aC w.heap.size w w2:=Kq.trans (fo eV hb0.size Kq.size);have Nd:=aa (show val aH s'=val aH xs - val aH ys by rw[yg,HV.out,VY.out]);clear yX yg;go_wp2_with fail
 refine (jI _ s' _ Cr.sl zF).mono ?_;rintro e w3 ⟨v3,rfl,ht,rfl⟩;go_wp2_with fail
 go_ret2
 refine⟨_,rfl,?_,cV⟩;rw[Nd.out] at ht;exact ht
theorem we (va:ay) (xs:List Nat) (w:an) (hx:Sl w .u32 va xs) (dx:eI aH xs) (lx:xs.length<=1000000) :
  bf ax 110 #[va] w fun e w'=>∃ v,e=.returned v/\Ws w' .u32 153 v w.heap.size [] (fx aH (val aH xs)) []/\aC w.heap.size w w':=by
 obtain⟨ao,ac,rfl⟩:=bR hx;have nx:=gR xs;have hx':=hx.take (nz xs) nx;have EX:=aa (show (xs.take (nz xs)).length=nz xs by simp;omega);go_enter Tryz.func110,Tryz.ntmps110
 go_wp2_with fail
 refine (dA _ _ _ xs _ hx).mono ?_;rintro e w' ⟨rfl,rfl⟩;go_wp2_with fail
 refine (lH ao _ ac _ (nz xs) _ w hx' (by rw[EX.out];omega) (by omega) (by omega)).mono ?_;rintro e w1 ⟨v1,rfl,hs1,dm,jK⟩;go_wp2_with fail
 go_ret
 refine⟨_,rfl,?_,dm⟩;rw[EX.out,Nat.sub_self,tT,iN,pD (by decide) dx] at hs1;exact hs1
theorem Bi (n:Nat) (z:Int) (w:an) (hz:z=(n:Int)) (hn:n<18446744073709551616) :
  bf ax 91 #[.int .u64 z] w fun e w'=>∃ v,e=.returned v/\Sl w' .u32 v (fx aH n)/\aC w.heap.size w w':=by
 have h0:0<=z/\z<18446744073709551616:=by omega
 have hB:oH (w.alloc (.cells #[.int .u32 (z % 4294967296),.int .u32 (z / 4294967296)] 153)) w.heap.size .u32 153 [n % aH,n / aH]:=by
  unfold oH;rw[heap_alloc_new,hz]
  rfl
 have hS:=hB.sl 0 2 2 (by simp) (by omega) (by omega)
 have hD:eI aH [n % aH,n / aH]:=by
  intro x hx;rcases List.mem_cons.1 hx with rfl | hx
  ·exact di _ (by decide)
  obtain rfl:=List.mem_singleton.1 hx;exact dB (by omega)
 have hV:val aH [n % aH,n / aH]=n:=by
  have h:=jG n aH;simp only[val,Nat.mul_zero,oJ];exact h
 have HV:=aa hV;clear hV hz;go_enter Tryz.func91,Tryz.ntmps91
 go_wp2_with fail
 refine (jI _ [n % aH,n / aH] _ hS hD).mono ?_;rintro e w3 ⟨v3,rfl,ht,rfl⟩;go_wp2_with fail
 go_ret
 refine⟨_,rfl,?_,(av _ _).alloc (ak _) _⟩;rw[HV.out] at ht;exact ht
def Bm:ay->Nat | .slice _ n _=>n | _=>0
theorem tB {xs:List Nat} {i:Nat} (h:xs.length<=i):xs.getD i 0=0:=by simp[dz,h]
theorem cW (B:Nat) (xs:List Nat) (k:Nat):val B (xs.take (k+1))=val B (xs.take k)+xs.getD k 0*B ^ k:=by
 by_cases h:k<xs.length
 ·exact gC B xs k h
 rw[tB (by omega),cr (by omega),cr (by omega)];simp
theorem AA {B n:Nat} (hB:2<=B) (h:0<(fx B n).length):(fx B n).getD ((fx B n).length - 1) 0≠0:=by
 intro h0;have h1:=pD hB (kB hB n);rw[jg hB] at h1;have h2:=congrArg dL h1;rw[aW] at h2;have h3:=yK (xs:=fx B n) (k:=(fx B n).length - 1) (by omega) h0;rw[show (fx B n).length - 1+1=(fx B n).length by omega,bD] at h3;have h4:=gR ((fx B n).take ((fx B n).length - 1));rw[aW] at h4
 omega
end Go.Proofs.YtoncclhbdkjhmaaGreatDoor
namespace Go.Proofs
open Go.Shelf
def Tryz.uP:mJ:=⟨fun | 169=>68 | n=>n,fun | 70=>107 | 9=>9 | 0=>0 | 72=>109 | 37=>99 | 127=>159 | 3=>3 | 5=>5 | n=>n,fun | n=>n⟩
theorem Tryz.Hj:Go.Proofs.Lays.n169 ax Tryz.uP:={
 mixed:=by kernel_rfl
 f169:=Tryz.func68.trans (congrArg some (by kernel_rfl))
 t0:=xu
 a0:=Tryz.isAgg0
 z0:=Tryz.sizeOf0
 v0:=Tryz.zeroValue0
 t3:=kD
 a3:=qf
 z3:=ot
 v3:=k_
 t9:=gH
 a9:=qd
 z9:=om
 v9:=k6
 t37:=oh
 a37:=Tryz.isAgg99
 z37:=Tryz.sizeOf99
 v37:=Tryz.zeroValue99
 t70:=Tryz.underlying107
 a70:=Tryz.isAgg107
 z70:=Tryz.sizeOf107
 v70:=Tryz.zeroValue107
 t72:=Tryz.underlying109
 a72:=Tryz.isAgg109
 z72:=Tryz.sizeOf109
 v72:=Tryz.zeroValue109
 t127:=Tryz.underlying159
 a127:=Tryz.isAgg159
 z127:=Tryz.sizeOf159
 v127:=Tryz.zeroValue159 }
theorem Tryz.tL:Builder.Extra ax Tryz.uP:={
 sizeBuilder:=by kernel_rfl
 liesBuilder:=by kernel_rfl
 t5:=lf
 a5:=Tryz.isAgg5
 z5:=Tryz.sizeOf5
 v5:=nO
 infoByte:=by kernel_rfl
 cellsByte:=by kernel_rfl
 sizeByte:=by kernel_rfl
 neB5:=by decide }
open Go.RowKit in
theorem Tryz.Builder_String_any (B b:Nat) (l:List UInt8) (w:an) (h:Lib.IsBuilder 109 5 B b (c_ l) w) (hBw:B<=w.heap.size) :
  bf ax 68 #[.pointer (some ⟨b,0,none⟩)] w fun e w'=>e=.returned (.string ⟨l.toArray⟩)/\aC B w w':=Any.Builder_String_any Tryz.Hj Tryz.tL B b l w h hBw
def Tryz.Ac:mJ:=⟨fun | 128=>154 | n=>n,fun | 51=>153 | 3=>3 | 4=>4 | 46=>183 | 5=>5 | 9=>9 | n=>n,fun | n=>n⟩
theorem Tryz.Ho:Go.Proofs.Lays.n128 ax Tryz.Ac:={
 mixed:=by kernel_rfl
 f128:=Tryz.func154.trans (congrArg some (by kernel_rfl))
 t3:=kD
 a3:=qf
 z3:=ot
 v3:=k_
 t4:=lg
 a4:=Tryz.isAgg4
 z4:=rK
 v4:=nP
 t5:=lf
 a5:=Tryz.isAgg5
 z5:=Tryz.sizeOf5
 v5:=nO
 t9:=gH
 a9:=qd
 z9:=om
 v9:=k6
 t46:=Tryz.underlying183
 a46:=Tryz.isAgg183
 z46:=Tryz.sizeOf183
 v46:=Tryz.zeroValue183
 t51:=vk
 a51:=Tryz.isAgg153
 z51:=Tryz.sizeOf153
 v51:=Tryz.zeroValue153 }
theorem Tryz.bits_Len32 (x:Int) (w:an) (h0:0<=x) (h1:x<=4294967295) :
  bf ax 154 #[.int .u32 x] w fun e w'=>e=.returned (.int .i64 (Lib.bitLen x.toNat))/\w'=w:=Any.bits_Len32 Tryz.Ho x w h0 h1
def Tryz.Ab:mJ:=⟨fun | 133=>186 | 128=>154 | n=>n,fun | 51=>153 | 3=>3 | 4=>4 | 46=>183 | 5=>5 | 9=>9 | n=>n,fun | n=>n⟩
theorem Tryz.Hl:Go.Proofs.Lays.n133 ax Tryz.Ab:={
 mixed:=by kernel_rfl
 f128:=Tryz.func154.trans (congrArg some (by kernel_rfl))
 f133:=Tryz.func186.trans (congrArg some (by kernel_rfl))
 t3:=kD
 a3:=qf
 z3:=ot
 v3:=k_
 t4:=lg
 a4:=Tryz.isAgg4
 z4:=rK
 v4:=nP
 t5:=lf
 a5:=Tryz.isAgg5
 z5:=Tryz.sizeOf5
 v5:=nO
 t9:=gH
 a9:=qd
 z9:=om
 v9:=k6
 t46:=Tryz.underlying183
 a46:=Tryz.isAgg183
 z46:=Tryz.sizeOf183
 v46:=Tryz.zeroValue183
 t51:=vk
 a51:=Tryz.isAgg153
 z51:=Tryz.sizeOf153
 v51:=Tryz.zeroValue153 }
theorem Tryz.bits_LeadingZeros32 (x:Int) (w:an) (h0:0<=x) (h1:x<=4294967295) :
  bf ax 186 #[.int .u32 x] w fun e w'=>e=.returned (.int .i64 (32 - (Lib.bitLen x.toNat:Int)))/\w'=w:=Any.bits_LeadingZeros32 Tryz.Hl x w h0 h1
def Tryz.Aa:mJ:=⟨fun | 283=>198 | n=>n,fun | 3=>3 | 9=>9 | 4=>4 | n=>n,fun | n=>n⟩
theorem Tryz.Hi:Go.Proofs.Lays.n283 ax Tryz.Aa:={
 mixed:=by kernel_rfl
 f283:=Tryz.func198.trans (congrArg some (by kernel_rfl))
 t3:=kD
 a3:=qf
 z3:=ot
 v3:=k_
 t4:=lg
 a4:=Tryz.isAgg4
 z4:=rK
 v4:=nP
 t9:=gH
 a9:=qd
 z9:=om
 v9:=k6 }
open Go.Lib in
theorem Tryz.internal_strconv_small (i:Nat) (h:i<100) (w:an) :
  bf ax 198 #[.int .i64 i] w fun e w'=>e=.returned (.string ⟨(bh i).toArray⟩)/\w'=w:=Any.internal_strconv_small Tryz.Hi i h w
def Tryz.yN:mJ:=⟨fun | 284=>199 | 129=>217 | 317=>218 | 318=>219 | n=>n,fun | 53=>130 | 3=>3 | 212=>256 | 0=>0 | 4=>4 | 46=>183 | 5=>5 | 9=>9 | n=>n,fun | 17=>3 | n=>n⟩
theorem Tryz.ED:Go.Proofs.LaysM.n284 ax Tryz.yN:={
 mixed:=by kernel_rfl
 f129:=Tryz.func217.trans (congrArg some (by kernel_rfl))
 f284:=Tryz.func199.trans (congrArg some (by kernel_rfl))
 f317:=Tryz.func218.trans (congrArg some (by kernel_rfl))
 f318:=Tryz.func219.trans (congrArg some (by kernel_rfl))
 t0:=xu
 a0:=Tryz.isAgg0
 z0:=Tryz.sizeOf0
 v0:=Tryz.zeroValue0
 t3:=kD
 a3:=qf
 z3:=ot
 v3:=k_
 t4:=lg
 a4:=Tryz.isAgg4
 z4:=rK
 v4:=nP
 t5:=lf
 a5:=Tryz.isAgg5
 z5:=Tryz.sizeOf5
 v5:=nO
 t9:=gH
 a9:=qd
 z9:=om
 v9:=k6
 t46:=Tryz.underlying183
 a46:=Tryz.isAgg183
 z46:=Tryz.sizeOf183
 v46:=Tryz.zeroValue183
 t53:=Tryz.underlying130
 a53:=Tryz.isAgg130
 z53:=Tryz.sizeOf130
 v53:=Tryz.zeroValue130
 t212:=Tryz.underlying256
 a212:=Tryz.isAgg256
 z212:=Tryz.sizeOf256
 v212:=Tryz.zeroValue256
 g17:=by kernel_rfl
 i0:=by kernel_rfl
 i3:=by kernel_rfl
 i4:=by kernel_rfl
 i5:=by kernel_rfl
 i9:=by kernel_rfl
 i46:=by kernel_rfl
 i53:=by kernel_rfl
 i212:=by kernel_rfl
 m17:=by kernel_rfl }
open Go.Lib in
theorem Tryz.internal_strconv_numDigits (u : Nat) (h1 : 1 ≤ u) (h2 : u < 18446744073709551616) (w : an) (htab : Lib.TabIs ax w "internal/strconv.uint64pow10" .u64 Lib.pow10Tab) :
  bf ax 199 #[.int .u64 u] w fun e w'=>e=.returned (.int .i64 (Lib.nDigits u))/\w'=w:=Any.internal_strconv_numDigits Tryz.ED u h1 h2 w htab
def Tryz.z_:mJ:=⟨fun | 285=>200 | n=>n,fun | 37=>99 | 53=>130 | 3=>3 | 4=>4 | 51=>153 | 9=>9 | 5=>5 | 0=>0 | n=>n,fun | n=>n⟩
theorem Tryz.Hh:Go.Proofs.Lays.n285 ax Tryz.z_:={
 mixed:=by kernel_rfl
 f285:=Tryz.func200.trans (congrArg some (by kernel_rfl))
 t0:=xu
 a0:=Tryz.isAgg0
 z0:=Tryz.sizeOf0
 v0:=Tryz.zeroValue0
 t3:=kD
 a3:=qf
 z3:=ot
 v3:=k_
 t4:=lg
 a4:=Tryz.isAgg4
 z4:=rK
 v4:=nP
 t5:=lf
 a5:=Tryz.isAgg5
 z5:=Tryz.sizeOf5
 v5:=nO
 t9:=gH
 a9:=qd
 z9:=om
 v9:=k6
 t37:=oh
 a37:=Tryz.isAgg99
 z37:=Tryz.sizeOf99
 v37:=Tryz.zeroValue99
 t51:=vk
 a51:=Tryz.isAgg153
 z51:=Tryz.sizeOf153
 v51:=Tryz.zeroValue153
 t53:=Tryz.underlying130
 a53:=Tryz.isAgg130
 z53:=Tryz.sizeOf130
 v53:=Tryz.zeroValue130 }
open Go.RowKit Go.Sort Go.Lib in
theorem Tryz.internal_strconv_formatBase10 (blk off cap:Nat) (u:Nat) (d:Array UInt8) (w:an) (hH:Holds (fun (b:UInt8)=>gG .u8 (b.toNat:Int)) w blk off d) (hu:u<10 ^ d.size) (hu64:u<18446744073709551616) (hsz:d.size<4611686018427387904) :
  bf ax 200 #[.slice (some ⟨blk,off,none⟩) d.size cap,.int .u64 u] w fun e w' =>
   e=.returned (.tuple #[])/\∃ (n v':Nat) (dk:Array UInt8),w'=(putRow (fun (b:UInt8)=>gG .u8 (b.toNat:Int)) w blk off dk).drewN n/\FmtInv d.size u 0 v' dk:=Any.internal_strconv_formatBase10 Tryz.Hh blk off cap u d w hH hu hu64 hsz
end Go.Proofs
namespace Go.Proofs.YtoncclhbdkjhmaaGreatDoor
open Go.RowKit
set_option maxRecDepth 100000
def fQ (r x:Nat):Nat:=r*4294967296+x
def kR (r x:Nat):Int:=((fQ r x:Nat):Int)
theorem yG {r x:Nat} (hr:r<4294967296) (hx:x<4294967296):bits BinOp.or IntKind.u64 ((r:Int)*4294967296) (x:Int)=kR r x:=by
 have h1:(r:Int)*4294967296=((r*4294967296:Nat):Int):=by simp
 rw[h1,u64_or_nat _ _ (by omega) (by omega),nat_join 32 _ _ (by omega) (by omega)];rfl
theorem qN {r x:Nat} (hr:r<4294967296) (hx:x<4294967296):0<=kR r x/\kR r x<18446744073709551616:=by unfold kR fQ;omega
theorem EI {r x d:Nat} (hr:r<d) (hx:x<4294967296):fQ r x / d<4294967296:=by
 apply dB
 unfold fQ;have:(r+1)*4294967296<=d*4294967296:=aU _ hr
 omega
theorem ze {t s:List Nat} {k r d:Nat} (hk:k<t.length) (hl:t.length=s.length) (ht:t.take (k+1)=s.take (k+1)) (hv:val aH (t.drop (k+1))*d+r=val aH (s.drop (k+1))) :
  (t.set k (fQ r (t.getD k 0) / d)).take k=s.take k/\val aH ((t.set k (fQ r (t.getD k 0) / d)).drop k)*d+fQ r (t.getD k 0) % d=val aH (s.drop k):=by
 have hks:k<s.length:=by omega
 have e1:t.getD k 0=s.getD k 0:=by
  have:=congrArg (fun l=>l.getD k 0) ht
  simpa [dz] using this
 refine⟨?_,?_⟩
 ·rw[List.take_set_of_le (ak k)];have:=congrArg (List.take k) ht;rw[List.take_take,List.take_take,cE (by omega)] at this;exact this
 rw[iq (by simpa using hk),List.drop_set_of_lt (by omega),iq hks];simp only[val,List.getElem_set_self];rw[<-hv];have e2:s[k]=s.getD k 0:=by simp[dz,hks]
 rw[e2,<-e1];have h:=Nat.div_add_mod (fQ r (t.getD k 0)) d;have hj:fQ r (t.getD k 0)=r*aH+t.getD k 0:=rfl;generalize fQ r (t.getD k 0) / d=q at *;generalize fQ r (t.getD k 0) % d=m at *;rw[hj] at h
 grind
theorem vg (g:Nat) (pre s post:List Nat) (vs:ay) (d:Nat) (z:Int) (w:an) (hw:Ws w .u32 153 vs g pre s post) (hs:eI aH s) (hz:z=(d:Int)) (DK:0<d) (K9:d<4294967296) :
  bf ax 156 #[vs,.int .u32 z] w fun e w'=>∃ s',e=.returned (.int .u32 ((val aH s % d:Nat):Int))/\Ws w' .u32 153 vs g pre s' post/\w.grownBy w' (some g)/\s'.length=s.length/\eI aH s' /\
   val aH s'=val aH s / d:=by
 subst hz;obtain⟨ao,cap,rfl,h1,h2,h3,h4⟩:=hw;go_enter Tryz.func156,Tryz.ntmps156
 go_wp2
 go_loopw [5,6] (fun c i wr=>∃ (k:Nat) (t:List Nat) (r:Nat),i=.int .i64 ((k:Int) - 1)/\c=.int .u64 (r:Int)/\r<d/\k<=s.length/\w.grownBy wr (some g)/\Hid (t.length=s.length)/\eI 4294967296 t /\
   B3 wr .u32 153 ao g pre t post s.length/\Hid (t.take k=s.take k)/\Hid (val aH (t.drop k)*d+r=val aH (s.drop k)))
  (fun _ i _=>(fH i+1).toNat)
 case atStart=>exact⟨s.length,s,0,rfl,rfl,DK,by omega,aJ _ _,aa rfl,hs,h4,aa rfl,aa (by simp[val])⟩
 case round =>
  obtain⟨k,t,r,rfl,rfl,hr,hk,hg,Ht,qw,hB,HT,HV⟩:=hrel
  by_cases h0:0<k
  ·obtain⟨rfl,qW⟩:=hB (by omega);have mw:k - 1<t.length:=by have:=Ht.out;omega
   have hct:wr.cell? ⟨g,pre.length+(k - 1),none⟩=some (.int .u32 (nth t (k - 1))):=by
    rw[qW.cell (by simp;omega),mq _ _ _ _ mw]
   have hft:=qW.frozen (pre.length+(k - 1));have t1:=qw.getD (by omega) (k - 1);obtain⟨x,hx⟩:∃ x,x=t.getD (k - 1) 0:=⟨_,rfl⟩
   have Ru:nth t (k - 1)=(x:Int):=by rw[hx];rfl
   rw[<-hx] at t1;have xE:=yG (r:=r) (x:=x) (by omega) t1;have RA:=qN (r:=r) (x:=x) (by omega) t1;have Ag:=EI hr t1
   have hq:0<=kR r x / (d:Int)/\kR r x / (d:Int)<4294967296:=by
    have:kR r x / (d:Int)=((fQ r x / d:Nat):Int):=by unfold kR;simp
    rw[this];exact⟨Int.natCast_nonneg _,Int.ofNat_lt.2 Ag⟩
   have HS:=aa (ze (t:=t) (s:=s) (k:=k - 1) (r:=r) (d:=d) mw Ht.out (by rw[show k - 1+1=k by omega];exact HT.out) (by rw[show k - 1+1=k by omega];exact HV.out));rw[<-hx] at HS;have HQ:=aa Ag;have hm0:kR r x % (d:Int)=((fQ r x % d:Nat):Int):=by unfold kR;simp
   have Mr:kR r x / (d:Int)=((fQ r x / d:Nat):Int):=by unfold kR;simp
   have HM:=aa hm0;have HD:=aa Mr;rw[Ru] at hct;clear hB h4 Ag hm0 Mr hx Ru
   go_wp2
   go_roundw
   case rel =>
    refine⟨k - 1,t.set (k - 1) (fQ r x / d),fQ r x % d,by go_num,by rw[<-HM.out],di _ DK,by omega,aI hg _,aa (by rw[cm];exact Ht.out),qw.set HQ.out,fun _=>⟨rfl,?_⟩,aa HS.out.1,aa HS.out.2⟩;rw[<-mo _ _ _ _ _ mw];exact qW.set _ _ _ HD.out
   case measure=>simp[fH];omega
  have sK:k=0:=by omega
  subst sK;have hv:=HV.out;simp only[iV] at hv;have e1:val aH s % d=r:=by rw[<-hv,Nat.mul_add_mod_self_right,iw hr]
  have e2:val aH t=val aH s / d:=by rw[<-hv,Nat.add_comm,Nat.add_mul_div_right _ _ DK,kJ hr,eG]
  have E1:=aa e1;have E2:=aa e2;have ow:Ws wr .u32 153 (.slice ao s.length cap) g pre t post:=⟨ao,cap,by rw[Ht.out],by rw[Ht.out];exact h1,h2,h3,by rw[Ht.out];exact hB⟩
  clear e1 e2 hv h4
  go_wp2
  go_ret
  exact⟨t,by rw[E1.out];rfl,ow,hg,Ht.out,qw,E2.out⟩
theorem Bk {xs:List Nat} (hd:eI aH xs) (h:val aH xs=0):nz xs=0:=by
 have:=e_ (B:=aH) (by decide) hd;rw[h,fe] at this;exact this.symm
theorem xZ {xs:List Nat} (hd:eI aH xs) (h:0<val aH xs):0<nz xs:=by
 rw[<-e_ (B:=aH) (by decide) hd,kY (by decide) h];simp
theorem div_lt (va vb:ay) (xs ys:List Nat) (w:an) (hx:Sl w .u32 va xs) (hy:Sl w .u32 vb ys) (dx:eI aH xs) (dy:eI aH ys) (lx:xs.length<=1000000) (h0:val aH xs<val aH ys) :
  bf ax 111 #[va,vb] w fun e w'=>∃ r,e=.returned (.tuple #[.slice none 0 0,r,.bool true])/\Sl w' .u32 r (fx aH (val aH xs))/\aC w.heap.size w w':=by
 obtain⟨ao,ac,rfl⟩:=bR hx;obtain⟨bo,bc,rfl⟩:=bR hy;have hx':=hx.take (nz xs) (gR xs);have hy':=hy.take (nz ys) (gR ys);have VX:=aa (bZ (B:=aH) (by decide) dx);have VY:=aa (bZ (B:=aH) (by decide) dy);have hp:=xZ dy (by omega);have hz:(((nz ys:Nat):Int)==0)=false:=by simp;omega
 have HC:=aa (show mz (val aH (xs.take (nz xs))) (val aH (ys.take (nz ys))) = -1 by rw[VX.out,VY.out];exact vP h0);have hlen:(xs.take (nz xs)).length<=1000000:=by rw[aW];omega
 go_enter Tryz.func111,Tryz.ntmps111
 go_wp2_with fail
 refine (dA _ _ _ xs _ hx).mono ?_;rintro e w' ⟨rfl,rfl⟩;go_wp2_with fail
 refine (dA _ _ _ ys _ hy).mono ?_;rintro e w' ⟨rfl,rfl⟩;go_wp2_with fail
 refine (rD _ _ _ _ _ hx' hy' (dx.take _) (dy.take _)).mono ?_;rintro e w1 ⟨rfl,dm⟩;rw[HC.out];go_wp2_with fail
 refine (we _ _ w1 (hx'.below dm) (dx.take _) hlen).mono ?_;rintro e w2 ⟨v2,rfl,Cr,cV⟩;go_wp2_with fail
 go_ret3
 refine⟨_,rfl,?_,dm.trans (cV.mono dm.size)⟩;have:=Cr.sl;rw[VX.out] at this;exact this
theorem div_one (va vb:ay) (xs ys:List Nat) (w:an) (hx:Sl w .u32 va xs) (hy:Sl w .u32 vb ys) (dx:eI aH xs) (dy:eI aH ys) (lx:xs.length<=1000000) (h0:val aH ys<=val aH xs) (h1:nz ys=1) :
  bf ax 111 #[va,vb] w fun e w'=>∃ q r,e=.returned (.tuple #[q,r,.bool true])/\Sl w' .u32 q (fx aH (val aH xs / val aH ys))/\Sl w' .u32 r (fx aH (val aH xs % val aH ys))/\aC w.heap.size w w':=by
 obtain⟨ao,ac,rfl⟩:=bR hx;have HY:=aa hy;obtain⟨bo,bc,rfl,b1,b2,b3,b4⟩:=hy;have OY:=gR ys;have nx:=gR xs;have hx':=hx.take (nz xs) (gR xs);have hy':=HY.out.take (nz ys) (gR ys);have VX:=aa (bZ (B:=aH) (by decide) dx);have VY:=aa (bZ (B:=aH) (by decide) dy);have EX:=aa (show (xs.take (nz xs)).length=nz xs by simp;omega);have hz:(((nz ys:Nat):Int)==0)=false:=by rw[h1];rfl
 have jK:(((nz ys:Nat):Int)==1)=true:=by rw[h1];rfl
 have hc:0<=mz (val aH (xs.take (nz xs))) (val aH (ys.take (nz ys))):=by
  rw[VX.out,VY.out];unfold mz;rw[if_neg (by omega)];split<;>omega
 have Rd:val aH ys=ys.getD 0 0:=by
  rw[<-bZ (B:=aH) (by decide) dy,h1,cW aH ys 0];simp[val]
 have hy0:=dy.getD (by decide) 0
 have hpos:0<val aH ys:=by
  rcases bO (val aH ys) with h | h
  ·have:=Bk dy h;omega
  exact h
 obtain⟨b,rfl,hcb⟩:=b4 0 (by omega);rw[show b.add 0=b from by simp[sP]] at hcb;have Qn:=aa Rd;have yh:(0:Int)<((nz ys:Nat):Int):=by omega
 have D0:0<ys.getD 0 0:=by omega
 have Pk:∀ {w1:an},aC w.heap.size w w1->w1.cell? b=some (.int .u32 (nth ys 0)):=fun hb=>by rw[hb.cell (bS hcb)];exact hcb
 clear h1 Rd b4 hcb;go_enter Tryz.func111,Tryz.ntmps111
 go_wp2_with fail
 refine (dA _ _ _ xs _ hx).mono ?_;rintro e w' ⟨rfl,rfl⟩;go_wp2_with fail
 refine (dA _ _ _ ys _ HY.out).mono ?_;rintro e w' ⟨rfl,rfl⟩;go_wp2_with fail
 refine (rD _ _ _ _ _ hx' hy' (dx.take _) (dy.take _)).mono ?_;rintro e w1 ⟨rfl,dm⟩;go_wp2_with fail
 refine (lH ao _ ac _ (nz xs) _ w1 (hx'.below dm) (by rw[EX.out];omega) (by omega) (by omega)).mono ?_;rintro e w2 ⟨v2,rfl,Cr,cV,tN⟩;have Ko:aC w.heap.size w w2:=dm.trans (cV.mono dm.size);have hcell:=Pk Ko;rw[EX.out,Nat.sub_self,tT,iN] at Cr;go_wp2_with fail
 refine (vg w1.heap.size [] _ [] _ (ys.getD 0 0) _ w2 Cr (dx.take _) rfl D0 hy0).mono ?_;rintro e w3 ⟨s',rfl,Cq,Ct,Fa,Di,Dd⟩;rw[VX.out,<-Qn.out] at Dd;obtain⟨m,hm⟩:∃ m,m=val aH xs % val aH ys:=⟨_,rfl⟩
 rw[show val aH (xs.take (nz xs)) % ys.getD 0 0=m by rw[VX.out,<-Qn.out,hm]];have hmb:m<4294967296:=by rw[hm];exact uG (di _ hpos) (by rw[Qn.out];exact hy0)
 have HM:=aa hm;clear hm;have jf:aC w.heap.size w w3:=Ko.trans (fo Ct dm.size Ko.size);have KU:=aa Dd;clear Dd Fa;go_wp2_with fail
 refine (jI _ s' _ Cq.sl Di).mono ?_;rintro e w4 ⟨v4,rfl,EW,rfl⟩;go_wp2_with fail
 refine (Bi m _ w3 rfl (by omega)).mono ?_;rintro e w5 ⟨v5,rfl,K5,uh⟩;have Pv:aC w.heap.size w w5:=jf.trans (uh.mono jf.size);go_wp2_with fail
 go_ret3
 refine⟨_,_,rfl,?_,?_,Pv⟩
 ·rw[KU.out] at EW;exact EW.below uh
 rw[<-HM.out];exact K5
theorem infoByte:(Tryz.prog.info? 5).map (fun i=>(i.zero,i.size,i.bytes))=some (some (.int .u8 0),1,1):=by kernel_rfl
theorem Cn:(Tryz.prog.info? 109).map (·.size)=some 2:=by kernel_rfl
theorem G':liesAt ax Tryz.prog.depth 109 (2 / Tryz.prog.cellsOf 109) 0 109 1=true:=by kernel_rfl
set_option maxRecDepth 100000 in
theorem q6 (b:Nat) (w:an) (h0:w.cell? ⟨b,0,none⟩=some (.pointer (some ⟨b,0,none⟩))) :
  bf ax 150 #[.pointer (some ⟨b,0,none⟩)] w fun e w'=>e=.returned (.tuple #[])/\w=w':=by
 obtain⟨j,hj,_⟩:=Option.map_eq_some_iff.1 Cn;have hne:=Lib.run_neq_ptr_same (P:=ax) w ⟨b,0,none⟩ Tryz.underlying107 hj;go_enter Tryz.func150,Tryz.ntmps150
 go_wp2
 go_end0
 exact⟨rfl,rfl⟩
set_option maxRecDepth 100000 in
theorem qp (b:Nat) (w:an) (h0:w.cell? ⟨b,0,none⟩=some (.pointer none)) (hsh:w.shape? b=some (109,2)) (hfz:w.frozen? ⟨b,0,none⟩=false) :
  bf ax 150 #[.pointer (some ⟨b,0,none⟩)] w fun e w'=>e=.returned (.tuple #[])/\w.setCell ⟨b,0,none⟩ (.pointer (some ⟨b,0,none⟩))=w':=by
 obtain⟨j,hj,qu⟩:=Option.map_eq_some_iff.1 Cn;have h1:=Lib.run_to_unsafe (P:=ax) w ⟨b,0,none⟩ Tryz.underlying107 Tryz.underlying220 hj (by rw[qu];decide) hsh (Nat.zero_lt_succ 1);have h2:=run_callFunc_extern (P:=ax) (w:=w) (args:=#[.pointer (some ⟨b,0,none⟩)]) Tryz.func182 (by kernel_rfl) (by kernel_rfl) (by kernel_rfl) (e:=Extern.AbiNoEscape.same) (by kernel_rfl);have h3:=Lib.run_noEscape (P:=ax) w (.pointer (some ⟨b,0,none⟩));have h4:=Lib.run_from_unsafe (P:=ax) w ⟨b,0,none⟩ Tryz.underlying220 Tryz.underlying107 hj hsh G';go_enter Tryz.func150,Tryz.ntmps150
 go_wp2
 go_end0
 exact⟨rfl,rfl⟩
def sO (B b:Nat) (l:List UInt8) (w:an):Prop:=Lib.IsBuilder 109 5 B b (c_ l) w
theorem sO.at {B b:Nat} {l:List UInt8} {w:an} (h:sO B b l w):∃ p v,w.heap[b]?=some (.cells #[p,v] 109 (0,0))/\w.ownsRow B 5 1 v l.length (c_ l)/\v.ownBlock≠some b/\B<=b/\(p=.pointer none\/p=.pointer (some ⟨b,0,none⟩)):=by
 rcases h with ⟨hB,v,h1,h2,h3⟩ | ⟨hB,v,h1,h2,h3⟩
 ·exact⟨_,v,h1,by simpa [o_] using h2,h3,hB,.inl rfl⟩
 exact⟨_,v,h1,by simpa [o_] using h2,h3,hB,.inr rfl⟩
theorem sO.below {B b:Nat} {l:List UInt8} {w w':an} (h:sO B b l w) (hb:aC w.heap.size w w'):sO B b l w':=by
 have go:∀ p,Lib.BuilderAt 109 5 B b p (c_ l) w->Lib.BuilderAt 109 5 B b p (c_ l) w':=by
  intro p ⟨hB,v,h1,h2,h3⟩;have hlt:=ag h1;exact⟨hB,v,by rw[hb.block b hlt];exact h1,iT h2 ⟨hb.os,hb.tape,hb.output,hb.size,fun j hj _=>hb.block j hj⟩ (by cases hv:v.ownBlock with | none=>exact .inl rfl | some g=>exact .inr (show some g≠none by simp)),h3⟩
 rcases h with h | h
 ·exact .inl (go _ h)
 exact .inr (go _ h)
theorem qG (l m:List UInt8):c_ l++Lib.strCells ⟨m.toArray⟩=c_ (l++m):=by
 simp[c_,Lib.strCells]
set_option maxRecDepth 100000 in
theorem qg (B b:Nat) (l m:List UInt8) (sv:ByteArray) (w:an) (h:sO B b l w) (hs:sv=⟨m.toArray⟩) (hlen:l.length+m.length<=1000000) (hBw:B<=w.heap.size) :
  bf ax 100 #[.pointer (some ⟨b,0,none⟩),.string sv] w fun e w'=>∃ v,e=.returned v/\sO B b (l++m) w'/\aC B w w':=by
 obtain⟨i0,hi,hz0,jK,tN⟩:=oI infoByte;have hsz:sv.size=m.length:=by subst hs;rfl
 obtain⟨p,v,hbk,hown,hne,DL,hp⟩:=h.at;have hlt:=ag hbk
 -- behind copyCheck
 have rest:∀ w1:an,w1.heap[b]?=some (.cells #[.pointer (some ⟨b,0,none⟩),v] 109 (0,0))->w1.ownsRow B 5 1 v l.length (c_ l)->aC B w w1->True:=fun _ _ _ _=>trivial
 clear rest;have HS:=aa hs;have qC:=aa hsz;clear hs;have Tl:sv.size<=m.length:=by omega
 clear hsz
 have cc:bf ax 150 #[.pointer (some ⟨b,0,none⟩)] w fun e w1=>e=.returned (.tuple #[])/\w1.heap[b]?=some (.cells #[.pointer (some ⟨b,0,none⟩),v] 109 (0,0))/\w1.ownsRow B 5 1 v l.length (c_ l)/\aC B w w1:=by
  rcases hp with rfl | rfl
  ·refine (qp b w (by rw[dM w b 0 _ 109 (0,0) hbk];rfl) (by simp[World.shape?,hbk]) (rJ w b 0 _ 109 hbk)).mono ?_;rintro e w1 ⟨rfl,rfl⟩;refine⟨rfl,?_,?_,(av _ _).setCell DL _⟩
   ·rw[aF w b 0 _ 109 _ hbk];rfl
   exact ownsRow_setCell_other hown (by simpa using hne) _
  refine (q6 b w (by rw[dM w b 0 _ 109 (0,0) hbk];rfl)).mono ?_;rintro e w1 ⟨rfl,rfl⟩;exact⟨rfl,hbk,hown,av _ _⟩
 have CC:=aa cc;clear cc hbk hown hp;go_enter Tryz.func100,Tryz.ntmps100
 go_wp2_with fail
 refine CC.out.mono ?_;rintro e w1 ⟨rfl,sj,rT,dm⟩;have c0:w1.cell? ⟨b,0,none⟩=some (.pointer (some ⟨b,0,none⟩)):=by rw[dM w1 b 0 _ 109 (0,0) sj];rfl
 have c1:w1.cell? ⟨b,1,none⟩=some v:=by rw[dM w1 b 1 _ 109 (0,0) sj];rfl
 have HK:=aa sj;clear sj;have Hz:=dm.size;go_wp2_with (at_builtin;refine Lib.wpList_append_own_string _ rfl (.tmp 12) (.tmp 13) 99 9 rfl B 5 i0 oh gH hi hz0 jK tN _ _ _ rfl rT sv rfl ?c3 ?c4 ?c5 ?_)
 case c3=>unfold maxLen;omega
 case c4=>omega
 case c5=>omega
 intro v' w2 hown' hgrow _;have H9:b<w1.heap.size:=ag HK.out
 have cV:w2.heap[b]?=some (.cells #[.pointer (some ⟨b,0,none⟩),v] 109 (0,0)):=by
  rw[hgrow.block b H9 (fun e=>hne e.symm)];exact HK.out
 have d0:w2.cell? ⟨b,0,none⟩=some (.pointer (some ⟨b,0,none⟩)):=by rw[dM w2 b 0 _ 109 (0,0) cV];rfl
 have d1:w2.cell? ⟨b,1,none⟩=some v:=by rw[dM w2 b 1 _ 109 (0,0) cV];rfl
 have f1:w2.frozen? ⟨b,1,none⟩=false:=rJ w2 b 1 _ 109 cV
 obtain⟨ao,n',cap,rfl⟩:∃ ao n' cap,v'=.slice ao n' cap:=by
  rcases hown'.2 with ⟨hv,_⟩ | ⟨g,cap,cur,hv,_⟩
  ·exact⟨_,_,_,hv⟩
  exact⟨_,_,_,hv⟩
 have dZ:=aa cV;clear cV
 go_wp2
 go_ret2
 refine⟨_,rfl,?_,?_⟩
 ·refine .inr ?_;rw[<-qG,<-HS.out];refine Lib.BuilderAt.put (T:=109) (e:=5) DL dZ.out (bs':=c_ l++Lib.strCells sv) ?_ (by decide);rw[fI,o_,Lib.strCells_length];exact hown'
 exact (dm.grown hgrow (by omega) (fun k hk=>(rT.lt k hk).1)).setCell (p:=⟨b,1,none⟩) DL _
theorem Dj (i:Nat) (z:Int) (hz:z=(i:Int)) (h:i<100) (w:an) :
  bf ax 184 #[.int .u64 z,.int .i64 10] w fun e w'=>e=.returned (.string ⟨(bh i).toArray⟩)/\w=w':=by
 subst hz
 have inner:bf ax 197 #[.int .u64 i,.int .i64 10] w fun e w'=>e=.returned (.string ⟨(bh i).toArray⟩)/\w=w':=by
  go_enter Tryz.func197,Tryz.ntmps197
  go_wp2_with fail
  refine (Tryz.internal_strconv_small i h _).mono ?_;rintro e w' ⟨rfl,rfl⟩;go_wp2_with fail
  go_ret
  exact⟨rfl,rfl⟩
 have IN:=aa inner;clear inner;go_enter Tryz.func184,Tryz.ntmps184
 go_wp2_with fail
 refine IN.out.mono ?_;rintro e w' ⟨rfl,rfl⟩;go_wp2_with fail
 go_ret
 exact⟨rfl,rfl⟩
abbrev G9:Nat:=1000000000
theorem Ow.len {w:an} {base:Nat} {k:cN} {T:bu} {v:ay} {xs:List Nat} (h:Ow w base k T v xs):Bm v=xs.length:=by
 obtain⟨ao,cap,rfl⟩:=bR h.sl;rfl
theorem Ow.grown {w w':an} {base:Nat} {k:cN} {T:bu} {v:ay} {xs:List Nat} (h:Ow w base k T v xs) {g:Nat} (hg:w.grownBy w' (some g)) (hb:g<base):Ow w' base k T v xs:=
 iT h hg (by
  cases hv:v.ownBlock with
  | none=>exact .inl rfl
  | some j=>exact .inr (fun e=>by injection e with e;have:=h.CG j hv;omega))
theorem A4 {w:an} {T:bu} {ao:Option cH} {n cap g:Nat} {pre s post:List Nat} (h:Ws w .u32 T (.slice ao n cap) g pre s post) (hd:eI aH s) :
  ∃ post',Ws w .u32 T (lF ao cap s) g pre (fx aH (val aH s)) post':=by
 have e:=pD (B:=aH) (by decide) hd;obtain⟨DO,cap',e1,h1,h2,h3,h4⟩:=h;injection e1 with e1 e2 e3;subst e1;subst e3;have hl:=gR s;have hlen:(s.take (nz s)).length=nz s:=by rw[aW];omega
 refine⟨s.drop (nz s)++post,?_⟩;rw[<-e];unfold lF
 by_cases h0:nz s=0
 ·rw[if_pos h0,h0];exact⟨none,0,rfl,by simp,by omega,fun _=>rfl,fun h=>by simp at h⟩
 rw[if_neg h0];refine⟨ao,cap,by rw[hlen],by rw[hlen];omega,h2,h3,fun _=>?_⟩;obtain⟨a1,a2⟩:=h4 (by omega);refine⟨a1,?_⟩
 have:pre++s.take (nz s)++(s.drop (nz s)++post)=pre++s++post:=by
  rw[<-gl,gl pre,nQ]
 rw[this];exact a2
theorem A_ (v:ay) (g:Nat) (pre s post:List Nat) (w:an) (h:Ws w .u32 153 v g pre s post) (hd:eI aH s) :
  bf ax 138 #[v] w fun e w'=>∃ v' post',e=.returned v'/\Ws w .u32 153 v' g pre (fx aH (val aH s)) post'/\w=w':=by
 obtain⟨ao,cap,rfl⟩:=h.at;refine (uI _ _ _ s _ h.sl).mono fun e w' ⟨he,hw⟩=>?_
 obtain⟨post',h'⟩:=A4 h hd;exact⟨_,post',he,h',hw⟩
theorem Ws.len {w:an} {k:cN} {T:bu} {v:ay} {g:Nat} {pre s post:List Nat} (h:Ws w k T v g pre s post):Bm v=s.length:=by
 obtain⟨ao,cap,rfl⟩:=h.at;rfl
theorem Ws.kept {w w':an} {B:Nat} {k:cN} {T:bu} {v:ay} {g:Nat} {pre s post:List Nat} (h:Ws w k T v g pre s post) (hb:aC B w w') (hg:s.length≠0->g<B):Ws w' k T v g pre s post:=by
 obtain⟨ao,cap,rfl,h1,h2,h3,h4⟩:=h;exact⟨ao,cap,rfl,h1,h2,h3,fun i=>⟨(h4 i).1,(h4 i).2.below hb (hg i)⟩⟩
theorem Ws.Hq {w:an} {k:cN} {T:bu} {v:ay} {g:Nat} {pre s post:List Nat} (h:Ws w k T v g pre s post) (h0:s.length≠0):g<w.heap.size:=by
 obtain⟨ao,cap,rfl,h1,h2,h3,h4⟩:=h;exact (h4 h0).2.lt
theorem Ar {gs:List Nat} {ρ N:Nat} (h0:0<ρ) (h:gs++fx G9 ρ=fx G9 N):(gs++[ρ % G9])++fx G9 (ρ / G9)=fx G9 N:=by
 rw[<-h,kY (B:=G9) (by decide) h0,gl];rfl
theorem tE (va:ay) (xs:List Nat) (w:an) (hx:Sl w .u32 va xs) (dx:eI aH xs) (lx:xs.length<=100000) :
  bf ax 183 #[va] w fun e w'=>∃ v,e=.returned v/\Sl w' .u32 v (fx G9 (val aH xs))/\aC w.heap.size w w':=by
 obtain⟨i0,hi,hz0,jK,tN⟩:=oI ue;obtain⟨ao,ac,rfl⟩:=bR hx;go_enter Tryz.func183,Tryz.ntmps183
 go_wp2_with fail
 refine (we _ xs w hx dx (by omega)).mono ?_;rintro e w1 ⟨v1,rfl,hs1,dm⟩;have Hz:=dm.size;have Hg:Hid ((fx aH (val aH xs)).length≠0->w.heap.size<w1.heap.size):=aa (fun h=>hs1.Hq h)
 have HK:Hid ((fx G9 (val aH xs)).length<=1000000):=aa (aq (fL (B:=G9) (k:=2*xs.length) (by decide) (by
  have h1:=eJ dx;have h2:aH ^ xs.length<=G9 ^ (2*xs.length):=by rw[Nat.pow_mul];exact Nat.pow_le_pow_left (by decide) _
  omega)) (by omega))
 generalize hN:val aH xs=N at *;have HN:=aa hN;clear hN;go_wp2_with fail
 go_loopw [3,4] (fun gv rv wr=>∃ (ρ:Nat) (gs post:List Nat),Ow wr w1.heap.size .u32 153 gv gs/\Ws wr .u32 153 rv w.heap.size [] (fx aH ρ) post/\Hid (gs++fx G9 ρ=fx G9 N)/\eI aH gs/\aC w.heap.size w wr/\w1.heap.size<=wr.heap.size/\Hid ((fx aH ρ).length≠0->w.heap.size<w1.heap.size)) (fun gv _ _=>(fx G9 N).length - Bm gv)
 case atStart=>exact⟨N,[],[],Ow.nil _ _ _ _,hs1,aa rfl,eI.nil _,dm,ak _,Hg⟩
 case round =>
  clear hs1 dm Hg;obtain⟨ρ,gs,post,how,Hu,HG,Dh,hb,hsz,Hg⟩:=hrel;have hlen:=aa Hu.len;obtain⟨ro,rc,rfl⟩:=Hu.at
  by_cases h0:0<ρ
  ·have hpos:0<(fx aH ρ).length:=by rw[kY (by decide) h0];simp
   have Jc:=Hg.out (by omega);have Sw:=aa (Ar h0 HG.out)
   have TR:gs.length<(fx G9 N).length:=by
    have:=congrArg dL HG.out;rw[fI,kY (B:=G9) (by decide) h0] at this
    simp at this;omega
   have hk:=HK.out;have Bx:ρ % G9<1000000000:=di _ (by decide);have HL:=aa how.len;go_wp2_with fail
   refine (vg w.heap.size [] _ post _ G9 _ wr Hu (kB (by decide) _) rfl (by decide) (by decide)).mono ?_;rintro e w3 ⟨s',rfl,Cq,Ct,Fa,Di,Dd⟩;rw[jg (by decide)] at Dd ⊢;have OT:=how.grown Ct Jc;have jf:aC w.heap.size w w3:=hb.trans (fo Ct (ak _) hb.size);have Tk:=Ct.size;have KU:=aa Dd;have Oe:=aa Fa;clear Dd Fa;obtain⟨m,hm⟩:∃ m,m=ρ % G9:=⟨_,rfl⟩
   rw[<-hm];rw[<-hm] at Sw Bx;clear hm;go_wp2_with (at_builtin;refine sQ _ rfl (.tmp 12) (.tmp 15) 23 rfl 153 i0 .u32 Tryz.underlying23 hi hz0 jK ?c1 w1.heap.size _ gs rfl (OT.alloc _) w3.heap.size (m:Int) m rfl ?c2 rfl ?c3 ?c4 ?_)
   case c1=>omega
   case c2=>simp
   case c3=>omega
   case c4=>simp;omega
   intro v' w4 L_ rW;have Kn:aC w1.heap.size w3 w4:=((av _ _).alloc (by omega) _).trans rW;have Ga:=Cq.kept Kn (fun _=>Jc);go_wp2_with fail
   refine (A_ _ _ _ s' _ w4 Ga Di).mono ?_;rintro e w5 ⟨v5,LH,rfl,K5,rfl⟩;rw[KU.out] at K5;go_wp2_with fail
   go_roundw
   case rel=>exact⟨ρ / G9,gs++[m],LH,L_,K5,Sw,Dh.append (by intro x hx;obtain rfl:=List.mem_singleton.1 hx;exact uG Bx (by decide)),jf.trans (Kn.mono (by omega)),aq (by omega) Kn.size,aa (fun _=>Jc)⟩
   case measure =>
    have e1:=HL.out;have e2:=L_.len;rw[fI] at e2
    simp at e2
    simp;omega
  have hr:ρ=0:=by omega
  subst hr;have HE:Hid (gs=fx G9 N):=aa (by have:=HG.out;rwa [fe,iN] at this);have By:(fx aH 0).length=0:=by rw[fe];rfl
  have Sr:=aa By;have Ja:(fx aH 0).length<=0:=by omega
  clear By;go_wp2_with fail
  go_ret
  exact⟨_,rfl,by rw[HN.out,<-HE.out];exact how.sl,hb⟩
def pad:Nat->Nat->List UInt8
 | 0,_=>[]
 | k+1,g=>pad k (g / 10)++[UInt8.ofNat (48+g % 10)]
theorem oD (k:Nat):∀ (q g:Nat),0<q->g<10 ^ k->bh (q*10 ^ k+g)=bh q++pad k g:=by
 induction k with
 | zero=>intro q g hq hg;simp at hg;subst hg;simp[pad]
 | succ k ih =>
  intro q g hq hg
  have hbig:¬ q*10 ^ (k+1)+g<10:=by
   have:1*10 ^ (k+1)<=q*10 ^ (k+1):=aU _ hq;have h2:10<=10 ^ (k+1):=by rw[bY];have:=cT (n:=k) (show 0<10 by omega);omega
   omega
  have e1:(q*10 ^ (k+1)+g) / 10=q*10 ^ k+g / 10:=by
   rw[bY,<-mI,Nat.add_comm,Nat.add_mul_div_right _ _ (by omega),Nat.add_comm]
  have e2:(q*10 ^ (k+1)+g) % 10=g % 10:=by
   rw[bY,<-mI,Nat.add_comm,AP]
  have Mo:g / 10<10 ^ k:=dB (by rw[bY] at hg;omega);rw[bh,dif_neg hbig,e1,e2,ih q (g / 10) hq Mo,gl]
  rfl
theorem vF {q g:Nat} (hq:0<q) (hg:g<G9):bh (g+G9*q)=bh q++(bh (G9+g)).drop 1:=by
 have h1:=oD 9 q g hq hg;have h2:=oD 9 1 g (by decide) hg;have hG:G9=1000000000:=rfl;rw[show q*10 ^ 9+g=g+G9*q by rw[hG];omega] at h1;rw[show 1*10 ^ 9+g=G9+g by rw[hG]] at h2;rw[h1,h2,Lib.decDigits_one (i:=1) (by decide)]
 rfl
theorem He (k g:Nat):(pad k g).length=k:=by
 induction k generalizing g with
 | zero=>rfl
 | succ k ih=>simp[pad,ih]
theorem xH {g:Nat} (hg:g<G9):(bh (G9+g)).length=10:=by
 have h2:=oD 9 1 g (by decide) hg;rw[show 1*10 ^ 9+g=G9+g from rfl] at h2;rw[h2,fI,He,Lib.decDigits_one (i:=1) (by decide)];rfl
theorem oE {n k:Nat} (h:n<10 ^ k) (hk:0<k):(bh n).length<=k:=by
 rw[Lib.decDigits_length];rcases ik n 10 with h1 | h1
 ·rw[Lib.nDigits_small h1];exact hk
 induction k generalizing n with
 | zero=>omega
 | succ k ih =>
  rw[Lib.nDigits_big (by omega)];have h2:n / 10<10 ^ k:=dB (by rw[bY] at h;omega)
  have sK:0<k:=by
   rcases bO k with h0 | h0
   ·subst h0;simp at h2;omega
   exact h0
  rcases ik (n / 10) 10 with h3 | h3
  ·rw[Lib.nDigits_small h3];omega
  have:=ih h2 sK h3;omega
theorem lK {B:Nat} {gs:List Nat} {k:Nat} (hk:k<gs.length):val B (gs.drop k)=gs.getD k 0+B*val B (gs.drop (k+1)):=by
 rw[iq hk]
 simp[val,dz,hk]
theorem Au (l:List UInt8):(⟨l.toArray⟩:ByteArray).extract 1 (⟨l.toArray⟩:ByteArray).size=⟨(l.drop 1).toArray⟩:=by
 apply ByteArray.ext
 simp[ByteArray.size]
 rw[cr (by simp)]
theorem wO {gs:List Nat} (hd:eI G9 gs) (k:Nat) (hl:gs.length<=20000):(bh (val G9 (gs.drop k))).length<=180009:=by
 have h1:=eJ (hd.drop k)
 have h2:G9 ^ (gs.drop k).length<=10 ^ (9*gs.length+9):=by
  rw[show G9=10 ^ 9 from rfl,<-Nat.pow_mul];exact bU (by decide) (by rw[jv];omega)
 have:=oE (aK h1 h2) (by omega)
 omega
theorem zf {gs:List Nat} (hd:eI G9 gs) {k:Nat} (hk:k<gs.length) (hp:0<val G9 (gs.drop (k+1))) :
  bh (val G9 (gs.drop k))=bh (val G9 (gs.drop (k+1)))++(bh (G9+gs.getD k 0)).drop 1/\0<val G9 (gs.drop k):=by
 rw[lK hk];refine⟨vF hp (hd.getD (by decide) k),?_⟩;have:1*1<=G9*val G9 (gs.drop (k+1)):=lj (by decide) hp
 omega
def Jy (w0:an) (P:Nat->Prop):Prop:=
 ∀ (w:an) (i:Nat) (z:Int),aC w0.heap.size w0 w->z=(i:Int)->P i->bf ax 184 #[.int .u64 z,.int .i64 10] w fun e w'=>e=.returned (.string ⟨(bh i).toArray⟩)/\aC w.heap.size w w'
theorem D6 (P:Nat->Prop) (va:ay) (xs:List Nat) (w:an) (fmt:Jy w P) (hx:Sl w .u32 va xs) (dx:eI aH xs) (lx:xs.length<=10000)
  (RS:∀ g,g<G9->(fx G9 (val aH xs)).getD ((fx G9 (val aH xs)).length - 1) 0=g->P g) (RR:2<=(fx G9 (val aH xs)).length->∀ g,g<G9->P (G9+g)) :
  bf ax 151 #[va] w fun e w'=>e=.returned (.string ⟨(bh (val aH xs)).toArray⟩)/\aC w.heap.size w w':=by
 have SB:=aa fmt;clear fmt
 have Vt:Hid ((fx G9 (val aH xs)).length<=20000):=aa (aq (fL (B:=G9) (k:=2*xs.length) (by decide) (by
  have h1:=eJ dx;have h2:aH ^ xs.length<=G9 ^ (2*xs.length):=by rw[Nat.pow_mul];exact Nat.pow_le_pow_left (by decide) _
  omega)) (by omega))
 have DG:=tE va xs w hx dx (by omega);have SE:=aa DG;clear DG;have dg:=kB (B:=G9) (by decide) (val aH xs);have HV:=aa (jg (B:=G9) (by decide) (val aH xs));have Nk:=aa (@AA G9 (val aH xs) (by decide));have N':=aa RS;have Qz:=aa RR;clear RS RR dx;generalize fx G9 (val aH xs)=gs at *;generalize val aH xs=N at *
 by_cases h0:gs.length=0
 ·have HN:Hid (N=0):=aa (by have:=HV.out;rw[fh h0] at this;simpa [val] using this.symm);have hz:(((gs.length:Nat):Int)==0)=true:=by rw[h0];rfl
  have H0:=aa h0;clear h0;go_enter Tryz.func151,Tryz.ntmps151
  go_wp2_with fail
  refine SE.out.mono ?_;rintro e w1 ⟨v1,rfl,hs1,dm⟩;obtain⟨ao,ac,rfl⟩:=bR hs1;go_wp2_with fail
  go_ret
  exact⟨by rw[HN.out,Lib.decDigits_one (i:=0) (by decide)];rfl,dm⟩
 have hz:(((gs.length:Nat):Int)==0)=false:=by rw[beq_eq_false_iff_ne];omega
 have hp:1<=gs.length:=by omega
 clear h0;go_enter Tryz.func151,Tryz.ntmps151
 go_wp2_with fail
 refine SE.out.mono ?_;rintro e w1 ⟨v1,rfl,hs1,dm⟩;have AM:=aa hs1;obtain⟨ao,ac,rfl,a1,a2,a3,a4⟩:=hs1;obtain⟨a,rfl,hca⟩:=a4 (gs.length - 1) (by omega);clear a4;have g1:0<=nth gs (gs.length - 1)/\nth gs (gs.length - 1)<1000000000:=by have:=dg.getD (by decide) (gs.length - 1);have hG:G9=1000000000:=rfl;unfold nth;omega
 have Jc:=Vt.out
 have Pm:(w1.alloc (.cells #[.pointer none,.slice none 0 0] 109)).cell? (a.add (gs.length - 1))=some (.int .u32 (nth gs (gs.length - 1))):=by
  rw[World.cell?_alloc_lt _ _ _ (bS hca)];exact hca
 have MJ:sO w1.heap.size w1.heap.size [] (w1.alloc (.cells #[.pointer none,.slice none 0 0] 109)):=Lib.fresh_isBuilder 109 5 w1;have Pr:aC w1.heap.size w1 (w1.alloc (.cells #[.pointer none,.slice none 0 0] 109)):=(av _ _).alloc (ak _) _;have To:w1.heap.size<(w1.alloc (.cells #[.pointer none,.slice none 0 0] 109)).heap.size:=by simp
 have RF:=dg.getD (by decide) (gs.length - 1);have I9:=Nk.out (by omega)
 have Jg:val G9 (gs.drop (gs.length - 1))=gs.getD (gs.length - 1) 0:=by
  rw[lK (by omega),gP (by omega)];simp[val]
 have Nw:=aa Jg;have xK:=aa I9;clear Jg I9;go_wp2_with fail
 generalize (w1.alloc (.cells #[.pointer none,.slice none 0 0] 109))=W2 at *;have Ii:aC w.heap.size w W2:=dm.trans (Pr.mono dm.size);refine (SB.out W2 (gs.getD (gs.length - 1) 0) _ Ii rfl (N'.out _ RF rfl)).mono ?_;rintro e w3 ⟨rfl,jf⟩;have Mu:=MJ.below jf;have Cq:=jf.size;have Mx:aC w.heap.size w w3:=Ii.trans (jf.mono Ii.size);have My:aC w1.heap.size w1 w3:=Pr.trans (jf.mono (by omega));rw[<-Nw.out];have Ph:=wO dg (gs.length - 1) Jc;have hpos:0<val G9 (gs.drop (gs.length - 1)):=by rw[Nw.out];have:=xK.out;omega
 have IB:=aa hpos;clear hpos;generalize hL:bh (val G9 (gs.drop (gs.length - 1)))=L at *;have HL:=aa hL;clear hL;generalize hS:(⟨L.toArray⟩:ByteArray)=sv at *;have HS:=aa hS;clear hS;go_wp2_with fail
 refine (qg w1.heap.size w1.heap.size [] L sv w3 Mu HS.out.symm (by simp;omega) (by omega)).mono ?_;rintro e w4 ⟨v4,rfl,Kl,rW⟩;rw[List.nil_append] at Kl;have Mv:aC w.heap.size w w4:=Mx.trans (rW.mono dm.size);have Mw:aC w1.heap.size w1 w4:=My.trans rW;have Ga:=rW.size;go_wp2_with fail
 go_loopw [6] (fun i wr=>∃ k:Nat,k<=gs.length - 1/\i=.int .i64 ((k:Int) - 1)/\sO w1.heap.size w1.heap.size (bh (val G9 (gs.drop k))) wr/\Hid (0<val G9 (gs.drop k))/\aC w.heap.size w wr/\aC w1.heap.size w1 wr/\w1.heap.size<wr.heap.size) (fun i _=>(fH i+1).toNat)
 case atStart=>exact⟨gs.length - 1,ak _,by congr 1;omega,by rw[HL.out];exact Kl,IB,Mv,Mw,by omega⟩
 case round =>
  clear Mu Mx My Kl Mv Mw Ga Cq jf rW IB HL HS MJ Pr To Ii Pm Ph;obtain⟨k,hk,rfl,cG,IB,hb,RL,hsz⟩:=hrel
  by_cases h0:0<k
  ·have hc:wr.cell? (a.add (k - 1))=some (.int .u32 (nth gs (k - 1))):=by
    have:=AM.out.at (i:=k - 1) (by omega);rw[RL.cell (bS this)];exact this
   have gk:=dg.getD (by decide) (k - 1);have WB:0<=nth gs (k - 1)/\nth gs (k - 1)<1000000000:=by have hG:G9=1000000000:=rfl;unfold nth;omega
   have HR:=aa (zf dg (k:=k - 1) (by omega) (by rw[show k - 1+1=k by omega];exact IB.out));have hP:=Qz.out (by omega) _ gk;have Hx:=xH gk;have Ph:=wO dg k Jc;have hex:=Au (bh (G9+gs.getD (k - 1) 0));have hsize:(⟨(bh (G9+gs.getD (k - 1) 0)).toArray⟩:ByteArray).size=10:=by simpa [ByteArray.size] using Hx
   have Wn:((bh (G9+gs.getD (k - 1) 0)).drop 1).length=9:=by rw[jv,Hx]
   have U4:=aa Hx;clear Hx;go_wp2_with fail
   refine (SB.out wr (G9+gs.getD (k - 1) 0) _ hb (by unfold nth;simp) hP).mono ?_;rintro e w5 ⟨rfl,uh⟩;have Pq:=cG.below uh;have K5:=uh.size;have Pt:aC w.heap.size w w5:=hb.trans (uh.mono hb.size);have Pu:aC w1.heap.size w1 w5:=RL.trans (uh.mono (by omega));generalize hM:(bh (G9+gs.getD (k - 1) 0)).drop 1=M at *;generalize hS:(⟨(bh (G9+gs.getD (k - 1) 0)).toArray⟩:ByteArray)=sv at *;have VD:=aa hex;have Hz:1<=sv.size/\sv.size<=10:=by omega
   clear hex hS hM hsize;go_wp2_with fail
   refine (qg w1.heap.size w1.heap.size _ M _ w5 Pq VD.out (by omega) (by omega)).mono ?_;rintro e w6 ⟨v6,rfl,Fl,Ps⟩;have J7:=Ps.size;go_wp2_with fail
   go_roundw
   case rel =>
    refine⟨k - 1,by omega,by go_num,?_,aa HR.out.2,Pt.trans (Ps.mono dm.size),Pu.trans Ps,by omega⟩;have h:=HR.out.1;rw[show k - 1+1=k by omega] at h;rw[h];exact Fl
   case measure=>simp[fH];omega
  have sK:k=0:=by omega
  subst sK;have HN:Hid (val G9 (gs.drop 0)=N):=aa (by rw[iV];exact HV.out);go_wp2_with fail
  refine (Tryz.Builder_String_any w1.heap.size w1.heap.size _ wr cG (by omega)).mono ?_;rintro e w7 ⟨rfl,rA⟩;rw[HN.out];go_wp2_with fail
  go_ret
  exact⟨rfl,hb.trans (rA.mono dm.size)⟩
theorem Ba {t ys:List Nat} {S x k c z:Nat} (hy:k<ys.length) (ht:k<t.length) (hv:val aH t+c*aH ^ k=S+x*val aH (ys.take k)) (hz:z=c+(x*ys.getD k 0+t.getD k 0)) :
  val aH (t.set k (z % aH))+(z / aH)*aH ^ (k+1)=S+x*val aH (ys.take (k+1)):=by
 have h1:=kQ aH t k (z % aH) ht;rw[gC aH ys k hy,bY];have h2:=jG z aH;generalize z % aH=r at *;generalize z / aH=q at *;generalize aH ^ k=P at *;have h3:(r+aH*q)*P=(c+(x*ys.getD k 0+t.getD k 0))*P:=by rw[h2,hz]
 grind
theorem oY {x y:Nat} (hx:x<4294967296) (hy:y<4294967296):x*y<=18446744065119617025:=
 aq (lj (show x<=4294967295 by omega) (show y<=4294967295 by omega)) (by decide)
theorem zq (g:Nat) (pre s post ys:List Nat) (vs vb:ay) (x:Nat) (zx:Int) (w:an) (hw:Ws w .u32 153 vs g pre s post) (hb:Sl w .u32 vb ys) (ha:r6 g vb) (hl:ys.length<s.length)
  (hs:eI aH s) (hy:eI aH ys) (OE:zx=(x:Int)) (hx:x<4294967296) (h0:s.getD ys.length 0=0) :
  bf ax 149 #[vs,vb,.int .u32 zx] w fun e w'=>∃ s',e=.returned (.tuple #[])/\Ws w' .u32 153 vs g pre s' post/\w.grownBy w' (some g)/\s'.length=s.length/\eI aH s' /\
   val aH s'=val aH s+x*val aH ys:=by
 subst OE;have H0:=aa h0;clear h0;obtain⟨ao,cap,rfl,h1,h2,h3,h4⟩:=hw;have HB:=aa hb;obtain⟨bo,KJ,rfl,k1,k2,k3,k4⟩:=hb;go_enter Tryz.func149,Tryz.ntmps149
 go_wp2
 go_loopw [6,11] (fun c i wr=>∃ (k:Nat) (t:List Nat) (cc:Nat),i=.int .i64 k/\c=.int .u64 (cc:Int)/\cc<4294967296/\k<=ys.length/\w.grownBy wr (some g)/\Hid (t.length=s.length)/\eI 4294967296 t /\
   B3 wr .u32 153 ao g pre t post s.length/\Hid (t.drop k=s.drop k)/\Hid (val aH t+cc*aH ^ k=val aH s+x*val aH (ys.take k)))
  (fun _ i _=>ys.length - (fH i).toNat)
 case atStart=>exact⟨0,s,0,rfl,rfl,by omega,by omega,aJ _ _,aa rfl,hs,h4,aa rfl,aa (by simp[val])⟩
 case round =>
  obtain⟨k,t,cc,rfl,rfl,tQ,hk,hg,Ht,qw,hB,HD,HV⟩:=hrel
  by_cases hlt:k<ys.length
  ·obtain⟨b,rfl,hcb⟩:=k4 k hlt;obtain⟨rfl,qW⟩:=hB (by omega);have mw:k<t.length:=by have:=Ht.out;omega
   have Ih:=(HB.out.grown hg ha).at hlt
   have hct:wr.cell? ⟨g,pre.length+k,none⟩=some (.int .u32 (nth t k)):=by
    rw[qW.cell (by simp;omega),mq _ _ _ _ mw]
   have hft:=qW.frozen (pre.length+k);have y1:=jA hy k;have t1:=jA qw k;have y0:=hy.getD (by decide) k;have t0:=qw.getD (by decide) k
   have hm:0<=(x:Int)*nth ys k/\(x:Int)*nth ys k<=18446744065119617025:=by
    have:=oY hx y0;have e:(x:Int)*nth ys k=((x*ys.getD k 0:Nat):Int):=by unfold nth;simp
    rw[e];omega
   have HE:=aa (show (cc:Int)+((x:Int)*nth ys k+nth t k)=((cc+(x*ys.getD k 0+t.getD k 0):Nat):Int) by unfold nth;simp);have yQ:cc+(x*ys.getD k 0+t.getD k 0)<18446744073709551616:=by have:=oY hx y0;omega
   have HS:=aa (Ba (x:=x) (ys:=ys) hlt mw HV.out rfl);have HZ:=aa yQ;clear hcb hB h4 k4 y0 t0 yQ
   go_wp2
   go_roundw
   case rel =>
    have hE:=HE.out;have hz:=HZ.out;refine⟨k+1,t.set k ((cc+(x*ys.getD k 0+t.getD k 0)) % aH),(cc+(x*ys.getD k 0+t.getD k 0)) / aH,by go_num,?_,?_,by omega,aI hg _,aa (by rw[cm];exact Ht.out),qw.set (di _ (by decide)),fun _=>⟨rfl,?_⟩,aa ?_,HS⟩
    ·rw[hE];congr 1
    ·exact dB (by omega)
    ·rw[<-mo _ _ _ _ _ mw];exact qW.set _ _ _ (by rw[hE];rfl)
    rw[List.drop_set_of_lt (by omega)];have:=congrArg (List.drop 1) HD.out
    rwa [List.drop_drop,List.drop_drop] at this
   case measure=>simp[fH];omega
  have hkk:k=ys.length:=by omega
  subst hkk;obtain⟨rfl,qW⟩:=hB (by omega);have mw:ys.length<t.length:=by have:=Ht.out;omega
  have hft:=qW.frozen (pre.length+ys.length)
  have hct:wr.cell? ⟨g,pre.length+ys.length,none⟩=some (.int .u32 (nth t ys.length)):=by
   rw[qW.cell (by simp;omega),mq _ _ _ _ mw]
  have Rl:t.getD ys.length 0=0:=by
   have:=congrArg (fun l=>l.getD 0 0) HD.out;simp only[oO,List.getElem?_drop,oJ] at this ⊢;rw[this];have h:=H0.out
   simpa using h
  have Je:val aH (t.set ys.length cc)=val aH s+x*val aH ys:=by
   have h1:=kQ aH t ys.length cc mw;have h2:=HV.out;rw[bD] at h2;rw[Rl] at h1
   omega
  have HF:=aa Je;clear Je Rl hB h4 k4
  go_wp2
  go_end0
  refine⟨t.set ys.length cc,rfl,⟨some ⟨g,pre.length,none⟩,cap,by rw[cm,Ht.out],by rw[cm,Ht.out];exact h1,h2,h3,fun _=>⟨rfl,?_⟩⟩,aI hg _,by rw[cm];exact Ht.out,qw.set tQ,HF.out⟩;rw[<-mo _ _ _ _ _ mw];exact qW.set _ _ _ (by omega)
theorem De {B:Nat} {xs:List Nat} (hB:2<=B) {m:Nat} (h:val B xs<B ^ m) {j:Nat} (hj:m<=j):xs.getD j 0=0:=by
 by_cases hl:j<xs.length
 ·have h1:=jH B xs (j+1) (by omega);have h2:=gC B xs j hl;rw[h2] at h1;have h3:B ^ m<=B ^ j:=bU (by omega) hj;rcases bO (xs.getD j 0) with h0 | h0
  ·exact h0
  have:1*B ^ j<=xs.getD j 0*B ^ j:=aU _ h0
  omega
 exact tB (by omega)
theorem Ey {P s' xs ys:List Nat} {i:Nat} (hi:i<=P.length) (hv:val aH P=val aH (xs.take i)*val aH ys) (hs:val aH s'=val aH (P.drop i)+xs.getD i 0*val aH ys) :
  val aH (P.take i++s')=val aH (xs.take (i+1))*val aH ys:=by
 rw[lE,hs,cW,cL,<-hv,jH aH P i hi,aW,cE hi]
 grind
theorem Ez {P xs ys:List Nat} {i:Nat} (dx:eI aH xs) (dy:eI aH ys) (hi:i<=xs.length) (hv:val aH P=val aH (xs.take i)*val aH ys):(P.drop i).getD ys.length 0=0:=by
 have h1:=eJ (dx.take i);have h2:=eJ dy;rw[aW,cE hi] at h1
 have h3:val aH P<aH ^ (i+ys.length):=by
  rw[hv,jT];exact Nat.mul_lt_mul'' h1 h2
 have:=De (B:=aH) (xs:=P) (by decide) h3 (ak _)
 simpa [dz,List.getElem?_drop] using this
theorem GA {w:an} {T:bu} {g i n:Nat} {P:List Nat} (hB:oH w g .u32 T P) (hi:i<P.length) (hn:n=P.length - i) (hm:P.length<=9223372036854775807) :
  Ws w .u32 T (.slice (some ⟨g,i,none⟩) n n) g (P.take i) (P.drop i) []:=by
 have e1:(P.drop i).length=n:=by simp;omega
 have e2:(P.take i).length=i:=by simp;omega
 refine⟨some ⟨g,i,none⟩,n,by rw[e1],by rw[e1];omega,by omega,(fun e=>by cases e),fun _=>⟨by rw[e2],?_⟩⟩;rw[nQ,iN];exact hB
theorem zI {w:an} {T:bu} {v:ay} {g:Nat} {pre s post:List Nat} (h:Ws w .u32 T v g pre s post) (h0:s.length≠0):oH w g .u32 T (pre++s++post):=by
 obtain⟨_,_,_,_,_,_,h4⟩:=h;exact (h4 h0).2
theorem G6 (va vb:ay) (xs ys:List Nat) (w:an) (hx:Sl w .u32 va xs) (hy:Sl w .u32 vb ys) (dx:eI aH xs) (dy:eI aH ys) (lx:xs.length<=1000000) (ly:ys.length<=1000000) :
  bf ax 99 #[va,vb] w fun e w'=>∃ v,e=.returned v/\Sl w' .u32 v (fx aH (val aH xs*val aH ys))/\aC w.heap.size w w':=by
 obtain⟨i0,hi,hz0,jK,tN⟩:=oI ue;obtain⟨ao,ac,rfl⟩:=bR hx;obtain⟨bo,bc,rfl⟩:=bR hy;have nx:=gR xs;have ny:=gR ys;have hx':=hx.take (nz xs) nx;have hy':=hy.take (nz ys) ny;have zH:=dx.take (nz xs);have Gl:=dy.take (nz ys);have VX:=bZ (B:=aH) (by decide) dx;have VY:=bZ (B:=aH) (by decide) dy;have ex:(xs.take (nz xs)).length=nz xs:=by simp;omega
 have ey:(ys.take (nz ys)).length=nz ys:=by simp;omega
 have DP:=aa hx;have Qq:=aa hy;have AJ:=aa (fun w=>dA ao xs.length ac xs w);have KP:=aa (fun w=>dA bo ys.length bc ys w);clear hx hy;rw[<-VX,<-VY];clear VX VY dx dy;generalize xs.take (nz xs)=X at *;generalize ys.take (nz ys)=Y at *;generalize nz xs=n at *;generalize nz ys=m at *
 have SX:Hid (∀ w1,aC w.heap.size w w1->∀ k,k<n->∃ a,ao=some a/\w1.cell? (a.add k)=some (.int .u32 (nth X k))):=by
  intro w1 hb k hk;obtain⟨DO,cap',e,_,_,_,q⟩:=hx'.below hb;injection e with e1 e2 e3;subst e1;exact q k (by omega)
 have EX:=aa ex;have EY:=aa ey;clear ex ey;go_enter Tryz.func99,Tryz.ntmps99
 go_wp2_with fail
 refine (AJ.out _ DP.out).mono ?_;rintro e w' ⟨rfl,rfl⟩;go_wp2_with fail
 refine (KP.out _ Qq.out).mono ?_;rintro e w' ⟨rfl,rfl⟩;go_wp2_with (at_make;refine iX _ rfl _ _ 24 rfl 153 i0 .u32 lP hi hz0 jK _ _ _ _ (n+m) rfl rfl (by omega) (by omega) (by omega) (by omega) ?_;intro w1 Cv dm hs1)
 go_loopw [20] (fun j wr=>∃ (i:Nat) (P:List Nat),j=.int .i64 i/\i<=n/\oH wr w.heap.size .u32 153 P/\aC w.heap.size w wr/\eI aH P/\Hid (P.length=n+m)/\Hid (val aH P=val aH (X.take i)*val aH Y)) (fun j _=>n - (fH j).toNat)
 case atStart=>exact⟨0,_,rfl,au _,Cv,dm,eI.replicate (by decide) _,aa (by simp),aa (by rw[iP];simp[val])⟩
 case round =>
  clear Cv dm hs1;obtain⟨i,P,rfl,hin,hB,hb,Ie,HL,HV⟩:=hrel
  by_cases hlt:i<n
  ·obtain⟨a,rfl,hca⟩:=SX.out wr hb i hlt;have TP:i<P.length:=by have:=HL.out;omega
   have DF:=jA zH i;have hx0:=zH.getD (by decide) i;have Hu:=GA (n:=n+m - i) hB TP (by rw[HL.out]) (by have:=HL.out;omega);have TQ:=aa (Ez zH Gl (by rw[EX.out];exact hin) HV.out);have hap:r6 w.heap.size (.slice bo m bc):=oS hy' (ak _);have hsize:Hid ((P.drop i).length=n+m - i):=aa (by rw[jv,HL.out]);have NF:=hy'.below hb;go_wp2_with fail
   refine (zq w.heap.size (P.take i) (P.drop i) [] Y _ _ (X.getD i 0) _ wr Hu NF hap (by rw[hsize.out,EY.out];omega) (Ie.drop i) Gl rfl hx0 TQ.out).mono ?_;rintro e w3 ⟨s',rfl,Cq,Ct,Fa,Di,Dd⟩;have jf:aC w.heap.size w w3:=hb.trans (fo Ct (ak _) hb.size);have Lb:=zI Cq (by rw[Fa,hsize.out];omega);rw[iN] at Lb;have KU:=aa (Ey (by omega) HV.out Dd);have Oe:=aa Fa;clear Dd Fa Cq Ct Hu hB;go_wp2_with fail
   go_roundw
   case rel=>exact⟨i+1,P.take i++s',by go_num,by omega,Lb,jf,(Ie.take i).append Di,aa (by rw[fI,Oe.out,hsize.out,aW,HL.out];omega),KU⟩
   case measure=>simp[fH];omega
  have Ib:i=n:=by omega
  subst Ib
  have hv:val aH P=val aH X*val aH Y:=by
   have h:=HV.out
   rwa [cr (by rw[EX.out];omega)] at h
  have Jq:=aa hv;clear hv;have DH:=hB.sl 0 (i+m) (i+m) (by rw[HL.out];omega) (ak _) (by omega);rw[iV,cr (by rw[HL.out];omega)] at DH;go_wp2_with fail
  refine (jI _ P _ DH Ie).mono ?_;rintro e w4 ⟨v4,rfl,EW,rfl⟩;go_wp2_with fail
  go_ret
  refine⟨_,rfl,?_,hb⟩;rw[Jq.out] at EW;exact EW
def GN (w:an) (v:ay) (n k:Nat):Prop:=∃ xs,Sl w .u32 v xs/\eI aH xs/\val aH xs=n/\xs.length<=k
theorem GN.below {w w':an} {v:ay} {n k:Nat} (h:GN w v n k) (hb:aC w.heap.size w w'):GN w' v n k:=by
 obtain⟨xs,h1,h2,h3,h4⟩:=h;exact⟨xs,h1.below hb,h2,h3,h4⟩
theorem GN.lt {w:an} {v:ay} {n k:Nat} (h:GN w v n k):n<aH ^ k:=by
 obtain⟨xs,_,h2,h3,h4⟩:=h;rw[<-h3];exact aK (eJ h2) (bU (by decide) h4)
theorem uj {w:an} {v:ay} {n k:Nat} (h:Sl w .u32 v (fx aH n)) (hn:n<aH ^ k):GN w v n k:=
 ⟨_,h,kB (by decide) _,jg (by decide) _,fL (by decide) hn⟩
theorem wo {m n k1 k2:Nat} (h1:m<aH ^ k1) (h2:n<aH ^ k2):m+n<aH ^ (k1+k2+1):=by
 have a:aH ^ k1<=aH ^ (k1+k2):=bU (by decide) (by omega);have b:aH ^ k2<=aH ^ (k1+k2):=bU (by decide) (by omega);rw[bY];have:aH ^ (k1+k2)*2<=aH ^ (k1+k2)*aH:=eX _ (by decide)
 omega
theorem M0 {va vb:ay} {m n k1 k2:Nat} {w:an} (hx:GN w va m k1) (hy:GN w vb n k2) :
  bf ax 96 #[va,vb] w fun e w'=>e=.returned (.int .i64 (mz m n))/\aC w.heap.size w w':=by
 obtain⟨xs,hx,dx,rfl,lx⟩:=hx;obtain⟨ys,hy,dy,rfl,ly⟩:=hy;exact rD _ _ _ _ w hx hy dx dy
theorem LJ (n:Nat) (z:Int) (w:an) (hz:z=(n:Int)) (hn:n<18446744073709551616) :
  bf ax 91 #[.int .u64 z] w fun e w'=>∃ v,e=.returned v/\GN w' v n 2/\aC w.heap.size w w':=
 (Bi n z w hz hn).mono fun _ _ ⟨v,he,hs,hb⟩=>⟨v,he,uj hs (by
  have h:aH ^ 2=18446744073709551616:=by decide
  omega),hb⟩
def bl (n:Nat):Nat:=(fx 2 n).length
theorem vQ:bl 0=0:=by unfold bl;rw[fe];rfl
theorem zk {n:Nat} (h:0<n):bl n=1+bl (n / 2):=by unfold bl;rw[kY (by decide) h];simp;omega
theorem yx (n:Nat) (h:n<2 ^ 64):Lib.bitLen n=bl n:=by
 induction n using r7 with
 | ind n ih =>
  by_cases h0:n=0
  ·subst h0;rw[vQ];decide
  rw[Lib.bitLen_half n h0 h,zk (by omega),ih (n / 2) (by omega) (by omega)]
theorem KG (k:Nat):∀ v t:Nat,v<2 ^ k->0<t->bl (v+t*2 ^ k)=k+bl t:=by
 induction k with
 | zero=>intro v t hv ht;simp at hv;subst hv;simp
 | succ k ih =>
  intro v t hv ht;have hp:0<2 ^ (k+1):=cT (by decide);have hpos:0<v+t*2 ^ (k+1):=by have:=Nat.mul_pos ht hp;omega
  rw[zk hpos];have e:(v+t*2 ^ (k+1)) / 2=v / 2+t*2 ^ k:=by rw[bY,<-mI];omega
  rw[e,ih (v / 2) t (by rw[bY] at hv;omega) ht]
  omega
theorem Jo {n k:Nat} (h:n<2 ^ k):bl n<=k:=fL (by decide) h
theorem bits_nat (va:ay) (xs:List Nat) (w:an) (hx:Sl w .u32 va xs) (dx:eI aH xs) (lx:xs.length<=1000000) :
  bf ax 105 #[va] w fun e w'=>e=.returned (.int .i64 ((bl (val aH xs):Nat):Int))/\w=w':=by
 have HX:=aa hx;obtain⟨ao,ac,rfl,a1,a2,a3,a4⟩:=hx;have nx:=gR xs
 by_cases h0:nz xs=0
 ·have hv:val aH xs=0:=by rw[<-bZ (B:=aH) (by decide) dx,h0];rfl
  have HV:=aa hv;have hz:(((nz xs:Nat):Int)==0)=true:=by rw[h0];rfl
  clear h0 hv a4;go_enter Tryz.func105,Tryz.ntmps105
  go_wp2_with fail
  refine (dA _ _ _ xs _ HX.out).mono ?_;rintro e w' ⟨rfl,rfl⟩;go_wp2_with fail
  go_ret
  exact⟨by rw[HV.out,vQ];rfl,rfl⟩
 have hz:(((nz xs:Nat):Int)==0)=false:=by rw[beq_eq_false_iff_ne];omega
 have hp:1<=nz xs:=by omega
 obtain⟨a,rfl,hca⟩:=a4 (nz xs - 1) (by omega);have t1:=dx.getD (by decide) (nz xs - 1);have t2:=jA dx (nz xs - 1);have hl:bl (xs.getD (nz xs - 1) 0)<=32:=Jo t1
 have cG:Lib.bitLen (nth xs (nz xs - 1)).toNat=bl (xs.getD (nz xs - 1) 0):=by
  unfold nth;rw[Int.toNat_natCast];exact yx _ (uG t1 (by decide))
 have OO:0<xs.getD (nz xs - 1) 0:=by
  rcases bO (xs.getD (nz xs - 1) 0) with h | h
  ·have h3:=yK (xs:=xs.take (nz xs)) (k:=nz xs - 1) (by rw[aW];omega) (by simpa [dz,show nz xs - 1<nz xs by omega] using h);have h5:(fx aH (val aH xs)).length=nz xs:=e_ (by decide) dx;have h6:=pD (B:=aH) (by decide) (kB (B:=aH) (by decide) (val aH xs));rw[jg (by decide)] at h6;have h7:=congrArg dL h6;rw[aW,h5,pX (by decide) dx] at h7
   have h8:nz ((xs.take (nz xs)).take (nz xs - 1+1))=nz (xs.take (nz xs)):=by
    rw[show nz xs - 1+1=nz xs by omega,List.take_take,Nat.min_self]
   have h9:=gR ((xs.take (nz xs)).take (nz xs - 1));rw[aW,aW] at h9
   omega
  exact h
 have ow:bl (val aH xs)=(nz xs - 1)*32+bl (xs.getD (nz xs - 1) 0):=by
  have e:=bZ (B:=aH) (by decide) dx;have e2:=cW aH xs (nz xs - 1);rw[show nz xs - 1+1=nz xs by omega] at e2;have e3:aH ^ (nz xs - 1)=2 ^ ((nz xs - 1)*32):=by rw[fk,Nat.pow_mul]
  have e4:=eJ (dx.take (nz xs - 1));rw[aW,cE (by omega),e3] at e4;rw[<-e,e2,e3,KG _ _ _ e4 OO]
 generalize bl (xs.getD (nz xs - 1) 0)=b at *;have HF:=aa ow;have HB:=aa cG;clear h0 a4 cG ow;go_enter Tryz.func105,Tryz.ntmps105
 go_wp2_with fail
 refine (dA _ _ _ xs _ HX.out).mono ?_;rintro e w' ⟨rfl,rfl⟩;go_wp2_with fail
 refine (Tryz.bits_Len32 _ _ (by omega) (by omega)).mono ?_;rintro e w' ⟨rfl,rfl⟩;rw[HB.out];go_wp2_with fail
 go_ret
 refine⟨?_,rfl⟩;rw[HF.out,show (((nz xs - 1)*32+b:Nat):Int)=(((nz xs:Nat):Int) - 1)*32+(b:Int) by omega]
 rfl
theorem BY {va:ay} {n k:Nat} {w:an} (hx:GN w va n k) (hk:k<=1000000) :
  bf ax 105 #[va] w fun e w'=>e=.returned (.int .i64 ((bl n:Nat):Int))/\w=w':=by
 obtain⟨xs,hx,dx,rfl,lx⟩:=hx;exact bits_nat _ _ w hx dx (by omega)
theorem A8 (B:Nat) (P:List Nat) (k d:Nat) (h:k<P.length):val B (P.set k (P.getD k 0+d))=val B P+d*B ^ k:=by
 have:=kQ B P k (P.getD k 0+d) h;rw[cL] at this
 omega
theorem dJ (P:List Nat) (i v t:Nat):(P.set i v).getD t 0=if t=i/\i<P.length then v else P.getD t 0:=by
 by_cases h:t=i
 ·subst h
  by_cases hl:t<P.length
  ·simp[dz,hl]
  simp[dz,hl]
 rw[oO,List.getElem?_set_ne (fun e=>h e.symm),<-oO,if_neg (by simp[h])]
def jS (w w':an):Prop:=∀ a k z,w.cell? a=some (.int k z)->w'.cell? a=some (.int k z)
theorem jS.refl (w:an):jS w w:=fun _ _ _ h=>h
theorem jS.trans {a b c:an} (h:jS a b) (k:jS b c):jS a c:=fun p i z hc=>k p i z (h p i z hc)
theorem Below.keeps {w w':an} (h:aC w.heap.size w w'):jS w w':=fun a k z hc=>by
 rw[h.cell (bW w a hc)];exact hc
theorem jS.set {w w':an} (h:jS w w') {p:cH} {u:ay} (hc:w'.cell? p=some u) (hu:∀ k z,u ≠ .int k z) (x:ay):jS w (w'.setCell p x):=fun a k z h0=>by
 have h1:=h a k z h0;rw[World.cell?_setCell_other w' p a x (fun e=>by rw[<-e,hc] at h1;injection h1 with h1;exact hu _ _ h1)];exact h1
def wz (c:Array ay):Bool:=c.toList.all fun v=>match v with | .int ..=>false | _=>true
theorem wv {c:Array ay} (h:wz c=true) {i:Nat} {v:ay} (hv:c[i]?=some v):∀ k z,v ≠ .int k z:=by
 rintro k z rfl;have:=List.all_eq_true.1 h (.int k z) (Array.mem_toList_iff.2 (Array.mem_of_getElem? hv))
 cases this
structure qy (g:Nat) (w w':an):Prop where
 os:w'.os=w.os
 tape:w'.tape=w.tape
 output:w'.output=w.output
 size:w'.heap.size=w.heap.size
 block:∀ k,k≠g->w'.heap[k]?=w.heap[k]?
 keeps:jS w w'
 shape:∀ c T,w.heap[g]?=some (.cells c T (0,0))->wz c=true->∃ c',w'.heap[g]?=some (.cells c' T (0,0))/\c'.size=c.size/\wz c'=true
theorem qy.refl (g:Nat) (w:an):qy g w w:=⟨rfl,rfl,rfl,rfl,fun _ _=>rfl,jS.refl w,fun c _ h hn=>⟨c,h,rfl,hn⟩⟩
theorem qy.set {g:Nat} {w w':an} (h:qy g w w') {c:Array ay} {T:bu} (hB:w'.heap[g]?=some (.cells c T (0,0))) (hn:wz c=true) {i:Nat} (hi:i<c.size) {v:ay} (hv:∀ k z,v ≠ .int k z):qy g w (w'.setCell ⟨g,i,none⟩ v):=by
 have hc:w'.cell? ⟨g,i,none⟩=some c[i]:=by rw[dM w' g i _ T (0,0) hB];exact bj hi
 refine⟨h.os,h.tape,h.output,by rw[<-h.size];simp[World.setCell],fun k hk=>?_,h.keeps.set hc (wv hn (bj hi)) v,fun c0 T0 h0 NM=>?_⟩
 ·rw[Below.heap_setCell _ _ _ _ (by simpa using hk)];exact h.block k hk
 obtain⟨c',h1,h2,h3⟩:=h.shape c0 T0 h0 NM;rw[hB] at h1;injection h1 with h1;injection h1 with h1 h4 h5;subst h1;subst h4;refine⟨c.setIfInBounds i v,by rw[aF w' g i _ T v hB],by simpa using h2,?_⟩;unfold wz at *;rw[cQ] at *;intro q hq;rw[Array.mem_toList_iff] at hq;rcases Array.mem_or_eq_of_mem_setIfInBounds hq with hq | rfl
 ·exact h3 q (Array.mem_toList_iff.2 hq)
 cases q<;>first | rfl | exact absurd rfl (hv _ _)
theorem ae {w:an} {g:Nat} {c:Array ay} {T:bu} (h:w.heap[g]?=some (.cells c T (0,0))) (i:Nat) {v:ay} (hv:c[i]?=some v):w.cell? ⟨g,i,none⟩=some v:=by
 rw[dM w g i _ T (0,0) h];exact hv
theorem af {w:an} {g:Nat} {c:Array ay} {T:bu} (h:w.heap[g]?=some (.cells c T (0,0))) (i:Nat):w.frozen? ⟨g,i,none⟩=false:=rJ w g i _ T h
theorem qm {w:an} {g:Nat} {T:bu} {a b:ay} (h:w.heap[g]?=some (.cells #[a,b] T (0,0))) (x y:ay) :
  ((w.setCell ⟨g,0,none⟩ x).setCell ⟨g,1,none⟩ y).heap[g]?=some (.cells #[x,y] T (0,0)):=by
 rw[aF _ g 1 _ T y (aF w g 0 _ T x h)];rfl
theorem qh {w:an} {g:Nat} {T:bu} {a b:ay} (h:w.heap[g]?=some (.cells #[a,b] T (0,0))) (hn:wz #[a,b]=true) {x y:ay} (hx:wz #[x,y]=true) :
  qy g w ((w.setCell ⟨g,0,none⟩ x).setCell ⟨g,1,none⟩ y):=by
 have h1:=aF w g 0 _ T x h;have p1:qy g w (w.setCell ⟨g,0,none⟩ x):=(qy.refl g w).set h hn (i:=0) (by simp) (wv hx (i:=0) rfl);obtain⟨c,q1,-,q2⟩:=p1.shape _ _ h hn;rw[h1] at q1;injection q1 with q1;injection q1 with q1;subst q1;exact p1.set h1 q2 (i:=1) (by simp) (wv hx (i:=1) rfl)
theorem cy (W:an) (o:Obj) (g:Nat) (h:W.heap.size=g):(W.alloc o).heap[g]?=some o:=by
 subst h
 show (W.heap.push o)[W.heap.size]?=some o
 simp
theorem bQ {W:an} {g:Nat} {ob:Obj} (h:W.heap[g]?=some ob) (o:Obj):(W.alloc o).heap[g]?=some ob:=by
 rw[Below.heap_alloc W o g (Array.getElem?_eq_some_iff.1 h).1];exact h
theorem gO {w w':an} (h:jS w.drew w'):jS w w':=h
namespace aO
abbrev Fact:=(Nat->ay)->ay->an->Prop
def mask (L:List Nat) (x:Nat->ay):Nat->ay:=fun j=>if L.contains j then x j else undef
theorem ai {L:List Nat} {x:Nat->ay} {j:Nat} (h:L.contains j=true):mask L x j=x j:=by
 unfold mask;rw[if_pos h]
def r8 (x:Nat->ay) (k:Nat) (v:ay):Nat->ay:=fun j=>if j=k then v else x j
theorem jy (x:Nat->ay) (k:Nat) (v:ay):r8 x k v k=v:=if_pos rfl
theorem jz (x:Nat->ay) {k j:Nat} (v:ay) (h:j≠k):r8 x k v j=x j:=if_neg h
theorem qM {L:List Nat} {x:Nat->ay} {k:Nat} (v:ay) (h:L.contains k=false):mask L (r8 x k v)=mask L x:=by
 funext j
 unfold mask
 by_cases hj:L.contains j=true
 ·rw[if_pos hj,if_pos hj,jz];intro e;subst e;rw[h] at hj;cases hj
 rw[if_neg hj,if_neg hj]
def cS (ops:List fg) (j:Nat):Option Tmp:=(ops[j]?).bind (·.dst)
def dep (D:List (List Nat)) (k:Nat):List Nat:=D.getD k []
def ok (ops:List fg) (D:List (List Nat)) (m size:Nat):Bool:=
 decide (m<=ops.length) && (gQ ops.length).all fun k =>
  match ops[k]? with
  | none=>false
  | some o =>
   (o.after.all fun e=>!Region.binds .any e || decide (e.on<k)) &&
   ((dep D k).all fun j=>(o.after.any fun e=>Region.binds .any e && (e.on==j || (dep D e.on).contains j)) && ((dep D j).all fun i=>(dep D k).contains i) && decide (j<k)) &&
   (decide (k<m) || (gQ m).all fun j=>(dep D k).contains j) &&
   (match o.dst with | none=>true | some d=>decide (d<size) && (gQ k).all fun j=>cS ops j != some d)
def vp (ops:List fg) (D:List (List Nat)) (al:List Nat) (st:List (Nat × Nat)) (nq:Nat):Bool:=
 (gQ ops.length).all fun k=>match st.lookup k with
  | none=>true
  | some i=>(if i<1000 then (dep D k).contains i && al.contains i else decide (i - 1000<nq)) && (gQ ops.length).all fun j=>j==k || st.lookup j != some i
def pre (ops:List fg) (D:List (List Nat)) (k t:Nat):Bool:=
 (gQ ops.length).all fun j=>cS ops j != some t || j==k || (dep D j).contains k
def fill:List fg->(Nat->ay)->Nat->Array ay->Array ay
 | [],_,_,t=>t
 | o::l,x,k,t=>fill l x (k+1) (match o.dst with | some d=>t.setIfInBounds d (x k) | none=>t)
theorem fill_eq:∀ (l:List fg) (x:Nat->ay) (k:Nat) (t T:Array ay),T.size=t.size ->
  (∀ j d,cS l j=some d->T[d]?=some (x (k+j)))->(∀ s,(∀ j,cS l j≠some s)->T[s]?=t[s]?)->fill l x k t=T
 | [],x,k,t,T,hs,_,hp=>by
  refine Array.ext_getElem? (fun i=>?_);rw[hp i (fun j=>by simp[cS])]
  rfl
 | o::l,x,k,t,T,hs,hd,hp=>by
  have hd':∀ j d,cS l j=some d->T[d]?=some (x (k+1+j)):=fun j d h=>by
   rw[hd (j+1) d (by simpa [cS] using h),Nat.add_right_comm,Nat.add_assoc]
  unfold fill
  cases ho:o.dst with
  | none =>
   refine fill_eq l x (k+1) t T hs hd' (fun s h=>hp s (fun j=>?_))
   cases j with
   | zero=>simp[cS,ho]
   | succ j=>simpa [cS] using h j
  | some d =>
   have h0:T[d]?=some (x k):=hd 0 d (by simp[cS,ho]);have hlt:d<t.size:=by rw[<-hs];exact (Array.getElem?_eq_some_iff.1 h0).1
   refine fill_eq l x (k+1) _ T (by simpa using hs) hd' (fun s h=>?_)
   by_cases e:d=s
   ·subst e;rw[h0]
    simp[hlt]
   rw[fX e];refine hp s (fun j=>?_)
   cases j with
   | zero=>simp[cS,ho,e]
   | succ j=>simpa [cS] using h j
def IX:Exit->Act->an->Prop:=fun _ _ _=>False
def fact (F:List Fact) (j:Nat):Fact:=(F.reverse[j]?).getD fun _ _ _=>True
section
variable (P:rL) (ops:List fg) (D:List (List Nat)) (al:List Nat) (st:List (Nat × Nat)) (og:Nat->Nat) (nq:Nat) (t0:Array ay) (ds:List Deferred) (w0:an)
def own (k:Nat):Option Nat:=st.lookup k
def tv (x:Nat->ay) (i:Nat):ay:=if i<1000 then x i else .pointer (some ⟨og (i - 1000),0,none⟩)
structure At (F:Nat->Fact) (k:Nat) (T:Array ay) (x:Nat->ay) (w:an):Prop where
 be:∀ B,B<=w0.heap.size->(∀ q,q<nq->B<=og q)->aC B w0 w
 bl:∀ b,b<w0.heap.size->(∀ q,q<nq->og q≠b)->w.heap[b]?=w0.heap[b]?
 kp:jS w0 w
 od:∀ q,q<nq->(∀ k',own st k'=some (1000+q)->k'=k\/(dep D k').contains k=true)->w.heap[og q]?=w0.heap[og q]?
 tm:∀ j d,(dep D k).contains j=true->cS ops j=some d->T[d]?=some (x j)
 fa:∀ j,(dep D k).contains j=true->F j (mask (dep D j) x) (x j) w
 pre:∀ t,aO.pre ops D k t=true->T[t]?=t0[t]?
structure Next (V:Fact) (k:Nat) (x:Nat->ay) (w:an) (v:ay) (w':an):Prop where
 is:V x v w'
 bw:own st k=none->aC w.heap.size w w'
 pv:∀ i,own st k=some i->∃ g,tv og x i=.pointer (some ⟨g,0,none⟩)/\qy g w w'
 al:al.contains k=true->∃ g,v=.pointer (some ⟨g,0,none⟩)/\w.heap.size<=g/\g<w'.heap.size
def zu (F:Nat->Fact) (k:Nat) (o:fg) (V:Fact):Prop:=
 ∀ (T:Array ay) (x:Nat->ay) (w:an),At ops D st og nq t0 w0 F k T x w ->
  ∀ K:Act->an->Prop,Hid (∀ v w',Next al st og V k x w v w'->K ((⟨T,ds⟩:Act).put o.dst v) w') ->
   if iJ o (yielded ops.toArray T)=true then o.wp P ⟨T,ds⟩ w K IX else K ((⟨T,ds⟩:Act).put o.dst undef) w
def q7 (k:Nat) (V:Fact):Prop:=(∀ x v w w',V x v w->aC w.heap.size w w'->V x v w')/\(st ≠ []->∀ x v w w' g,V x v w->(∀ i,own st k=some i->tv og x i ≠ .pointer (some ⟨g,0,none⟩))->qy g w w'->V x v w')
def Left (F:Nat->Fact) (m:Nat) (x:Nat->ay) (w:an):Prop:=
 ((∀ B,B<=w0.heap.size->(∀ q,q<nq->B<=og q)->aC B w0 w)/\(∀ b,b<w0.heap.size->(∀ q,q<nq->og q≠b)->w.heap[b]?=w0.heap[b]?)/\jS w0 w)/\(∀ j,j<m->F j (mask (dep D j) x) (x j) w) /\
 (∀ i,al.contains i=true->i<m->∃ g,x i=.pointer (some ⟨g,0,none⟩)/\w0.heap.size<=g/\g<w.heap.size) /\
 (∀ i j,al.contains i=true->al.contains j=true->i<m->j<m->i≠j->x i≠x j)
def az (m:Nat) (G:(Nat->ay)->an->Prop):List fg->Nat->List Fact->Prop
 | [],k,F=>k=m/\∀ x w,Left D al og nq w0 (fact F) m x w->G x w
 | o::rest,k,F=>(k=m/\∀ x w,Left D al og nq w0 (fact F) m x w->G x w) \/
  ∃ V,q7 st og k V/\zu P ops D al st og nq t0 ds w0 (fact F) k o V/\az m G rest (k+1) (V::F)
variable {P ops D al st og nq t0 ds w0}
theorem az.done {m:Nat} {G:(Nat->ay)->an->Prop} {l:List fg} {F:List Fact} (h:∀ x w,Left D al og nq w0 (fact F) m x w->G x w):az P ops D al st og nq t0 ds w0 m G l m F:=by
 cases l with
 | nil=>exact⟨rfl,h⟩
 | cons o l=>exact Or.inl ⟨rfl,h⟩
theorem az.step {m k:Nat} {G:(Nat->ay)->an->Prop} {o:fg} {l:List fg} {F:List Fact} (V:Fact) (hs:q7 st og k V) (hr:zu P ops D al st og nq t0 ds w0 (fact F) k o V)
  (h:az P ops D al st og nq t0 ds w0 m G l (k+1) (V::F)):az P ops D al st og nq t0 ds w0 m G (o::l) k F:=Or.inr ⟨V,hs,hr,h⟩
def plain (al:List Nat) (st:List (Nat × Nat)) (k:Nat):Bool:=!al.contains k && (own st k).isNone
theorem Next.plain {V:Fact} {k:Nat} {x:Nat->ay} {w:an} {v:ay} {w':an} (hp:plain al st k=true) (h:V x v w') (hb:aC w.heap.size w w'):Next al st og V k x w v w':=by
 unfold aO.plain at hp;simp only[cR,Bool.not_eq_true',Option.isNone_iff_eq_none] at hp;exact⟨h,fun _=>hb,fun i hi=>(by rw[hp.2] at hi;cases hi),fun e=>(by rw[hp.1] at e;cases e)⟩
theorem az.bT {m k:Nat} {G:(Nat->ay)->an->Prop} {o:fg} {l:List fg} {F:List Fact} (f:(Nat->ay)->ay) (hp:plain al st k=true)
  (hr:∀ (T:Array ay) (x:Nat->ay) (w:an),At ops D st og nq t0 w0 (fact F) k T x w->iJ o (yielded ops.toArray T)=true/\(execOp (Act.eval ⟨T,ds⟩) o).run P w=.ok (.value (f x)) w)
  (h:az P ops D al st og nq t0 ds w0 m G l (k+1) ((fun x v _=>v=f x)::F)):az P ops D al st og nq t0 ds w0 m G (o::l) k F:=by
 refine az.step (fun x v _=>v=f x) ⟨fun _ _ _ _ e _=>e,fun _ _ _ _ _ _ e _ _=>e⟩ (fun T x w hA K hK=>?_) h;obtain⟨hw,he⟩:=hr T x w hA;rw[if_pos hw];unfold Oper.wp;rw[he];exact hK.out _ _ (Next.plain hp rfl (av _ _))
theorem az.call {m k:Nat} {G:(Nat->ay)->an->Prop} {o:fg} {l:List fg} {F:List Fact} (V:Fact) (hs:∀ x v w w',V x v w->aC w.heap.size w w'->V x v w') (Cr:∀ x v w w' g,V x v w->qy g w w'->V x v w') (hp:plain al st k=true)
  (hr:∀ (T:Array ay) (x:Nat->ay) (w:an),At ops D st og nq t0 w0 (fact F) k T x w->iJ o (yielded ops.toArray T)=true /\
   ∀ K:Act->an->Prop,Hid (∀ v w',V x v w'->aC w.heap.size w w'->K ((⟨T,ds⟩:Act).put o.dst v) w')->o.wp P ⟨T,ds⟩ w K IX)
  (h:az P ops D al st og nq t0 ds w0 m G l (k+1) (V::F)):az P ops D al st og nq t0 ds w0 m G (o::l) k F:=by
 refine az.step V ⟨hs,fun _ x v w w' g h _ hp=>Cr x v w w' g h hp⟩ (fun T x w hA K hK=>?_) h;obtain⟨hw,he⟩:=hr T x w hA;rw[if_pos hw];exact he K fun v w' hv hb=>hK.out v w' (Next.plain hp hv hb)
theorem jJ {st:List (Nat × Nat)} {i k:Nat} (h:(st.all fun p=>p.2 != i || p.1==k)=true):∀ k',own st k'=some i->k'=k:=by
 intro k' hk;unfold own at hk;rw[cQ] at h
 have:∀ (l:List (Nat × Nat)),(∀ p ∈ l,(p.2 != i || p.1==k)=true)->l.lookup k'=some i->k'=k:=by
  intro l
  induction l with
  | nil=>intro _ h;cases h
  | cons p l ih =>
   intro hp hl;obtain⟨a,b⟩:=p;rw[List.lookup_cons] at hl
   split at hl
   ·rename_i he
    injection hl with hl;have h1:=hp (a,b) (List.mem_cons_self ..);simp only[eO,bne_iff_ne,ne_eq,beq_iff_eq] at h1;rw[beq_iff_eq] at he;rcases h1 with h1 | h1
    ·exact absurd hl h1
    exact he.trans h1
   exact ih (fun p hp'=>hp p (List.mem_cons_of_mem _ hp')) hl
 exact this st h hk
theorem az.iY {m k:Nat} {G:(Nat->ay)->an->Prop} {o:fg} {l:List fg} {F:List Fact} (q j:Nat) (T:bu) (ho:own st k=some (1000+q)) (hal:al.contains k=false) (hq:q<nq)
  (hone:∀ k',own st k'=some (1000+q)->k'=k)
  (hr:∀ (Ts:Array ay) (x:Nat->ay) (w:an),At ops D st og nq t0 w0 (fact F) k Ts x w->w.heap[og q]?=w0.heap[og q]? -> iJ o (yielded ops.toArray Ts)=true /\
   ∀ K:Act->an->Prop,Hid (∀ w' c',x j=.agg c'->w'.heap[og q]?=some (.cells c' T (0,0))->qy (og q) w w'->K ((⟨Ts,ds⟩:Act).put o.dst undef) w')->o.wp P ⟨Ts,ds⟩ w K IX)
  (h:az P ops D al st og nq t0 ds w0 m G l (k+1) ((fun x _ w=>∃ c,x j=.agg c/\w.heap[og q]?=some (.cells c T (0,0)))::F)):az P ops D al st og nq t0 ds w0 m G (o::l) k F:=by
 have I1:∀ x,tv og x (1000+q)=.pointer (some ⟨og q,0,none⟩):=fun x=>by unfold tv;rw[if_neg (by omega),Nat.add_sub_cancel_left]
 refine az.step _ ⟨fun x v w w' hv hb=>?_,fun _ x v w w' g' hv hne hp=>?_⟩ (fun Ts x w hA K hK=>?_) h
 ·obtain⟨c,h2,hg⟩:=hv;exact⟨c,h2,by rw[hb.block _ (Array.getElem?_eq_some_iff.1 hg).1];exact hg⟩
 ·obtain⟨c,h2,hg⟩:=hv;refine⟨c,h2,?_⟩;rw[hp.block _ (fun e=>hne _ ho (by rw[I1,e]))];exact hg
 obtain⟨hw,he⟩:=hr Ts x w hA (hA.od q hq fun k' hk'=>Or.inl (hone k' hk'));rw[if_pos hw];exact he K fun w' c' hj hB hP=>hK.out _ _ ⟨⟨c',hj,hB⟩,fun e=>(by rw[ho] at e;cases e),fun i' hi'=>(by rw[ho] at hi';injection hi' with e;subst e;exact⟨_,I1 x,hP⟩),fun e=>(by rw[hal] at e;cases e)⟩
theorem cF {o:fg} {T:Array ay} {g d:Nat} {want b:Bool} (hg:o.guard=some (g,want)) (hd:cS ops g=some d) (hT:T[d]?=some (.bool b)):iJ o (yielded ops.toArray T)=(b==want):=by
 have hy:yielded ops.toArray T g=some b:=by
  have hd':(ops.toArray[g]?).bind (·.dst)=some d:=by simpa [cS] using hd
  unfold yielded;rw[hd'];simp only[Option.bind_some,hT]
 unfold iJ;rw[hg];simp only[hy]
 cases b<;>cases want<;>rfl
theorem tC {V:Fact} {F:List Fact} {j:Nat} (h:j<F.length):fact (V::F) j=fact F j:=by
 unfold fact;rw[mD,iK (by simpa using h)]
theorem wM {V:Fact} {F:List Fact}:fact (V::F) F.length=V:=by
 unfold fact;rw[mD,iz (by simp)]
 simp
theorem At.congr {F F':Nat->Fact} {k:Nat} {T:Array ay} {x:Nat->ay} {w:an} (h:At ops D st og nq t0 w0 F k T x w) (e:∀ j,(dep D k).contains j=true->F j=F' j):At ops D st og nq t0 w0 F' k T x w:=
 ⟨h.be,h.bl,h.kp,h.od,h.tm,fun j hj=>by rw[<-e j hj];exact h.fa j hj,h.pre⟩
theorem az.all {m:Nat} {G:(Nat->ay)->an->Prop} (hlt:∀ k j,k<m->(dep D k).contains j=true->j<k):∀ (l:List fg) (k:Nat) (F:List Fact),F.length=k->k<=m->(∀ j,l[j]?=ops[k+j]?) ->
  az P ops D al st og nq t0 ds w0 m G l k F->∃ H:Nat->Fact,(∀ j,j<k->H j=fact F j) /\
   (∀ j,k<=j->j<m->q7 st og j (H j)/\∃ o,ops[j]?=some o/\zu P ops D al st og nq t0 ds w0 H j o (H j))/\∀ x w,Left D al og nq w0 H m x w->G x w:=by
 intro l
 induction l with
 | nil=>intro k F hF hk hl h;exact⟨fact F,fun _ _=>rfl,fun j h1 h2=>by have:=h.1;omega,h.2⟩
 | cons o l ih =>
  intro k F hF hk hl h;rcases h with ⟨rfl,h⟩ | ⟨V,hs,hr,h⟩
  ·exact⟨fact F,fun _ _=>rfl,fun j h1 h2=>by omega,h⟩
  by_cases hkm:k<m
  ·obtain⟨H,h1,h2,h3⟩:=ih (k+1) (V::F) (by simp[hF]) hkm (fun j=>by have:=hl (j+1);simp at this;rw[this,Nat.add_right_comm,Nat.add_assoc]) h;refine⟨H,fun j hj=>by rw[h1 j (by omega),tC (by omega)],fun j hj yZ=>?_,h3⟩;rcases ik k j with Kg | Kg
   ·exact h2 j Kg yZ
   obtain rfl:j=k:=by omega
   have hH:H j=V:=by rw[h1 j (by omega),<-hF,wM]
   refine⟨by rw[hH];exact hs,o,by have:=hl 0;simpa using this.symm,?_⟩;rw[hH];intro T x w hA;exact hr T x w (hA.congr (fun i hi=>by have:=hlt j i hkm hi;rw[h1 i (by omega),tC (by omega)]))
  obtain rfl:k=m:=by omega
  have By:∀ (l:List fg) (k':Nat) (F:List Fact),k<k'->¬ az P ops D al st og nq t0 ds w0 k G l k' F:=by
   intro l
   induction l with
   | nil=>intro k' F hk' h;have:=h.1;omega
   | cons o l ih=>intro k' F hk' h;rcases h with ⟨e,_⟩ | ⟨_,_,_,h⟩;(omega);exact ih _ _ (by omega) h
  exact absurd h (By _ _ _ (by omega))
theorem Oper.A5 {o:fg} {a:Act} {w:an} {K:Act->an->Prop} {Q:Exit->Act->an->Prop} (h:o.wp P a w K IX):o.wp P a w K Q:=by
 unfold Oper.wp at *;generalize (execOp a.eval o).run P w=r at *
 cases r with
 | ok n w' =>
  cases n<;>simp only[Oper.upon] at h ⊢ <;>
   first
    | exact h
    | exact Calls.mono h (fun e w'' he=>by
      cases e with
      | returned v=>exact he
      | panicked c=>exact False.elim he
      | outgrown=>obtain⟨_,_,hh⟩:=he;exact False.elim hh)
 | halt x w'=>cases x<;>simp only[Oper.upon] at h ⊢<;>exact False.elim h
structure Inv (H:Nat->Fact) (m:Nat) (listed:Array Bool) (a:Act) (w:an) (x:Nat->ay):Prop where
 tm:∀ j d,listed.getD j false=true->cS ops j=some d->a.tmps[d]?=some (x j)
 pre:∀ t,(∀ j,listed.getD j false=true->cS ops j≠some t)->a.tmps[t]?=t0[t]?
 sz:a.tmps.size=t0.size
 df:a.defers=ds
 be:∀ B,B<=w0.heap.size->(∀ q,q<nq->B<=og q)->aC B w0 w
 bl:∀ b,b<w0.heap.size->(∀ q,q<nq->og q≠b)->w.heap[b]?=w0.heap[b]?
 kp:jS w0 w
 od:∀ q,q<nq->(∀ k',listed.getD k' false=true->own st k'≠some (1000+q))->w.heap[og q]?=w0.heap[og q]?
 sw:w0.heap.size<=w.heap.size
 ls:listed.size=ops.length
 dn:∀ j,listed.getD j false=true->∀ i,(dep D j).contains i=true->listed.getD i false=true
 lt:∀ j,listed.getD j false=true->j<m
 fa:∀ j,listed.getD j false=true->H j (mask (dep D j) x) (x j) w
 pt:∀ i,al.contains i=true->listed.getD i false=true->∃ g,x i=.pointer (some ⟨g,0,none⟩)/\w0.heap.size<=g/\g<w.heap.size
 ne:∀ i j,al.contains i=true->al.contains j=true->listed.getD i false=true->listed.getD j false=true->i≠j->x i≠x j
section
variable {m size:Nat} (hok:ok ops D m size=true)
include hok
theorem qK:m<=ops.length:=by
 unfold ok at hok;simp only[cR,decide_eq_true_eq] at hok;exact hok.1
theorem mO {k:Nat} {o:fg} (ho:ops[k]?=some o) :
  (∀ e ∈ o.after,Region.binds .any e=true->e.on<k) /\
  (∀ j,(dep D k).contains j=true->(∃ e ∈ o.after,Region.binds .any e=true/\(e.on=j\/(dep D e.on).contains j=true))/\(∀ i,(dep D j).contains i=true->(dep D k).contains i=true)/\j<k) /\
  (k<m\/∀ j,j<m->(dep D k).contains j=true) /\
  (∀ d,o.dst=some d->d<size/\∀ j,j<k->cS ops j≠some d):=by
 unfold ok at hok;simp only[cR,decide_eq_true_eq,cQ,kO] at hok;have h:=hok.2 k (List.getElem?_eq_some_iff.1 ho).1;rw[ho] at h;simp only[cR,eO,Bool.not_eq_true',decide_eq_true_eq,cQ,kO,Array.all_eq_true_iff_forall_mem] at h;obtain⟨⟨⟨h1,h2⟩,h3⟩,h4⟩:=h;refine⟨fun e he hb=>(h1 e he).resolve_left (by rw[hb];exact Bool.noConfusion),fun j hj=>?_,h3,fun d hd=>?_⟩
 ·obtain⟨⟨h5,h6⟩,h7⟩:=h2 j (by simpa using hj);obtain⟨e,he,hb⟩:=Array.any_eq_true'.1 h5;simp only[cR,eO,beq_iff_eq] at hb;exact⟨⟨e,he,hb.1,hb.2⟩,fun i hi=>h6 i (by simpa using hi),h7⟩
 rw[hd] at h4;simp only[cR,decide_eq_true_eq,cQ,kO,bne_iff_ne,ne_eq] at h4;exact h4
theorem Et {k j:Nat} (h:(dep D k).contains j=true) (hk:k<ops.length):j<k:=((mO hok (d_ hk)).2.1 j h).2.2
end
theorem s9 (h:vp ops D al st nq=true) {k:Nat} (hk:k<ops.length):∀ i,own st k=some i->(i<1000->(dep D k).contains i=true/\al.contains i=true)/\(¬ i<1000->i - 1000<nq)/\∀ j,j<ops.length->j≠k->own st j≠some i:=by
 intro i hi;unfold vp at h;rw[cQ] at h;have h1:=h k (List.mem_range.2 hk);unfold own at hi;rw[hi] at h1;simp only[cR,cQ,kO,eO,beq_iff_eq,bne_iff_ne,ne_eq] at h1;refine⟨fun h2=>?_,fun h2=>?_,fun j hj AV=>(h1.2 j hj).resolve_left AV⟩
 ·have h3:=h1.1;rw[if_pos h2] at h3
  simpa using h3
 have h3:=h1.1;rw[if_neg h2] at h3
 simpa using h3
theorem sX {L:List Nat} {x:Nat->ay} {i:Nat} (h:i<1000->L.contains i=true):tv og (mask L x) i=tv og x i:=by
 unfold tv
 split
 ·rename_i hi;exact ai (h hi)
 rfl
theorem dJ {l:Array Bool} {i j:Nat} (h:i<l.size):(l.setIfInBounds i true).getD j false=(decide (j=i) || l.getD j false):=by
 by_cases e:i=j
 ·subst e;simp[h]
 rw[getD_set_ne false e]
 simp[show ¬ j=i from fun x=>e x.symm]
theorem oa {l:List Bool} {i:Nat} (h:l[i]?=some false):(l.set i true).count false+1=l.count false:=by
 obtain⟨hi,hv⟩:=List.getElem?_eq_some_iff.1 h;rw[List.count_set hi,hv];have:0<l.count false:=List.count_pos_iff.2 (hv ▸ cI hi)
 simp
 omega
section
variable {m:Nat} {Q:Exit->Act->an->Prop} {H:Nat->Fact}
theorem Inv.step (hok:ok ops D m t0.size=true) (si:vp ops D al st nq=true) (fK:∀ q,q<nq->og q<w0.heap.size) (xF:∀ q q',q<nq->q'<nq->q≠q'->og q≠og q') (hst:∀ j,j<m->q7 st og j (H j)) {listed:Array Bool} {a:Act} {w:an} {x:Nat->ay} (I:Inv (ops:=ops) (D:=D) (al:=al) (st:=st) (og:=og) (nq:=nq) (t0:=t0) (ds:=ds) (w0:=w0) H m listed a w x)
  {k:Nat} {o:fg} (ho:ops[k]?=some o) (hkm:k<m) (hun:listed.getD k false=false) (iR:∀ j,(dep D k).contains j=true->listed.getD j false=true) {v:ay} {w':an}
  (hN:Next al st og (H k) k (mask (dep D k) x) w v w'):Inv (ops:=ops) (D:=D) (al:=al) (st:=st) (og:=og) (nq:=nq) (t0:=t0) (ds:=ds) (w0:=w0) H m (listed.setIfInBounds k true) (a.put o.dst v) w' (r8 x k v):=by
 have eR:k<ops.length:=(List.getElem?_eq_some_iff.1 ho).1;have hks:k<listed.size:=by rw[I.ls];exact eR
 obtain⟨c1,c2,c3,c4⟩:=mO hok ho;have Fj:cS ops k=o.dst:=by simp[cS,ho]
 have hsp:=s9 si eR
 -- where operation k stores
 have DI:∀ i,own st k=some i->∃ g,tv og x i=.pointer (some ⟨g,0,none⟩)/\qy g w w'/\((i<1000/\w0.heap.size<=g)\/(¬ i<1000/\i - 1000<nq/\g=og (i - 1000))):=by
  intro i jX;obtain⟨g,hg,hp⟩:=hN.pv i jX;obtain⟨h1,h2,h3⟩:=hsp i jX;rw[sX (fun h=>(h1 h).1)] at hg;refine⟨g,hg,hp,?_⟩
  by_cases hi:i<1000
  ·obtain⟨g',e,h4,h5⟩:=I.pt i (h1 hi).2 (iR i (h1 hi).1);unfold tv at hg;rw[if_pos hi] at hg;rw[hg] at e;injection e with e;injection e with e;injection e with e;subst e;exact Or.inl ⟨hi,h4⟩
  unfold tv at hg;rw[if_neg hi] at hg;injection hg with e;injection e with e;injection e with e;exact Or.inr ⟨hi,h2 hi,e.symm⟩
 have ki:w.heap.size<=w'.heap.size:=by
  cases jX:own st k with
  | none=>exact (hN.bw jX).size
  | some i=>obtain⟨g,hg,hp,_⟩:=DI i jX;rw[hp.size];exact ak _
 have ei:∀ B,B<=w0.heap.size->(∀ q,q<nq->B<=og q)->aC B w0 w':=fun B hB hq=>by
  refine (I.be B hB hq).trans ?_
  cases jX:own st k with
  | none=>exact (hN.bw jX).mono (by have:=I.sw;omega)
  | some i =>
   obtain⟨g,hg,hp,hc⟩:=DI i jX;refine⟨hp.os,hp.tape,hp.output,ki,fun q L8=>hp.block q ?_⟩;rcases hc with ⟨_,hc⟩ | ⟨_,h1,hc⟩
   ·omega
   have:=hq _ h1;omega
 have cG:∀ b,b<w0.heap.size->(∀ q,q<nq->og q≠b)->w'.heap[b]?=w0.heap[b]?:=fun b hb hq=>by
  rw[<-I.bl b hb hq]
  cases jX:own st k with
  | none=>exact (hN.bw jX).block b (by have:=I.sw;omega)
  | some i =>
   obtain⟨g,hg,hp,hc⟩:=DI i jX;refine hp.block b ?_;rcases hc with ⟨_,hc⟩ | ⟨_,h1,hc⟩
   ·omega
   rw[hc];exact fun e=>hq _ h1 e.symm
 have hkp:jS w0 w':=by
  refine I.kp.trans ?_
  cases jX:own st k with
  | none=>exact Below.keeps (hN.bw jX)
  | some i=>obtain⟨g,hg,hp,_⟩:=DI i jX;exact hp.keeps
 have hne:∀ j,listed.getD j false=true->j≠k:=fun j hj e=>by subst e;rw[hun] at hj;cases hj
 have qO:∀ j,(listed.setIfInBounds k true).getD j false=true->j=k\/listed.getD j false=true:=fun j hj=>by
  rw[dJ hks] at hj;simpa using hj
 have hput:(a.put o.dst v).tmps=match o.dst with | some d=>a.tmps.setIfInBounds d v | none=>a.tmps:=by cases o.dst<;>rfl
 have E4:(dep D k).contains k=false:=by
  cases h:(dep D k).contains k with
  | false=>rfl
  | true=>have:=(c2 k h).2.2;omega
 -- two operations write two slots
 have hds:∀ j d,cS ops j=some d->o.dst=some d->j=k:=fun j d h1 h2=>by
  rcases Nat.lt_trichotomy j k with h | h | h
  ·exact absurd h1 ((c4 d h2).2 j h)
  ·exact h
  cases hoj:ops[j]? with
  | none=>simp[cS,hoj] at h1
  | some oj=>exact absurd (Fj.trans h2) (((mO hok hoj).2.2.2 d (by simpa [cS,hoj] using h1)).2 k h)
 refine⟨fun j d hj hd=>?_,fun t ht=>?_,?_,?_,ei,cG,hkp,fun q hq hl=>?_,aq I.sw ki,by simpa using I.ls,fun j hj i hi=>?_,fun j hj=>?_,fun j hj=>?_,fun i hi hl=>?_,fun i j hi hj H_ O1 hij=>?_⟩
 ·rw[hput];rcases qO j hj with rfl | hj'
  ·rw[Fj] at hd;rw[hd,jy];have:=(c4 d hd).1;rw[<-I.sz] at this
   simp[this]
  rw[jz _ _ (hne j hj')]
  cases xF:o.dst with
  | none=>exact I.tm j d hj' hd
  | some e =>
   by_cases hde:e=d
   ·subst hde;exact absurd (hds j e hd xF) (hne j hj')
   simp only[];rw[fX hde];exact I.tm j d hj' hd
 ·rw[hput];have h1:a.tmps[t]?=t0[t]?:=I.pre t fun j hj=>ht j (by rw[dJ hks];simp only[hj,mE])
  cases xF:o.dst with
  | none=>exact h1
  | some e =>
   have:=ht k (by rw[dJ hks];simp);rw[Fj,xF] at this;simp only[];rw[fX (fun h=>this (by rw[h]))];exact h1
 ·rw[hput,<-I.sz];cases o.dst<;>simp
 ·rw[<-I.df];cases o.dst<;>rfl
 ·rw[<-I.od q hq fun k' hk'=>hl k' (by rw[dJ hks];simp only[hk',mE])];have hlt:=fK q hq
  cases jX:own st k with
  | none=>exact (hN.bw jX).block _ (by have:=I.sw;omega)
  | some i =>
   obtain⟨g,hg,hp,hc⟩:=DI i jX;refine hp.block _ ?_;rcases hc with ⟨_,hc⟩ | ⟨hi,h1,hc⟩
   ·omega
   rw[hc];refine xF q _ hq h1 (fun e=>hl k (by rw[dJ hks];simp) ?_);rw[jX,e];congr 1;omega
 ·rw[dJ hks];rcases qO j hj with rfl | hj'
  ·simp only[iR i hi,mE]
  simp only[I.dn j hj' i hi,mE]
 ·rcases qO j hj with rfl | hj'
  ·exact hkm
  exact I.lt j hj'
 ·rcases qO j hj with rfl | hj'
  ·rw[qM _ E4,jy];exact hN.is
  rw[jz _ _ (hne j hj'),qM]
  ·cases jX:own st k with
   | none=>exact (hst j (I.lt j hj')).1 _ _ _ _ (I.fa j hj') (hN.bw jX)
   | some i =>
    obtain⟨g,hg,hp,hc⟩:=DI i jX;obtain⟨h1,h2,h3⟩:=hsp i jX;refine (hst j (I.lt j hj')).2 (fun e=>by subst e;cases jX) _ _ _ _ g (I.fa j hj') (fun i' hi'=>?_) hp;have y7:j<ops.length:=by have:=I.lt j hj';have:=qK hok;omega
    obtain⟨h4,h5,h6⟩:=s9 si y7 i' hi';have Ib:i'≠i:=fun e=>by subst e;exact h3 j y7 (hne j hj') hi'
    rw[sX (fun h=>(h4 h).1)]
    by_cases rM:i'<1000
    ·obtain⟨g',e',q1,q2⟩:=I.pt i' (h4 rM).2 (I.dn j hj' i' (h4 rM).1);have ht:tv og x i'=x i':=if_pos rM;rw[ht];rcases hc with ⟨vB,hc⟩ | ⟨vB,hq2,hc⟩
     ·have Hy:tv og x i=x i:=if_pos vB;rw[Hy] at hg;exact fun e=>I.ne i' i (h4 rM).2 (h1 vB).2 (I.dn j hj' i' (h4 rM).1) (iR i (h1 vB).1) Ib (e.trans hg.symm)
     intro e;rw[e'] at e;injection e with e;injection e with e;injection e with e;have:=fK _ hq2;omega
    have ht:tv og x i'=.pointer (some ⟨og (i' - 1000),0,none⟩):=if_neg rM;rw[ht];intro e;injection e with e;injection e with e;injection e with e;have hl':=fK _ (h5 rM);rcases hc with ⟨vB,hc⟩ | ⟨vB,hq2,hc⟩
    ·omega
    exact xF _ _ (h5 rM) hq2 (by omega) (e.trans hc)
  cases h:(dep D j).contains k with
  | false=>rfl
  | true=>have:=I.dn j hj' k h;rw[hun] at this;cases this
 ·rcases qO i hl with rfl | hl'
  ·obtain⟨g,h1,h2,h3⟩:=hN.al hi;exact⟨g,by rw[jy];exact h1,by have:=I.sw;omega,h3⟩
  obtain⟨g,h1,h2,h3⟩:=I.pt i hi hl';exact⟨g,by rw[jz _ _ (hne i hl')];exact h1,h2,by omega⟩
 rcases qO i H_ with rfl | yW<;>rcases qO j O1 with rfl | yV
 ·exact absurd rfl hij
 ·obtain⟨g,h1,h2,h3⟩:=hN.al hi;obtain⟨g',Gh,Jj,NX⟩:=I.pt j hj yV;rw[jy,jz _ _ (hne j yV),h1,Gh];intro e;injection e with e;injection e with e;injection e with e;omega
 ·obtain⟨g,h1,h2,h3⟩:=hN.al hj;obtain⟨g',Gh,Jj,NX⟩:=I.pt i hi yW;rw[jy,jz _ _ (hne i yW),h1,Gh];intro e;injection e with e;injection e with e;injection e with e;omega
 rw[jz _ _ (hne i yW),jz _ _ (hne j yV)];exact I.ne i j hi hj yW yV hij
def Rest (P:rL) (ops:List fg) (Q:Exit->Act->an->Prop) (t0:Array ay) (ds:List Deferred) (m:Nat) (x:Nat->ay) (w:an):Prop:=
 wpAny P .any ops.toArray Q (ops.length - m) (bA m true++bA (ops.length - m) false).toArray ⟨fill (ops.take m) x 0 t0,ds⟩ w
theorem m_ {m j:Nat} (h:j<m):cS (ops.take m) j=cS ops j:=by
 unfold cS;rw[List.getElem?_take_of_lt h]
theorem oC {m j:Nat} (h:m<=j):cS (ops.take m) j=none:=by
 unfold cS;rw[List.getElem?_eq_none (by simp;omega)];rfl
theorem finish (hml:m<=ops.length) {listed:Array Bool} {a:Act} {w:an} {x:Nat->ay}
  (I:Inv (ops:=ops) (D:=D) (al:=al) (st:=st) (og:=og) (nq:=nq) (t0:=t0) (ds:=ds) (w0:=w0) H m listed a w x) (hall:∀ j,j<m->listed.getD j false=true)
  (hG:∀ x w,Left D al og nq w0 H m x w->Rest P ops Q t0 ds m x w):wpAny P .any ops.toArray Q (listed.toList.count false) listed a w:=by
 have h:=hG x w ⟨⟨I.be,I.bl,I.kp⟩,fun j hj=>I.fa j (hall j hj),fun i hi AW=>I.pt i hi (hall i AW),fun i j hi hj AW yZ hij=>I.ne i j hi hj (hall i AW) (hall j yZ) hij⟩
 have hl:listed=(bA m true++bA (ops.length - m) false).toArray:=by
  apply Array.ext
  ·rw[I.ls];simp;omega
  intro i h1 h2;rw[I.ls] at h1
  by_cases hi:i<m
  ·have:=hall i hi;rw[aQ,bj (by rw[I.ls];exact h1)] at this;simp only[mC] at this;rw[this]
   simp[List.getElem_append_left,hi]
  have h3:listed.getD i false=false:=by
   cases h:listed.getD i false with
   | false=>rfl
   | true=>exact absurd (I.lt i h) hi
  rw[aQ,bj (by rw[I.ls];exact h1)] at h3;simp only[mC] at h3;rw[h3]
  simp[List.getElem_append,hi]
 have ha:a=⟨fill (ops.take m) x 0 t0,ds⟩:=by
  have e:fill (ops.take m) x 0 t0=a.tmps:=by
   refine fill_eq _ x 0 t0 a.tmps I.sz (fun j d hd=>?_) (fun t ht=>?_)
   ·rcases ik j m with hj | hj
    ·rw[m_ hj] at hd;rw[eG];exact I.tm j d (hall j hj) hd
    rw[oC hj] at hd;cases hd
   refine I.pre t fun j hj=>?_
   have:=ht j
   rwa [m_ (I.lt j hj)] at this
  rw[e,<-I.df]
 have hc:listed.toList.count false=ops.length - m:=by rw[hl];simp[List.count_replicate]
 rw[hc,hl,ha];exact h
theorem main (hok:ok ops D m t0.size=true) (si:vp ops D al st nq=true) (fK:∀ q,q<nq->og q<w0.heap.size) (xF:∀ q q',q<nq->q'<nq->q≠q'->og q≠og q') (hst:∀ j,j<m->q7 st og j (H j)) (hrun:∀ j,j<m->∃ o,ops[j]?=some o/\zu P ops D al st og nq t0 ds w0 H j o (H j))
  (hG:∀ x w,Left D al og nq w0 H m x w->Rest P ops Q t0 ds m x w) :
  ∀ (fuel:Nat) (listed:Array Bool) (a:Act) (w:an) (x:Nat->ay),listed.toList.count false=fuel->Inv (ops:=ops) (D:=D) (al:=al) (st:=st) (og:=og) (nq:=nq) (t0:=t0) (ds:=ds) (w0:=w0) H m listed a w x->wpAny P .any ops.toArray Q fuel listed a w:=by
 have hml:=qK hok;intro fuel
 induction fuel with
 | zero =>
  intro listed a w x hc I;rw[<-hc];refine finish hml I (fun j hj=>?_) hG;rw[aQ,bj (by rw[I.ls];omega)];simp only[mC];have h0:=List.count_eq_zero.1 hc
  cases h:listed[j]'(by rw[I.ls];omega) with
  | true=>rfl
  | false=>exact absurd (by rw[<-h];simp) h0
 | succ fuel ih =>
  intro listed a w x hc I
  by_cases hall:∀ j,j<m->listed.getD j false=true
  ·rw[<-hc];exact finish hml I hall hG
  -- what may come up is one of the first m
  have Bw:∀ i,i ∈ Region.ready .any ops.toArray listed->listed.getD i false=false/\∃ o,ops[i]?=some o/\(∀ j,(dep D i).contains j=true->listed.getD j false=true)/\i<m:=by
   intro i hi;obtain⟨h1,o,ho,h2⟩:=mem_ready.1 hi;have jX:ops[i]?=some o:=by simpa using ho
   have hlt:i<ops.length:=(List.getElem?_eq_some_iff.1 jX).1;obtain⟨c1,c2,c3,c4⟩:=mO hok jX
   have hd:∀ j,(dep D i).contains j=true->listed.getD j false=true:=fun j hj=>by
    obtain⟨⟨e,he,hb,h3⟩,_⟩:=c2 j hj;rcases h3 with rfl | h3
    ·exact h2 e he hb
    exact I.dn _ (h2 e he hb) j h3
   refine⟨?_,o,jX,hd,c3.resolve_right fun h=>hall fun j hj=>hd j (h j hj)⟩;rw[aQ,bj (by rw[I.ls];exact hlt)] at h1 ⊢;exact h1
  refine⟨fun hr=>?_,fun i hi=>?_⟩
  ·-- the least that has not come up may come up
   exfalso
   have hex:∃ j,listed.getD j false=false/\j<m:=by
    refine Classical.byContradiction fun h=>hall fun j hj=>?_
    cases h2:listed.getD j false with
    | true=>rfl
    | false=>exact absurd ⟨j,h2,hj⟩ h
   have hmin:∃ j,(listed.getD j false=false/\j<m)/\∀ i,i<j->listed.getD i false=true:=by
    obtain⟨j,h1,h2⟩:=hex
    induction j using r7 with
    | ind j ihj =>
     by_cases yU:∃ i,i<j/\listed.getD i false=false
     ·obtain⟨i,h3,h4⟩:=yU;exact ihj i h3 h4 (by omega)
     refine⟨j,⟨h1,h2⟩,fun i hi=>?_⟩
     cases h5:listed.getD i false with
     | true=>rfl
     | false=>exact absurd ⟨i,hi,h5⟩ yU
   obtain⟨j,⟨h1,h2⟩,h3⟩:=hmin;have Mg:ops[j]?=some (ops[j]'(by omega)):=d_ (by omega)
   have:j ∈ Region.ready .any ops.toArray listed:=mem_ready.2 ⟨by
    rw[aQ,bj (by rw[I.ls];omega)] at h1 ⊢
    exact h1,_,by rw[eY];exact Mg,fun e he hb=>h3 _ ((mO hok Mg).1 e he hb)⟩
   rw[hr] at this;cases this
  obtain⟨hun,o,ho,hd,AW⟩:=Bw i hi;obtain⟨o',jX,hR⟩:=hrun i AW;obtain rfl:o=o':=by rw[ho] at jX;exact Option.some.inj jX
  have Fh:i<ops.length:=(List.getElem?_eq_some_iff.1 ho).1
  have hA:At ops D st og nq t0 w0 H i a.tmps (mask (dep D i) x) w:=by
   obtain⟨c1,c2,c3,c4⟩:=mO hok ho;refine⟨I.be,I.bl,I.kp,fun q hq hk'=>I.od q hq fun k' hlk J'=>?_,fun j d hj hd'=>?_,fun j hj=>?_,fun t ht=>I.pre t fun j hj O6=>?_⟩
   ·rcases hk' k' J' with e | e
    ·subst e;rw[hun] at hlk;cases hlk
    have:=I.dn k' hlk i e;rw[hun] at this;cases this
   ·rw[ai hj];exact I.tm j d (hd j hj) hd'
   ·have e:mask (dep D j) (mask (dep D i) x)=mask (dep D j) x:=by
     funext q
     unfold mask
     by_cases hq:(dep D j).contains q=true
     ·rw[if_pos hq,if_pos hq,if_pos ((c2 j hj).2.1 q hq)]
     rw[if_neg hq,if_neg hq]
    rw[e,ai hj];exact I.fa j (hd j hj)
   have y7:j<ops.length:=by have:=I.lt j hj;omega
   unfold aO.pre at ht;rw[cQ] at ht;have h1:=ht j (List.mem_range.2 y7);simp only[eO,bne_iff_ne,ne_eq,beq_iff_eq] at h1;rcases h1 with (h1 | h1) | h1
   ·exact h1 O6
   ·subst h1;rw[hun] at hj;cases hj
   have:=I.dn j hj i h1;rw[hun] at this;cases this
  have qP:=hR a.tmps (mask (dep D i) x) w hA (fun a' w'=>∃ v,a'=(a.put o.dst v)/\Next al st og (H i) i (mask (dep D i) x) w v w') (fun v w' hN=>⟨v,by rw[<-I.df],hN⟩);have Ki:i<listed.size:=by rw[I.ls];exact Fh
  have BB:(listed.setIfInBounds i true).toList.count false=fuel:=by
   have h1:listed.toList[i]?=some false:=by
    rw[aQ,bj (by rw[I.ls];exact Fh)] at hun;rw[d_ (by simpa using Ki)]
    simpa using hun
   have:=oa h1;rw[hc] at this;rw[Array.toList_setIfInBounds]
   omega
  have cX:∀ a' w',(∃ v,a'=(a.put o.dst v)/\Next al st og (H i) i (mask (dep D i) x) w v w')->wpAny P .any ops.toArray Q fuel (listed.setIfInBounds i true) a' w':=by
   rintro a' w' ⟨v,rfl,hN⟩;exact ih _ _ _ _ BB (I.step hok si fK xF hst ho AW hun hd hN)
  unfold wpOp;rw[show ops.toArray[i]?=some o by simpa using ho];simp only[];have Py:(⟨a.tmps,ds⟩:Act)=a:=by rw[<-I.df]
  rw[Py] at qP
  split
  ·rename_i hw
   rw[if_pos hw] at qP;exact Or.inl (Oper.A5 (Go.Oper.wp_mono cX qP))
  rename_i hw
  rw[if_neg hw] at qP;exact cX _ _ qP
theorem region {id:Nat} {w:an} (hm:P.follows .mixedOrders=true) (D:List (List Nat)) (al:List Nat) (st:List (Nat × Nat)) (og:Nat->Nat) (nq:Nat) (m:Nat) (hok:ok ops D m t0.size=true) (si:vp ops D al st nq=true) (fK:∀ q,q<nq->og q<w.heap.size) (xF:∀ q q',q<nq->q'<nq->q≠q'->og q≠og q')
  (h:az P ops D al st og nq t0 ds w.drew m (Rest P ops Q t0 ds m) ops 0 []):(Code.region id ops.toArray true).wp P Q ⟨t0,ds⟩ w:=by
 refine wp_region_any hm ?_;have hml:=qK hok;obtain⟨H,_,h2,h3⟩:=az.all (fun k j hk hj=>Et hok hj (by omega)) ops 0 [] rfl (au _) (fun j=>by rw[eG]) h;have hc:(mK ops.toArray.size false).toList.count false=ops.toArray.size:=by simp
 refine main (w0:=w.drew) hok si fK xF (fun j hj=>(h2 j (au _) hj).1) (fun j hj=>(h2 j (au _) hj).2) h3 _ _ _ _ (fun _=>undef) hc ?_
 have hno:∀ j,(mK ops.toArray.size false).getD j false=true->False:=fun j hj=>by
  rw[aQ] at hj
  by_cases h:j<ops.length<;>simp[h] at hj
 exact⟨fun j _ hj=>(hno j hj).elim,fun _ _=>rfl,rfl,rfl,fun B _ _=>av _ _,fun _ _ _=>rfl,jS.refl _,fun _ _ _=>rfl,ak _,by simp,fun j hj=>(hno j hj).elim,fun j hj=>(hno j hj).elim,fun j hj=>(hno j hj).elim,fun j _ hj=>(hno j hj).elim,fun i j _ _ hj=>(hno i hj).elim⟩
theorem gg {x:Nat->ay} {w:an} (h:Q .normal ⟨fill ops x 0 t0,ds⟩ w):Rest P ops Q t0 ds ops.length x w:=by
 unfold Rest;rw[Nat.sub_self,bD];refine⟨?_,h⟩;simp only[tT,iN];refine List.eq_nil_iff_forall_not_mem.2 (fun i hi=>?_);obtain⟨h1,o,ho,_⟩:=mem_ready.1 hi;have hlt:i<ops.length:=by have:=(Array.getElem?_eq_some_iff.1 ho).1;simpa using this
 simp[aQ,hlt] at h1
end
end
end aO
def fT (z:Int):Nat:=(min (max z 0) 4096).toNat
theorem yu (z:Int):fT z<=4096:=by unfold fT;omega
theorem xS (z:Int) (w:an) :
  bf ax 202 #[.int .i64 z] w fun e w'=>e=.returned (.tuple #[.int .i64 ((fT z / 32:Nat):Int),.int .i64 ((fT z % 32:Nat):Int)])/\w=w':=by
 have e1:((fT z / 32:Nat):Int)=min (max z 0) 4096 / 32:=by unfold fT;omega
 have e2:((fT z % 32:Nat):Int)=min (max z 0) 4096 % 32:=by unfold fT;omega
 rw[e1,e2];clear e1 e2;go_enter Tryz.func202,Tryz.ntmps202
 go_wp2
 go_ret2
 exact⟨rfl,rfl⟩
theorem Ee {x r:Nat} (hx:x<4294967296) (hr:r<32):x*2 ^ r<18446744073709551616/\x*2 ^ r / 4294967296<2 ^ r/\x*2 ^ r % 4294967296 % 2 ^ r=0:=by
 have hp:0<2 ^ r:=cT (by decide);have h32:2 ^ r*2 ^ (32 - r)=4294967296:=by rw[<-jT,show r+(32 - r)=32 by omega]
 refine⟨?_,?_,?_⟩
 ·have h1:2 ^ r<=2 ^ 31:=bU (by decide) (by omega);have:=Nat.mul_lt_mul_of_lt_of_le hx h1 (by decide)
  omega
 ·apply dB
  rw[fk x];exact fk 4294967296 (2 ^ r) ▸ (Nat.mul_lt_mul_left hp).2 hx
 rw[<-h32,Nat.mod_mod_of_dvd _ (Nat.dvd_mul_right _ _)];exact Nat.mul_mod_left _ _
theorem GQ {P:List Nat} {x r j:Nat} (hr:r<32) (hT:P.getD j 0<2 ^ r):P.getD j 0+x*2 ^ r % aH<aH:=by
 have h32:2 ^ r*2 ^ (32 - r)=4294967296:=by rw[<-jT,show r+(32 - r)=32 by omega]
 have h1:x*2 ^ r % 4294967296=2 ^ r*(x % 2 ^ (32 - r)):=by rw[<-h32,fk x,Nat.mul_mod_mul_left]
 have h2:x % 2 ^ (32 - r)<2 ^ (32 - r):=di _ (cT (by decide));have h3:2 ^ r*(x % 2 ^ (32 - r)+1)<=2 ^ r*2 ^ (32 - r):=eX _ h2;rw[Nat.mul_add,Nat.mul_one] at h3
 show P.getD j 0+x*2 ^ r % 4294967296<4294967296
 omega
theorem Ef {P X:List Nat} {i j r:Nat} (hx:X.getD i 0<aH) (hr:r<32) (hT:P.getD j 0<2 ^ r) :
  bits BinOp.or kP (nth P j) (IntKind.u64.wrap (nth X i*2 ^ r) % 4294967296)=((P.getD j 0+X.getD i 0*2 ^ r % aH:Nat):Int) /\
  IntKind.u64.wrap (nth X i*2 ^ r) / 4294967296 % 4294967296=((X.getD i 0*2 ^ r / aH:Nat):Int):=by
 obtain⟨q1,q2,q3⟩:=Ee hx hr;have hp:2 ^ r<=2 ^ 31:=bU (by decide) (by omega);have e0:nth X i*2 ^ r=((X.getD i 0*2 ^ r:Nat):Int):=by unfold nth;simp
 have e1:IntKind.u64.wrap (nth X i*2 ^ r)=((X.getD i 0*2 ^ r:Nat):Int):=by rw[e0,IntWalk.u64_in _ (by omega)]
 rw[e1];generalize hw:X.getD i 0*2 ^ r=wide at *;refine⟨?_,?_⟩
 ·have e2:((wide:Nat):Int) % 4294967296=((wide % 4294967296:Nat):Int):=by omega
  rw[e2]
  show bits BinOp.or kP ((P.getD j 0:Nat):Int) _=_
  rw[u32_or_nat _ _ (by omega) (by omega),Nat.or_comm,nat_join r _ _ q3 hT,Nat.add_comm]
 show _=((wide / 4294967296:Nat):Int)
 omega
theorem Ed {P xs:List Nat} {i m r wide:Nat} (hi:i+m+1<P.length) (hv:val aH P=val aH (xs.take i)*(2 ^ r*aH ^ m)) (hw:wide=xs.getD i 0*2 ^ r) (h0:P.getD (i+m+1) 0=0) :
  val aH ((P.set (i+m) (P.getD (i+m) 0+wide % aH)).set (i+m+1) (wide / aH))=val aH (xs.take (i+1))*(2 ^ r*aH ^ m):=by
 have h1:=A8 aH P (i+m) (wide % aH) (by omega);have h2:=kQ aH (P.set (i+m) (P.getD (i+m) 0+wide % aH)) (i+m+1) (wide / aH) (by rw[cm];omega);rw[dJ,if_neg (by omega),h0,h1,hv,bY,DD,oJ] at h2;rw[h2,cW,cL];have h3:=jG wide aH;generalize wide % aH=lo at *;generalize wide / aH=hi' at *;rw[jT];generalize aH ^ i=pi at *;generalize aH ^ m=pm at *;generalize 2 ^ r=pr at *;subst hw;have h4:(lo+aH*hi')*(pi*pm)=xs.getD i 0*pr*(pi*pm):=by rw[h3]
 grind
theorem sk (n t:Nat):(bA n 0).getD t 0=0:=by
 by_cases h:t<n
 ·simp[dz,h]
 simp[dz,Nat.le_of_not_lt h]
set_option maxRecDepth 100000 in
theorem Cf (va:ay) (xs:List Nat) (z:Int) (w:an) (hx:Sl w .u32 va xs) (dx:eI aH xs) (lx:xs.length<=1000000) :
  bf ax 187 #[va,.int .i64 z] w fun e w'=>∃ v,e=.returned v/\Sl w' .u32 v (fx aH (val aH xs*2 ^ fT z))/\aC w.heap.size w w':=by
 obtain⟨i0,hi,hz0,jK,tN⟩:=oI ue;obtain⟨ao,ac,rfl⟩:=bR hx;have nx:=gR xs;have hx':=hx.take (nz xs) nx;have zH:=dx.take (nz xs);have VX:=bZ (B:=aH) (by decide) dx;have ex:(xs.take (nz xs)).length=nz xs:=by simp;omega
 have DP:=aa hx;have AJ:=aa (fun w=>dA ao xs.length ac xs w);have cz:=yu z;have SH:=aa (fun w=>xS z w)
 have E8:2 ^ fT z=2 ^ (fT z % 32)*aH ^ (fT z / 32):=by
  rw[show aH=2 ^ 32 from rfl,<-Nat.pow_mul,<-jT]
  congr 1;omega
 clear hx;rw[<-VX,E8];have hr:fT z % 32<32:=di _ (by decide);have hm:fT z / 32<=128:=by omega
 clear VX dx E8 cz;generalize fT z % 32=r at *;generalize fT z / 32=m at *;generalize xs.take (nz xs)=X at *;generalize nz xs=n at *
 have SX:Hid (∀ w1,aC w.heap.size w w1->∀ k,k<n->∃ a,ao=some a/\w1.cell? (a.add k)=some (.int .u32 (nth X k))):=by
  intro w1 hb k hk;obtain⟨DO,cap',e,_,_,_,q⟩:=hx'.below hb;injection e with e1 e2 e3;subst e1;exact q k (by omega)
 have EX:=aa ex;clear ex;go_enter Tryz.func187,Tryz.ntmps187
 go_wp2_with fail
 refine (AJ.out _ DP.out).mono ?_;rintro e w' ⟨rfl,rfl⟩;go_wp2_with fail
 refine (SH.out _).mono ?_;rintro e w' ⟨rfl,rfl⟩;go_wp2_with (at_make;refine iX _ rfl _ _ 24 rfl 153 i0 .u32 lP hi hz0 jK _ _ _ _ (n+m+1) rfl rfl (by omega) (by omega) (by omega) (by omega) ?_;intro w1 Cv dm hs1)
 go_loopw [26] (fun j wr=>∃ (i:Nat) (P:List Nat),j=.int .i64 i/\i<=n/\oH wr w.heap.size .u32 153 P/\aC w.heap.size w wr/\eI aH P/\Hid (P.length=n+m+1)/\Hid (∀ t,i+m<t->P.getD t 0=0)/\Hid (P.getD (i+m) 0<2 ^ r)/\Hid (val aH P=val aH (X.take i)*(2 ^ r*aH ^ m))) (fun j _=>n - (fH j).toNat)
 case atStart=>exact⟨0,_,rfl,au _,Cv,dm,eI.replicate (by decide) _,aa (by simp),aa (fun t _=>sk _ _),aa (by rw[sk];exact cT (by decide)),aa (by rw[iP];simp[val])⟩
 case round =>
  clear Cv dm hs1;obtain⟨i,P,rfl,hin,hB,hb,Ie,HL,HZ,HT,HV⟩:=hrel
  by_cases hlt:i<n
  ·obtain⟨a,rfl,hca⟩:=SX.out wr hb i hlt;have x1:=jA zH i;have x0:=zH.getD (by decide) i;obtain⟨q1,q2,q3⟩:=Ee x0 hr;have hc0:wr.cell? ⟨w.heap.size,i+m,none⟩=some (.int .u32 (nth P (i+m))):=hB.cell (by rw[HL.out];omega);have NO:wr.cell? ⟨w.heap.size,i+m+1,none⟩=some (.int .u32 (nth P (i+m+1))):=hB.cell (by rw[HL.out];omega);have Wm:=hB.frozen (i+m);have jM:=hB.frozen (i+m+1);have hE:=Ef (P:=P) (X:=X) (i:=i) (j:=i+m) x0 hr HT.out;have E1:=aa hE.1;have E2:=aa hE.2;have HS:=aa (Ed (wide:=X.getD i 0*2 ^ r) (by rw[HL.out];omega) HV.out rfl (HZ.out (i+m+1) (by omega)));have Q1:=aa q1;have Q2:=aa q2;have Nf:=aa (GQ (P:=P) (x:=X.getD i 0) (j:=i+m) hr HT.out);clear hE q1 q2 q3;go_wp2_with fail
   go_roundw
   case rel =>
    refine⟨i+1,_,by go_num,by omega,oH.set (oH.set hB (i+m) _ _ E1.out) (i+m+1) _ _ E2.out,(hb.setCell (p:=⟨w.heap.size,i+m,none⟩) (ak _) _).setCell (p:=⟨w.heap.size,i+m+1,none⟩) (ak _) _,(Ie.set Nf.out).set (dB Q1.out),aa (by rw[cm,cm];exact HL.out),aa ?_,aa ?_,HS⟩
    ·intro t ht;rw[dJ,if_neg (by omega),dJ,if_neg (by omega)];exact HZ.out t (by omega)
    rw[dJ,cm,if_pos ⟨by omega,by rw[HL.out];omega⟩];exact Q2.out
   case measure=>simp[fH];omega
  have Ib:i=n:=by omega
  subst Ib
  have hv:val aH P=val aH X*(2 ^ r*aH ^ m):=by
   have h:=HV.out
   rwa [cr (by rw[EX.out];omega)] at h
  have Jq:=aa hv;clear hv;have DH:=hB.sl 0 (i+m+1) (i+m+1) (by rw[HL.out];omega) (ak _) (by omega);rw[iV,cr (by rw[HL.out];omega)] at DH;go_wp2_with fail
  refine (jI _ P _ DH Ie).mono ?_;rintro e w4 ⟨v4,rfl,EW,rfl⟩;go_wp2_with fail
  go_ret
  refine⟨_,rfl,?_,hb⟩;rw[Jq.out] at EW;exact EW
theorem Eb {P Y:List Nat} {i r S:Nat} (hr:r<32) (hi:i<Y.length) (hd:eI aH Y) (TO:i<P.length) (hv:val aH (P.take i)+(val aH (Y.drop i) / 2 ^ r)*aH ^ i=S) :
  val aH ((P.set i ((Y.getD i 0+aH*Y.getD (i+1) 0) / 2 ^ r % aH)).take (i+1))+(val aH (Y.drop (i+1)) / 2 ^ r)*aH ^ (i+1)=S:=by
 have hp:0<2 ^ r:=cT (by decide);have h32:2 ^ r*2 ^ (32 - r)=aH:=by rw[<-jT,show r+(32 - r)=32 by omega]
 have e1:val aH (Y.drop i)=Y.getD i 0+aH*val aH (Y.drop (i+1)):=lK hi
 have e2:val aH (Y.drop (i+1))=Y.getD (i+1) 0+aH*val aH (Y.drop (i+2)):=by
  by_cases h:i+1<Y.length
  ·exact lK h
  rw[gP (by omega),gP (by omega),tB (by omega)];simp[val]
 have hq:val aH (Y.drop i) / 2 ^ r % aH=(Y.getD i 0+aH*Y.getD (i+1) 0) / 2 ^ r % aH:=by
  rw[e1,e2,Nat.mul_add,<-Nat.add_assoc]
  have:aH*(aH*val aH (Y.drop (i+2)))=2 ^ r*(2 ^ (32 - r)*(aH*val aH (Y.drop (i+2)))):=by
   rw[<-mI (2 ^ r),h32]
  rw[this,nv _ _ hp]
  have h3:2 ^ (32 - r)*(aH*val aH (Y.drop (i+2)))=aH*(2 ^ (32 - r)*val aH (Y.drop (i+2))):=by
   rw[<-mI,fk (2 ^ (32 - r)),mI]
  rw[h3,A2]
 have hq2:val aH (Y.drop i) / 2 ^ r / aH=val aH (Y.drop (i+1)) / 2 ^ r:=by
  rw[Nat.div_div_eq_div_mul,fk,<-Nat.div_div_eq_div_mul,e1,nv _ _ (by decide),kJ (hd.getD (by decide) i),eG]
 have h4:=jG (val aH (Y.drop i) / 2 ^ r) aH;rw[hq,hq2] at h4;rw[cW,dJ,if_pos ⟨rfl,TO⟩,List.take_set_of_le (ak i),<-hv,<-h4,bY];generalize (Y.getD i 0+aH*Y.getD (i+1) 0) / 2 ^ r % aH=p;generalize val aH (Y.drop (i+1)) / 2 ^ r=u;generalize aH ^ i=t;rw[cL,Nat.add_assoc]
 congr 2
 grind
theorem CV {X:List Nat} {m r:Nat} (dx:eI aH X) (hm:m<=X.length):val aH (X.drop m) / 2 ^ r=val aH X / (2 ^ r*aH ^ m):=by
 have h1:=eJ (dx.take m);rw[aW,cE hm] at h1;rw[jH aH X m hm,fk (2 ^ r),<-Nat.div_div_eq_div_mul,nv _ _ (cT (by decide)),kJ h1,eG]
theorem Ec {y y1 r:Nat} (hy:y<aH) (EV:y1<aH) :
  bits BinOp.or IntKind.u64 (y:Int) ((y1:Int)*4294967296) / 2 ^ r % 4294967296=(((y+aH*y1) / 2 ^ r % aH:Nat):Int):=by
 have e:(y1:Int)*4294967296=((y1*4294967296:Nat):Int):=by simp
 have hy':y<4294967296:=hy;have Td:y1<4294967296:=EV;rw[e,u64_or_nat _ _ (by omega) (by omega),Nat.or_comm,nat_join 32 _ _ (by omega) hy'];have e2:y1*4294967296+y=y+aH*y1:=by show y1*4294967296+y=y+4294967296*y1;omega
 rw[e2];simp
theorem CW {y r:Nat}:(y:Int) / 2 ^ r % 4294967296=(((y+aH*0) / 2 ^ r % aH:Nat):Int):=by simp
set_option maxRecDepth 100000 in
theorem GP (va:ay) (xs:List Nat) (z:Int) (w:an) (hx:Sl w .u32 va xs) (dx:eI aH xs) (lx:xs.length<=1000000) :
  bf ax 189 #[va,.int .i64 z] w fun e w'=>∃ v,e=.returned v/\Sl w' .u32 v (fx aH (val aH xs / 2 ^ fT z))/\aC w.heap.size w w':=by
 obtain⟨i0,hi,hz0,jK,tN⟩:=oI ue;obtain⟨ao,ac,rfl⟩:=bR hx;have nx:=gR xs;have hx':=hx.take (nz xs) nx;have zH:=dx.take (nz xs);have VX:=bZ (B:=aH) (by decide) dx;have ex:(xs.take (nz xs)).length=nz xs:=by simp;omega
 have DP:=aa hx;have AJ:=aa (fun w=>dA ao xs.length ac xs w);have cz:=yu z;have SH:=aa (fun w=>xS z w)
 have E8:2 ^ fT z=2 ^ (fT z % 32)*aH ^ (fT z / 32):=by
  rw[show aH=2 ^ 32 from rfl,<-Nat.pow_mul,<-jT]
  congr 1;omega
 have hac:xs.length<=ac:=by obtain⟨_,_,e,h,_⟩:=hx;injection e with _ _ e3;omega
 clear hx;rw[<-VX,E8];have hr:fT z % 32<32:=di _ (by decide);have hm:fT z / 32<=128:=by omega
 clear VX dx E8 cz;generalize fT z % 32=r at *;generalize fT z / 32=m at *;generalize xs.take (nz xs)=X at *;generalize nz xs=n at *
 have SX:Hid (∀ w1,aC w.heap.size w w1->∀ k,k<n->∃ a,ao=some a/\w1.cell? (a.add k)=some (.int .u32 (nth X k))):=by
  intro w1 hb k hk;obtain⟨DO,cap',e,_,_,_,q⟩:=hx'.below hb;injection e with e1 e2 e3;subst e1;exact q k (by omega)
 have EX:=aa ex;clear ex
 by_cases hmn:n<=m
 ·have L0:val aH X / (2 ^ r*aH ^ m)=0:=by
   apply kJ
   have h1:=eJ zH;rw[EX.out] at h1;have h2:aH ^ n<=aH ^ m:=bU (by decide) hmn;have h3:1*aH ^ m<=2 ^ r*aH ^ m:=aU _ (cT (by decide))
   omega
  have U0:=aa L0;clear L0;go_enter Tryz.func189,Tryz.ntmps189
  go_wp2_with fail
  refine (AJ.out _ DP.out).mono ?_;rintro e w' ⟨rfl,rfl⟩;go_wp2_with fail
  refine (SH.out _).mono ?_;rintro e w' ⟨rfl,rfl⟩;go_wp2_with fail
  go_ret
  refine⟨_,rfl,?_,av _ _⟩;rw[U0.out,fe];exact Sl.nil _ _
 obtain⟨a,rfl,_⟩:=SX.out w (av _ _) 0 (by omega);have T9:=aa (CV (X:=X) (m:=m) (r:=r) zH (by rw[EX.out];omega));have dY:=zH.drop m;have lY:(X.drop m).length=n - m:=by rw[jv,EX.out]
 have LY:=aa lY;clear lY;have K_:¬ ac=m:=by omega
 have SY:Hid (∀ w1,aC w.heap.size w w1->∀ k,k<n - m->w1.cell? ((a.add m).add k)=some (.int .u32 (nth (X.drop m) k))):=by
  intro w1 hb k hk;obtain⟨a',e,hc⟩:=SX.out w1 hb (m+k) (by omega);injection e with e;subst e;rw[tH,hc];unfold nth;simp[dz]
 go_enter Tryz.func189,Tryz.ntmps189
 go_wp2_with fail
 refine (AJ.out _ DP.out).mono ?_;rintro e w' ⟨rfl,rfl⟩;go_wp2_with fail
 refine (SH.out _).mono ?_;rintro e w' ⟨rfl,rfl⟩;go_wp2_with (at_make;refine iX _ rfl _ _ 24 rfl 153 i0 .u32 lP hi hz0 jK _ _ _ _ (n - m) rfl rfl (by omega) (by omega) (by omega) (by omega) ?_;intro w1 Cv dm hs1)
 generalize a.add m=b at *;generalize X.drop m=Y at *;generalize hN:n - m=N at *;have Ww:0<N/\N<=1000000:=by omega
 clear hN
 go_loopw [29] (fun j wr=>∃ (i:Nat) (P:List Nat),j=.int .i64 i/\i<=N/\oH wr w.heap.size .u32 153 P/\aC w.heap.size w wr/\eI aH P/\Hid (P.length=N)/\Hid (val aH (P.take i)+(val aH (Y.drop i) / 2 ^ r)*aH ^ i=val aH Y / 2 ^ r)) (fun j _=>N - (fH j).toNat)
 case atStart=>exact⟨0,_,rfl,au _,Cv,dm,eI.replicate (by decide) _,aa (by simp),aa (by simp[val])⟩
 case round =>
  clear Cv dm hs1;obtain⟨i,P,rfl,hin,hB,hb,Ie,HL,HV⟩:=hrel
  by_cases hlt:i<N
  ·have hc0:=SY.out wr hb i hlt;have x1:=jA dY i;have y0:=dY.getD (by decide) i;have y1:=dY.getD (by decide) (i+1);have Wo:wr.cell? ⟨w.heap.size,i,none⟩=some (.int .u32 (nth P i)):=hB.cell (by rw[HL.out];omega);have hf:=hB.frozen i;have HS:=aa (Eb (P:=P) (Y:=Y) (i:=i) hr (by rw[LY.out];exact hlt) dY (by rw[HL.out];exact hlt) HV.out);have SA:=aa (Ie.set (i:=i) (v:=(Y.getD i 0+aH*Y.getD (i+1) 0) / 2 ^ r % aH) (di _ (by decide)));have No:=aa (show (P.set i ((Y.getD i 0+aH*Y.getD (i+1) 0) / 2 ^ r % aH)).length=N by rw[cm];exact HL.out)
   by_cases Kc:i+1<N
   ·have NO:wr.cell? ⟨b.block,b.off+(i+1),none⟩=some (.int .u32 (nth Y (i+1))):=by
     have:=SY.out wr hb (i+1) Kc
     simpa [sP] using this
    have x2:=jA dY (i+1);have E1:=aa (Ec (r:=r) y0 y1);clear y0 y1;go_wp2_with fail
    go_roundw
    case rel=>exact⟨i+1,_,by go_num,by omega,oH.set hB i _ _ E1.out,hb.setCell (p:=⟨w.heap.size,i,none⟩) (ak _) _,SA.out,No,HS⟩
    case measure=>simp[fH];omega
   have QS:Y.getD (i+1) 0=0:=tB (by rw[LY.out];omega);have E1:Hid (nth Y i / 2 ^ r % 4294967296=(((Y.getD i 0+aH*Y.getD (i+1) 0) / 2 ^ r % aH:Nat):Int)):=aa (by rw[QS];exact CW);clear y0 y1 QS;go_wp2_with fail
   go_roundw
   case rel=>exact⟨i+1,_,by go_num,by omega,oH.set hB i _ _ E1.out,hb.setCell (p:=⟨w.heap.size,i,none⟩) (ak _) _,SA.out,No,HS⟩
   case measure=>simp[fH];omega
  have Ib:i=N:=by omega
  subst Ib
  have hv:val aH P=val aH Y / 2 ^ r:=by
   have h:=HV.out;rw[cr (by rw[HL.out];omega),gP (by rw[LY.out];omega)] at h
   simpa [val] using h
  have Jq:=aa hv;clear hv;have DH:=hB.sl 0 i i (by rw[HL.out];omega) (ak _) (by omega);rw[iV,cr (by rw[HL.out];omega)] at DH;go_wp2_with fail
  refine (jI _ P _ DH Ie).mono ?_;rintro e w4 ⟨v4,rfl,EW,rfl⟩;go_wp2_with fail
  go_ret
  refine⟨_,rfl,?_,hb⟩;rw[Jq.out,T9.out] at EW;exact EW
end Go.Proofs.YtoncclhbdkjhmaaGreatDoor
