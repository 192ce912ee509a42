/-
 Joined texts: KBase,KNat,KRef,Shelf,KText,KMul,aQ,KSh.
-/
import Init
import Derived.WalkKit
import Derived.WalkSpells
import Derived.WalkLawsBesides
import Derived.Lib.Hide
import Derived.Laws.CopyOwn
import Derived.Laws.AppendOwnNone
import Derived.Test.YtoncclhbdkjhmaaGreatDoorRows
import Derived.Deep.QuietTactic
import Derived.BigQuiet
import Derived.Shelf.Strings.Builder1
import Derived.Shelf.Small.Bits
import Derived.Shelf.Small.Wraps
import Derived.Shelf.Strconv.Itoa0
import Derived.Shelf.Strconv.Itoa1
import Derived.Shelf.LaysM
import Derived.Shelf.Strconv.Itoa2
import Derived.Test.YtoncclhbdkjhmaaGreatDoorProg
import Derived.Lib.Builder
import Derived.Lib.ItoaNum
import Derived.Lib.AppendStr
import Derived.RegionTactic
import Derived.StillTailTactics
import Derived.Deep.RegionHeld3
set_option maxHeartbeats 32000000
open Array renaming replicate→nT
open Bool renaming and_eq_true→cV,or_eq_true→e_,or_true→nK
open Go renaming lt_of_block→ae,World→ag,Value→aq,heap_setCell_same→aC,Calls→aW,TypeId→bn,Addr→cB,IntKind→dB,cell_of_row→eK,Oper→fL,info_parts→pS,wpList→qy,frozen_of_row→tC,Program→tG
open Go.Addr renaming add→nM
open Go.IntKind renaming u32→kW
open Go.Lib renaming hid→aa,decDigits→a_,byteCells→dN,byteCells_length→qA
open Go.Proofs.Tryz renaming prog→aj,underlying9→fh,underlying3→jf,zeroValue9→lH,zeroValue3→lI,underlying4→lJ,underlying24→mF,underlying5→nk,zeroValue5→oY,zeroValue4→oZ,sizeOf9→pG,sizeOf3→pH,isAgg9→q7,isAgg3→q8,underlying99→tD,sizeOf5→tE,sizeOf4→tF,underlying183→xH,underlying153→xI,zeroValue183→yj,zeroValue153→yp,underlying0→Ak
open Go.Region renaming wanted→lK,binds→tQ
open Go.RowKit renaming Below→aA,intOf→ei
open Go.RowKit.Below renaming refl→ax
open Go.Shelf renaming Ren→nS
open Go.Value renaming int→fm
open Go.World.grownBy renaming refl→aI
open Go.World.ownsRow renaming kept→lG
open List renaming length_take→aX,append_assoc→bg,set_cons_succ→bD,take_succ_eq_append_getElem→bH,replicate→bJ,take_length→bK,length_set→bY,getElem_mem→ct,take_of_length_le→cw,drop_zero→cx,all_eq_true→dF,append_nil→dJ,getD→dW,length→d_,length_replicate→gI,eq_nil_of_length_eq_zero→gK,drop_eq_nil_of_le→gP,range→gR,drop_eq_getElem_cons→iw,length_drop→jh,mem_range→kT,reverse_cons→nJ,take_append_drop→o7,replicate_zero→vH
open Nat renaming le_trans→ah,le_refl→ai,zero_le→au,lt_of_lt_of_le→az,mul_le_mul_right→aV,eq_zero_or_pos→bQ,pow_le_pow_right→cf,pow_succ→cj,min_eq_left→cX,pow_pos→dj,add_mul→dH,mod_lt→dZ,div_lt_of_lt_mul→eG,mul_le_mul_left→fk,zero_add→fM,mul_comm→fN,lt_or_ge→ir,mod_eq_of_lt→iB,mul_le_mul→iU,xor_lt_two_pow→jg,mod_add_div→ju,pow_add→jR,div_eq_of_lt→kL,mul_assoc→nQ,add_mul_div_left→oN,add_zero→pT,zero_mul→rK,strongRecOn→ue,lt_trans→wJ,add_mul_mod_self_right→DB,add_mul_mod_self_left→DO,mul_one→LP
open Option renaming getD_some→jb
namespace Go.Proofs.YtoncclhbdkjhmaaGreatDoor
set_option maxRecDepth 100000
theorem g_ {α:Type _} {xs:List α} {i:Nat}:xs.toArray[i]?=xs[i]?:=List.getElem?_toArray
theorem iC {α:Type _} {a:α} {xs:List α} {i:Nat}:(a::xs)[i+1]?=xs[i]?:=List.getElem?_cons_succ
theorem iz {α:Type _} {a:α} {l:List α}:(a::l)[0]?=some a:=List.getElem?_cons_zero
theorem eY {α:Type _} {xs ys:List α}:(xs++ys).length=xs.length+ys.length:=List.length_append
theorem mS {α:Type _} {a:α} {xs:List α}:(a::xs).length=xs.length+1:=List.length_cons
theorem uA {α:Type _}:([]:List α).length=0:=List.length_nil
theorem Jo {α:Type _} {a:α} {xs:List α} {i:Nat}:(a::xs).take (i+1)=a::xs.take i:=List.take_succ_cons
theorem Jn {α:Type _} {l:List α}:l.take 0=[]:=List.take_zero
theorem Jm {α:Type _} {a:α} {l:List α} {i:Nat}:(a::l).drop (i+1)=l.drop i:=List.drop_succ_cons
theorem Jl {α:Type _} {l:List α}:l.drop 0=l:=cx
theorem GG {α:Type _} {l:List α} {i:Nat} {a:α}:l.toArray.setIfInBounds i a=(l.set i a).toArray:=List.setIfInBounds_toArray _ _ _
theorem GF {α:Type _} {x:α} {xs:List α} {a:α}:(x::xs).set 0 a=a::xs:=List.set_cons_zero
theorem GD {α:Type _} {x:α} {xs:List α} {n:Nat} {a:α}:(x::xs).set (n+1) a=x::xs.set n a:=bD

def val (B:Nat):List Nat->Nat
 | []=>0
 | x::xs=>x+B*val B xs

def eV (B:Nat) (xs:List Nat):Prop:=∀ x ∈ xs,x<B

theorem mb (B:Nat) (xs ys:List Nat):val B (xs++ys)=val B xs+B ^ xs.length*val B ys:=by
 induction xs with
 | nil=>simp[val]
 | cons x xs ih=>simp only[List.cons_append,val,ih,mS,cj];grind
theorem eW {B:Nat} {xs:List Nat} (h:eV B xs):val B xs<B ^ xs.length:=by
 induction xs with
 | nil=>simp[val]
 | cons x xs ih =>
  have h1:x<B:=h x (by simp);have h2:=ih (fun y hy=>h y (by simp[hy]));simp only[val,mS,cj];have:B*(val B xs+1)<=B*B ^ xs.length:=fk _ h2
  grind
theorem kY (B:Nat) (xs:List Nat) (i v:Nat) (h:i<xs.length):val B (xs.set i v)+xs.getD i 0*B ^ i=val B xs+v*B ^ i:=by
 induction xs generalizing i with
 | nil=>simp at h
 | cons x xs ih =>
  cases i with
  | zero=>simp[val];omega
  | succ i =>
   have:=ih i (by simpa using h);simp only[bD,val,List.getD_cons_succ,cj]
   grind
theorem gF (B:Nat) (xs:List Nat) (k:Nat) (h:k<xs.length):val B (xs.take (k+1))=val B (xs.take k)+xs.getD k 0*B ^ k:=by
 rw[bH h,mb];have e:(xs.take k).length=k:=by simp;omega
 simp[val,e,dW,h,fN]
theorem iK (B n:Nat):val B (bJ n 0)=0:=by
 induction n with
 | zero=>rfl
 | succ n ih=>simp[List.replicate_succ,val,ih]
theorem eV.set {B:Nat} {xs:List Nat} (h:eV B xs) {i v:Nat} (hv:v<B):eV B (xs.set i v):=by
 intro x hx;rcases List.mem_or_eq_of_mem_set hx with h' | h'
 ·exact h x h'
 omega
theorem eV.append {B:Nat} {xs ys:List Nat} (h:eV B xs) (k:eV B ys):eV B (xs++ys):=by
 intro x hx;rcases List.mem_append.1 hx with h' | h'
 ·exact h x h'
 exact k x h'
theorem eV.take {B:Nat} {xs:List Nat} (h:eV B xs) (n:Nat):eV B (xs.take n):=fun x hx=>h x (List.mem_of_mem_take hx)
theorem eV.drop {B:Nat} {xs:List Nat} (h:eV B xs) (n:Nat):eV B (xs.drop n):=fun x hx=>h x (List.mem_of_mem_drop hx)
theorem eV.getD {B:Nat} {xs:List Nat} (h:eV B xs) (hB:0<B) (i:Nat):xs.getD i 0<B:=by
 by_cases hi:i<xs.length
 ·have:=h xs[i] (ct hi);simpa [dW,hi] using this
 simpa [dW,Nat.le_of_not_lt hi] using hB
theorem eV.replicate {B:Nat} (hB:0<B) (n:Nat):eV B (bJ n 0):=fun x hx=>by rw[List.eq_of_mem_replicate hx];exact hB
theorem eV.nil (B:Nat):eV B []:=fun x hx=>by cases hx
def nz (xs:List Nat):Nat:=(xs.reverse.dropWhile (· == 0)).length
theorem gT (xs:List Nat):nz xs<=xs.length:=by
 unfold nz;have:=(List.dropWhile_suffix (p:=(· == 0)) (l:=xs.reverse)).length_le
 simpa using this
theorem BB {xs:List Nat} {k:Nat} (h:k<xs.length) (h0:xs.getD k 0=0):nz (xs.take (k+1))=nz (xs.take k):=by
 unfold nz;rw[bH h]
 simp[dW,h] at h0
 simp[h0]
theorem PO {xs:List Nat} {k:Nat} (h:k<xs.length) (h0:xs.getD k 0≠0):nz (xs.take (k+1))=k+1:=by
 unfold nz;rw[bH h]
 simp[dW,h] at h0
 have e:(xs[k]==0)=false:=by simpa using h0
 rw[List.reverse_append,List.reverse_singleton,List.singleton_append,List.dropWhile_cons,e]
 simp;omega
def fJ (B:Nat) (n:Nat):List Nat:=
 if _h:2<=B/\0<n then n % B::fJ B (n / B) else []
termination_by n
decreasing_by exact Nat.div_lt_self _h.2 (by omega)
theorem fD (B:Nat):fJ B 0=[]:=by unfold fJ;simp
theorem lC {B n:Nat} (hB:2<=B) (h:0<n):fJ B n=n % B::fJ B (n / B):=by rw[fJ];simp[hB,h]
theorem iW {B:Nat} (hB:2<=B) (n:Nat):val B (fJ B n)=n:=by
 induction n using ue with
 | ind n ih =>
  by_cases h:0<n
  ·rw[lC hB h];simp only[val];rw[ih _ (Nat.div_lt_self h (by omega))];have:=ju n B;omega
  have:n=0:=by omega
  subst this;simp[fD,val]
theorem kE {B:Nat} (hB:2<=B) (n:Nat):eV B (fJ B n):=by
 induction n using ue with
 | ind n ih =>
  by_cases h:0<n
  ·rw[lC hB h];intro x hx;rcases List.mem_cons.1 hx with rfl | hx
   ·exact dZ _ (by omega)
   exact ih _ (Nat.div_lt_self h (by omega)) x hx
  have:n=0:=by omega
  subst this;simp[fD,eV]
theorem qE {B:Nat} (hB:2<=B) {xs:List Nat} (h:eV B xs):xs.take (nz xs)=fJ B (val B xs):=by
 induction xs with
 | nil=>simp[nz,val,fD]
 | cons x xs ih =>
  have hx:x<B:=h x (by simp);have hd:eV B xs:=fun y hy=>h y (by simp[hy])
  have Vu:=ih hd
  by_cases hz:nz xs=0
  ·have hv:val B xs=0:=by
    have:fJ B (val B xs)=[]:=by rw[<-Vu,hz];rfl
    by_cases h0:0<val B xs
    ·rw[lC hB h0] at this;cases this
    omega
   have hall:xs.reverse.dropWhile (· == 0)=[]:=gK hz;simp only[val,hv,Nat.mul_zero,pT]
   have e:nz (x::xs)=if x=0 then 0 else 1:=by
    unfold nz;rw[nJ,List.dropWhile_append,hall]
    by_cases hx0:x=0
    ·simp[hx0]
    simp[hx0,List.dropWhile]
    have:(x==0)=false:=by simpa using hx0
    simp[this]
   by_cases hx0:x=0
   ·rw[e,if_pos hx0,hx0,fD];rfl
   rw[e,if_neg hx0,lC hB (by omega),iB hx,kL hx,fD];rfl
  have hne:xs.reverse.dropWhile (· == 0) ≠ []:=fun e=>hz (by unfold nz;rw[e];rfl)
  have e:nz (x::xs)=nz xs+1:=by
   unfold nz;rw[nJ,List.dropWhile_append,if_neg (by simpa using hne)]
   simp
  have hv:0<val B xs:=by
   rcases bQ (val B xs) with h0 | h0
   ·rw[h0,fD] at Vu;have:=congrArg d_ Vu
    simp at this
    have hl:=gT xs;rcases this with h1 | h1
    ·omega
    subst h1;simp[nz] at hz
   exact h0
  have hv':0<x+B*val B xs:=by
   have h1:1<=B:=by omega
   have:=iU h1 hv;omega
  rw[e,List.take_succ_cons,Vu,val,lC (n:=x+B*val B xs) hB hv'];rw[DO,iB hx,oN _ _ (by omega),kL hx,fM]
theorem qR {B:Nat} (hB:2<=B) {xs:List Nat} (h:eV B xs):fJ B (val B xs)=xs.take (nz xs):=(qE hB h).symm
theorem fx {B:Nat} (hB:2<=B) {xs:List Nat} (h:eV B xs):(fJ B (val B xs)).length=nz xs:=by
 rw[qR hB h,aX];have:=gT xs;omega
theorem ck {B:Nat} (hB:2<=B) {xs:List Nat} (h:eV B xs):val B (xs.take (nz xs))=val B xs:=by rw[qE hB h,iW hB]
theorem f_ {B:Nat} (hB:2<=B) {n k:Nat} (h:n<B ^ k):(fJ B n).length<=k:=by
 induction k generalizing n with
 | zero=>simp at h;subst h;simp[fD]
 | succ k ih =>
  by_cases h0:0<n
  ·rw[lC hB h0,mS];have:n / B<B ^ k:=eG (by rw[cj] at h;rw[fN];exact h);have:=ih this;omega
  have:n=0:=by omega
  subst this;simp[fD]
theorem vP {B:Nat} (hB:2<=B) {n k:Nat} (h:(fJ B n).length<=k):n<B ^ k:=by
 have h1:=eW (kE hB n);rw[iW hB] at h1;exact az h1 (cf (by omega) h)
theorem BD {B:Nat} (hB:2<=B) {n k:Nat} (h:k<(fJ B n).length):B ^ k<=n:=by
 rcases ir n (B ^ k) with h1 | h1
 ·have:=f_ hB h1;omega
 exact h1
end Go.Proofs.YtoncclhbdkjhmaaGreatDoor
namespace Go.Proofs.YtoncclhbdkjhmaaGreatDoor
open Go.RowKit
set_option maxRecDepth 100000
def nth (xs:List Nat) (i:Nat):Int:=((xs.getD i 0:Nat):Int)
theorem BC {xs:List Nat} {i:Nat} (h:i<xs.length):nth xs i=((xs[i]:Nat):Int):=by
 unfold nth;simp[dW,h]
def Sl (w:ag) (k:dB) (v:aq) (xs:List Nat):Prop:=
 ∃ (ao:Option cB) (cap:Nat),v=.slice ao xs.length cap/\xs.length<=cap/\cap<=9223372036854775807/\(ao=none->cap=0) /\
  ∀ i,i<xs.length->∃ a,ao=some a/\w.cell? (a.add i)=some (.int k (nth xs i))
theorem vm (a:cB) (i j:Nat):(a.add i).add j=a.add (i+j):=by
 unfold nM
 by_cases hi:i=0
 ·simp[hi]
 by_cases hj:j=0
 ·simp[hj]
 simp[hi,hj];omega
theorem cu {w:ag} {a:cB} {v:aq} (h:w.cell? a=some v):a.block<w.heap.size:=World.block_lt_of_cell? w a h
theorem Sl.nil (w:ag) (k:dB):Sl w k (.slice none 0 0) []:=
 ⟨none,0,rfl,by simp,by omega,fun _=>rfl,fun i hi=>by simp at hi⟩
theorem Sl.below {w w':ag} {k:dB} {v:aq} {xs:List Nat} (h:Sl w k v xs) (hb:aA w.heap.size w w'):Sl w' k v xs:=by
 obtain⟨ao,cap,rfl,h1,h2,h3,h4⟩:=h;refine⟨ao,cap,rfl,h1,h2,h3,fun i hi=>?_⟩;obtain⟨a,ha,hc⟩:=h4 i hi;exact⟨a,ha,by rw[hb.cell (cu hc)];exact hc⟩
theorem Sl.take {w:ag} {k:dB} {ao:Option cB} {n cap:Nat} {xs:List Nat} (h:Sl w k (.slice ao n cap) xs) (m:Nat) (hm:m<=xs.length):Sl w k (.slice ao m cap) (xs.take m):=by
 obtain⟨QU,cap',e,h1,h2,h3,h4⟩:=h;injection e with e1 e2 e3;subst e1;subst e3;have hl:(xs.take m).length=m:=by simp;omega
 refine⟨ao,cap,by rw[hl],by rw[hl];omega,h2,h3,fun i hi=>?_⟩;rw[hl] at hi;obtain⟨a,ha,hc⟩:=h4 i (by omega);refine⟨a,ha,?_⟩;rw[hc];unfold nth
 simp[dW,hi]
def pR (w:ag) (g:Nat) (k:dB) (T:bn) (l:List Nat):Prop:=
 w.heap[g]?=some (.cells ((l.map fun (n:Nat)=>fm k ((n:Nat):Int)).toArray) T (0,0))
theorem pR.lt {w:ag} {g:Nat} {k:dB} {T:bn} {l:List Nat} (h:pR w g k T l):g<w.heap.size:=ae h
theorem pR.cell {w:ag} {g:Nat} {k:dB} {T:bn} {l:List Nat} (h:pR w g k T l) {i:Nat} (hi:i<l.length):w.cell? ⟨g,i,none⟩=some (.int k (nth l i)):=by
 rw[eK w g i _ T (0,0) h]
 simp[hi,BC hi]
theorem pR.frozen {w:ag} {g:Nat} {k:dB} {T:bn} {l:List Nat} (h:pR w g k T l) (i:Nat):w.frozen? ⟨g,i,none⟩=false:=tC w g i _ T h
theorem pR.set {w:ag} {g:Nat} {k:dB} {T:bn} {l:List Nat} (h:pR w g k T l) (i:Nat) (n:Nat) (z:Int) (hz:z=(n:Int)):pR (w.setCell ⟨g,i,none⟩ (.int k z)) g k T (l.set i n):=by
 subst hz;unfold pR;rw[aC w g i _ T _ h]
 simp[List.map_set]
theorem pR.other {w w':ag} {g:Nat} {k:dB} {T:bn} {l:List Nat} (h:pR w g k T l) {row:Option Nat} (hg:w.grownBy w' row) (hne:some g≠row):pR w' g k T l:=by
 unfold pR at *;rw[hg.block g (ae h) hne];exact h
theorem pR.below {w w':ag} {B g:Nat} {k:dB} {T:bn} {l:List Nat} (h:pR w g k T l) (hg:aA B w w') (hB:g<B):pR w' g k T l:=by
 unfold pR at *;rw[hg.block g hB];exact h
theorem Cb (g off i:Nat):(⟨g,off,none⟩:cB).add i=⟨g,off+i,none⟩:=by simp[nM]
theorem pR.sl {w:ag} {g:Nat} {k:dB} {T:bn} {l:List Nat} (h:pR w g k T l) (off n cap:Nat) (hn:off+n<=l.length) (hc:n<=cap) (hm:cap<=9223372036854775807) :
  Sl w k (.slice (some ⟨g,off,none⟩) n cap) ((l.drop off).take n):=by
 have hl:((l.drop off).take n).length=n:=by simp;omega
 refine⟨some ⟨g,off,none⟩,cap,by rw[hl],by rw[hl];exact hc,hm,(fun e=>by cases e),fun i hi=>⟨_,rfl,?_⟩⟩;rw[hl] at hi;rw[Cb,h.cell (i:=off+i) (by omega)];unfold nth
 simp[dW,hi]
theorem aF {w0 w:ag} {g i:Nat} (h:w0.grownBy w (some g)) (v:aq):w0.grownBy (w.setCell ⟨g,i,none⟩ v) (some g):=
 ⟨h.os,h.tape,h.output,by simpa [World.setCell] using h.size,fun k hk hne=>by
  rw[Below.heap_setCell _ _ _ _ (fun e=>hne (by rw[e]))];exact h.block k hk hne⟩
theorem xm {a b c:ag} {row:Option Nat} (h:a.grownBy b row) (k:b.grownBy c row):a.grownBy c row:=
 ⟨k.os.trans h.os,k.tape.trans h.tape,k.output.trans h.output,ah h.size k.size,fun i hi hne=>(k.block i (az hi h.size) hne).trans (h.block i hi hne)⟩
theorem zv {a b:ag} {row:Option Nat} (h:aA a.heap.size a b):a.grownBy b row:=
 ⟨h.os,h.tape,h.output,h.size,fun k hk _=>h.block k hk⟩
def ua (g:Nat) (v:aq):Prop:=∀ a n c,v=.slice (some a) n c->a.block=g->n=0
theorem Sl.grown {w w':ag} {k:dB} {v:aq} {xs:List Nat} {g:Nat} (h:Sl w k v xs) (hg:w.grownBy w' (some g)) (ha:ua g v):Sl w' k v xs:=by
 obtain⟨ao,cap,rfl,h1,h2,h3,h4⟩:=h;refine⟨ao,cap,rfl,h1,h2,h3,fun i hi=>?_⟩;obtain⟨a,rfl,hc⟩:=h4 i hi;refine⟨a,rfl,?_⟩;have hb:(a.add i).block=a.block:=by unfold nM;split<;>rfl
 refine hg.cell hc (fun e=>?_);injection e with e;have:=ha a _ _ rfl (by rw[<-e,hb])
 omega
def Ws (w:ag) (k:dB) (T:bn) (v:aq) (g:Nat) (pre s post:List Nat):Prop:=
 ∃ (ao:Option cB) (cap:Nat),v=.slice ao s.length cap/\s.length<=cap/\cap<=9223372036854775807/\(ao=none->cap=0) /\
  (s.length≠0->ao=some ⟨g,pre.length,none⟩/\pR w g k T (pre++s++post))
def Fe (w:ag) (k:dB) (T:bn) (ao:Option cB) (g:Nat) (pre s post:List Nat) (n:Nat):Prop:=
 n≠0->ao=some ⟨g,pre.length,none⟩/\pR w g k T (pre++s++post)
theorem jq {xs:List Nat} (h:eV 4294967296 xs) (i:Nat):0<=nth xs i/\nth xs i<4294967296:=by
 have h1:=h.getD (by omega) i;unfold nth;omega
theorem Sl.at {w:ag} {k:dB} {b:cB} {n c:Nat} {xs:List Nat} (h:Sl w k (.slice (some b) n c) xs) {i:Nat} (hi:i<xs.length):w.cell? (b.add i)=some (.int k (nth xs i)):=by
 obtain⟨_,_,e,_,_,_,q⟩:=h;injection e with e1 e2 e3;subst e1;obtain⟨b',e,q⟩:=q i hi;injection e with e;subst e;exact q
theorem Ws.sl {w:ag} {k:dB} {T:bn} {v:aq} {g:Nat} {pre s post:List Nat} (h:Ws w k T v g pre s post):Sl w k v s:=by
 obtain⟨ao,cap,rfl,h1,h2,h3,h4⟩:=h;refine⟨ao,cap,rfl,h1,h2,h3,fun i hi=>?_⟩;obtain⟨rfl,hb⟩:=h4 (by omega);refine⟨_,rfl,?_⟩;rw[Cb,hb.cell (by simp;omega)];unfold nth
 simp[dW,List.getElem?_append_left,List.getElem?_append_right,hi]
theorem nA (pre s post:List Nat) (i:Nat) (h:i<s.length):nth (pre++s++post) (pre.length+i)=nth s i:=by
 unfold nth
 simp[dW,List.getElem?_append_left,List.getElem?_append_right,h]
theorem nn (pre s post:List Nat) (i n:Nat) (h:i<s.length):(pre++s++post).set (pre.length+i) n=pre++s.set i n++post:=by
 rw[bg,List.set_append_right _ _ (by omega),List.set_append_left _ _ (by omega),bg]
 simp
theorem Ws.below {w w':ag} {B:Nat} {k:dB} {T:bn} {v:aq} {g:Nat} {pre s post:List Nat} (h:Ws w k T v g pre s post) (hb:aA B w w') (hg:g<B):Ws w' k T v g pre s post:=by
 obtain⟨ao,cap,rfl,h1,h2,h3,h4⟩:=h;exact⟨ao,cap,rfl,h1,h2,h3,fun i=>⟨(h4 i).1,(h4 i).2.below hb hg⟩⟩
theorem BW {w:ag} {base:Nat} {e:bn} {g n cap:Nat} {xs:List aq} (h:w.ownsRow base e 1 (.slice (some ⟨g,0,none⟩) n cap) n xs) (hn:n=cap):w.heap[g]?=some (.cells xs.toArray e (0,0)):=by
 obtain⟨hl,h2⟩:=h;rcases h2 with ⟨e1,_⟩ | ⟨g',cap',cur,e1,_,hg,_,_,hs,ht⟩
 ·cases e1
 injection e1 with e1 e2 e3;injection e1 with e1;injection e1 with e1;subst e1;subst e3;subst hn;rw[hg,<-ht,LP]
 congr 2
 rw[cw (by simp[hs])]
theorem iO {P:tG} (w:ag) {ops:Array fL} {rest:List fL} {o:fL} {a:Act} {Q:Exit->Act->ag->Prop}
  (hg:o.guard=none) (l c:Operand) (t:bn) (hop:o.op=Op.makeSlice t l c)
  (e:bn) (i:TypeInfo) (k:dB) (h1:P.underlying t=some (.slice e)) (h2:P.info? e=some i) (h3:i.zero=some (.int k 0)) (h4:i.size=1)
  (kl kc:dB) (L C:Int) (n:Nat) (hl:a.eval l=.int kl L) (hc:a.eval c=.int kc C) (hL:L=(n:Int)) (hC:C=(n:Int)) (b2:i.bytes<=8) (b3:n<=35184372088832)
  (hK:∀ w',pR w' w.heap.size k e (bJ n 0)->aA w.heap.size w w'->w.heap.size<w'.heap.size->qy P ops Q rest (a.put o.dst (.slice (some ⟨w.heap.size,0,none⟩) n n)) w') :
  qy P ops Q (o::rest) a w:=by
 have hb:i.bytes*n<=281474976710656:=ah (iU b2 b3) (by omega);refine wpList_make_full w hg l c t hop w.heap.size e i (.int k 0) 1 h1 h2 h3 h4 kl kc L C n hl hc hL hC hb (by unfold maxLen;omega) (ai _) ?_;intro w' ho mP;have hh:=BW ho rfl
 have hB:pR w' w.heap.size k e (bJ n 0):=by
  unfold pR;rw[hh]
  have:(madeCells (Value.cells (.int k 0)) (n*1)).toList=bJ n (.int k 0):=by
   rw[LP];exact toList_madeCells_one _ _
  rw[this]
  simp
 exact hK w' hB ⟨mP.os,mP.tape,mP.output,mP.size,fun j hj=>mP.block j hj (by simp)⟩ hB.lt
theorem Dq {w:ag} {k:dB} {sp:Option cB} {n c:Nat} {xs:List Nat} (h:Sl w k (.slice sp n c) xs) (m:Nat) (hm:m<=xs.length) (h0:0<m) :
  ∃ ad,sp=some ad/\∀ j v,((xs.take m).map fun (x:Nat)=>fm k ((x:Nat):Int))[j]?=some v->w.cell? (ad.add j)=some v:=by
 obtain⟨ao,cap,e,h1,h2,h3,h4⟩:=h;injection e with e1 e2 e3;subst e1;obtain⟨a,rfl,_⟩:=h4 0 (by omega);refine⟨a,rfl,fun j v hj=>?_⟩
 have lN:j<m:=by
  have:=(List.getElem?_eq_some_iff.1 hj).1
  simp at this;omega
 obtain⟨b,e,q⟩:=h4 j (by omega);injection e with e;subst e;rw[q,<-hj]
 simp[lN,BC (show j<xs.length by omega),show j<xs.length by omega]
theorem rT {w:ag} {k:dB} {sp:Option cB} {n c:Nat} {xs:List Nat} (h:Sl w k (.slice sp n c) xs):n=xs.length:=by
 obtain⟨ao,cap,e,_⟩:=h;injection e
theorem Kq (k:dB) (xs:List Nat):∀ u ∈ (xs.map fun (x:Nat)=>fm k ((x:Nat):Int)),u.oneCell'=true:=by
 intro u hu;obtain⟨x,_,rfl⟩:=List.mem_map.1 hu
 rfl
theorem xJ {P:tG} {w:ag} {ops:Array fL} {rest:List fL} {o:fL} {a:Act} {Q:Exit->Act->ag->Prop} (hgd:o.guard=none) (d s:Operand) (dT sT:bn)
  (ho:o.op=.call { callee:=.builtin .copy,args:=#[d,s],argTypes:=#[dT,sT] }) (elem:bn) (hu:P.underlying dT=some (.slice elem)) (hsz:(P.info? elem).map (·.size)=some 1)
  (g n dCap:Nat) (sp:Option cB) (sLen sCap:Nat) (hd:a.eval d=.slice (some ⟨g,0,none⟩) n dCap) (hs:a.eval s=.slice sp sLen sCap)
  (k:dB) (T:bn) (l xs:List Nat) (hB:pR w g k T l) (hn:n=l.length) (hx:Sl w k (.slice sp sLen sCap) xs) (hle:xs.length<=n)
  (B:Nat) (w0:ag) (hb:aA B w0 w) (hBg:B<=g)
  (h:∀ w',pR w' g k T (xs++l.drop xs.length)->aA B w0 w'->qy P ops Q rest (a.put o.dst (.int .i64 xs.length)) w') :
  qy P ops Q (o::rest) a w:=by
 have FO:=rT hx;have hmin:Nat.min sLen n=xs.length:=by rw[FO];exact cX hle
 refine wpList_copy_splice hgd d s dT sT ho elem hu hsz (some ⟨g,0,none⟩) sp n dCap sLen sCap hd hs g 0 (l.map fun (x:Nat)=>fm k ((x:Nat):Int)) T hB (xs.map fun (x:Nat)=>fm k ((x:Nat):Int)) (by rw[hmin];simp) ?_ (by simp;omega) (Kq k xs) B w0 hb hBg ?_
 ·intro h0;refine⟨rfl,?_⟩;have:=Dq hx xs.length (ai _) (by simpa using h0)
  rwa [bK] at this
 intro w' hh hb'
 have:=h w' (by
  unfold pR;rw[hh.out]
  congr 2
  simp[splice]) hb'
 simpa [goInt] using this
def Ow (w:ag) (base:Nat) (k:dB) (T:bn) (v:aq) (xs:List Nat):Prop:=
 w.ownsRow base T 1 v xs.length (xs.map fun (x:Nat)=>fm k ((x:Nat):Int))
theorem Ow.nil (w:ag) (base:Nat) (k:dB) (T:bn):Ow w base k T (.slice none 0 0) []:=World.ownsRow_nil w base T 1
theorem Ow.alloc {w:ag} {base:Nat} {k:dB} {T:bn} {v:aq} {xs:List Nat} (h:Ow w base k T v xs) (o:Obj):Ow (w.alloc o) base k T v xs:=World.ownsRow.alloc h o
theorem Ow.sl {w:ag} {base:Nat} {k:dB} {T:bn} {v:aq} {xs:List Nat} (h:Ow w base k T v xs):Sl w k v xs:=by
 have h':=h;obtain⟨h1,h2⟩:=h;rcases h2 with ⟨rfl,h2⟩ | ⟨g,cap,cur,rfl,hb,hg,hn,hm,hs,ht⟩
 ·have:xs=[]:=gK h2;subst this;exact Sl.nil _ _
 refine⟨some ⟨g,0,none⟩,cap,rfl,hn,by unfold maxLen at hm;omega,(fun e=>by cases e),fun i hi=>⟨_,rfl,?_⟩⟩;rw[Cb,fM,World.ownsRow.cellAt h' i (by omega)]
 simp[hi,BC hi]
theorem Ow.Gi {w:ag} {base:Nat} {k:dB} {T:bn} {v:aq} {xs:List Nat} (h:Ow w base k T v xs):∀ j,v.ownBlock=some j->base<=j:=fun j hj=>(World.ownsRow.lt h j hj).1
theorem uG {P:tG} (w:ag) {ops:Array fL} {rest:List fL} {o:fL} {a:Act} {Q:Exit->Act->ag->Prop} (hgd:o.guard=none) (s x:Operand) (t:bn)
  (ho:o.op=.call { callee:=.builtin .append,args:=#[s,x],argTypes:=#[t,t] })
  (e:bn) (i:TypeInfo) (k:dB) (ht:P.underlying t=some (.slice e)) (hi:P.info? e=some i) (hz:i.zero=some (.int k 0)) (hsize:i.size=1) (hby:i.bytes<=8)
  (base:Nat) (v:aq) (xs:List Nat) (hs:a.eval s=v) (hown:Ow w base k e v xs)
  (h:Nat) (z:Int) (n:Nat) (hx:a.eval x=.slice (some ⟨h,0,none⟩) 1 1) (hc:w.cell? ⟨h,0,none⟩=some (.int k z)) (WL:z=(n:Int))
  (hlen:xs.length<=1000000000) (hbase:base<=w.heap.size)
  (hK:∀ v' w',Ow w' base k e v' (xs++[n])->aA base w w'->qy P ops Q rest (a.put o.dst v') w'):qy P ops Q (o::rest) a w:=by
 have dI:(xs.length+1)*i.bytes<=140737488355328:=ah (iU (show xs.length+1<=1000000001 by omega) hby) (by omega);refine wpList_append_own w hgd s x t ho base e i (.int k 0) 1 i.bytes ht hi hz hsize rfl rfl (by decide) v xs.length _ hs hown ⟨h,0,none⟩ 1 1 [.int k z] hx rfl ?_ ?_ (by unfold maxLen;omega) dI hbase ?_
 ·intro j u hj
  match j,hj with
  | 0,hj=>simp at hj;subst hj;simpa [nM] using hc
 ·intro u hu;simp at hu;subst hu;rfl
 intro v' w' h1 h2 _;refine hK v' w' ?_ ⟨h2.os,h2.tape,h2.output,h2.size,fun j hj=>h2.block j (by omega) (fun e'=>?_)⟩
 ·unfold Ow;have:(xs++[n]).map (fun (x:Nat)=>fm k ((x:Nat):Int))=xs.map (fun (x:Nat)=>fm k ((x:Nat):Int))++[.int k z]:=by rw[WL];simp
  rw[this,eY];exact h1
 have:=hown.Gi j e'.symm
 omega
def zN (x y c:Int):Int:=if x<y+c then 1 else 0
theorem AI (n:Nat) (h:n<4294967296):n / 2147483648=(n.testBit 31).toNat:=by
 rw[Nat.testBit_eq_decide_div_mod_eq];have:n / 2 ^ 31<2:=by omega
 rcases (show n / 2 ^ 31=0\/n / 2 ^ 31=1 by omega) with h | h<;>simp[h]<;>omega
theorem Fp (n:Nat) (h:n<4294967296):n.testBit 31=decide (2147483648<=n):=by
 have:=AI n h
 cases hb:n.testBit 31
 ·rw[hb] at this;simp at this ⊢;omega
 rw[hb] at this;simp at this ⊢;omega
theorem Ds (x y d:Nat) (hx:x<4294967296) (hy:y<4294967296) (hd:d<4294967296) :
  (((4294967295 ^^^ x) &&& y) ||| ((4294967295 ^^^ (x ^^^ y)) &&& d)) / 2147483648 =
   if (x<2147483648/\2147483648<=y)\/((x<2147483648 ↔ y<2147483648)/\2147483648<=d) then 1 else 0:=by
 have l1:(4294967295 ^^^ x)<2 ^ 32:=jg (by omega) (by omega);have l2:(x ^^^ y)<2 ^ 32:=jg (by omega) (by omega);have l3:(4294967295 ^^^ (x ^^^ y))<2 ^ 32:=jg (by omega) l2;have l4:(4294967295 ^^^ x) &&& y<2 ^ 32:=Nat.and_lt_two_pow _ (by omega);have l5:(4294967295 ^^^ (x ^^^ y)) &&& d<2 ^ 32:=Nat.and_lt_two_pow _ (by omega);rw[AI _ (Nat.or_lt_two_pow l4 l5)];simp only[Nat.testBit_or,Nat.testBit_and,Nat.testBit_xor];rw[Fp x hx,Fp y hy,Fp d hd,Fp 4294967295 (by omega)]
 by_cases a:x<2147483648<;>by_cases b:y<2147483648<;>by_cases c:2147483648<=d<;>simp[a,b,c,Nat.not_le.2,Nat.not_lt.1]<;>omega
theorem EW (x y c:Int) (hx:0<=x/\x<4294967296) (hy:0<=y/\y<4294967296) (hc:0<=c/\c<=1) :
  bits BinOp.or kW (bits BinOp.and kW (bits BinOp.xor kW IntKind.u32.max x) y)
        (bits BinOp.and kW (bits BinOp.xor kW IntKind.u32.max (bits BinOp.xor kW x y)) ((x - y - c) % 4294967296)) / 2147483648=zN x y c:=by
 obtain⟨X,rfl⟩:=Int.eq_ofNat_of_zero_le hx.1;obtain⟨Y,rfl⟩:=Int.eq_ofNat_of_zero_le hy.1;obtain⟨D,hD⟩:=Int.eq_ofNat_of_zero_le (show 0<=((X:Int) - Y - c) % 4294967296 by omega);have hX:X<4294967296:=by omega
 have hY:Y<4294967296:=by omega
 have ZX:D<4294967296:=by omega
 have em:IntKind.u32.max=((4294967295:Nat):Int):=by decide
 have l1:(4294967295 ^^^ X)<2 ^ 32:=jg (by omega) (by omega);have l2:(X ^^^ Y)<2 ^ 32:=jg (by omega) (by omega);have l3:(4294967295 ^^^ (X ^^^ Y))<2 ^ 32:=jg (by omega) l2;have l4:(4294967295 ^^^ X) &&& Y<2 ^ 32:=Nat.and_lt_two_pow _ (by omega);have l5:(4294967295 ^^^ (X ^^^ Y)) &&& D<2 ^ 32:=Nat.and_lt_two_pow _ (by omega);rw[hD,em,u32_xor_nat _ _ (by omega) hX,u32_xor_nat X Y hX hY,u32_xor_nat _ _ (by omega) (by omega),u32_and_nat _ _ (by omega) hY,u32_and_nat _ _ (by omega) ZX,u32_or_nat _ _ (by omega) (by omega)];have hb:=Ds X Y D hX hY ZX;have e:((((4294967295 ^^^ X) &&& Y ||| (4294967295 ^^^ (X ^^^ Y)) &&& D:Nat):Int)) / 2147483648=(((((4294967295 ^^^ X) &&& Y) ||| ((4294967295 ^^^ (X ^^^ Y)) &&& D)) / 2147483648:Nat):Int):=by omega
 rw[e,hb];unfold zN
 by_cases h:(X:Int)<Y+c
 ·rw[if_pos h,if_pos (by omega)];rfl
 rw[if_neg h,if_neg (by omega)];rfl
theorem Bg (x y c:Int) (w:ag) (hx:0<=x/\x<4294967296)  (hy:0<=y/\y<4294967296) (hc:0<=c/\c<=1) :
  aW aj 180 #[.int .u32 x,.int .u32 y,.int .u32 c] w fun e w'=>e=.returned (.tuple #[.int .u32 ((x+y+c) % 4294967296),.int .u32 ((x+y+c) / 4294967296)])/\w=w':=by
 go_enter Tryz.func180,Tryz.ntmps180
 go_wp2
 go_ret2
 exact⟨rfl,rfl⟩
theorem sU (x y c:Int) (w:ag) (hx:0<=x/\x<4294967296)  (hy:0<=y/\y<4294967296) (hc:0<=c/\c<=1) :
  aW aj 181 #[.int .u32 x,.int .u32 y,.int .u32 c] w fun e w'=>e=.returned (.tuple #[.int .u32 ((x - y - c) % 4294967296),.int .u32 (zN x y c)])/\w=w':=by
 have hb:=aa (EW x y c hx hy hc);go_enter Tryz.func181,Tryz.ntmps181
 go_wp2
 all_goals first
  | (go_ret2;exact⟨by rw[<-hb.out];rfl,rfl⟩)
  | (exfalso;rename_i h;exact h rfl)
theorem eA (ao:Option cB) (n cap:Nat) (xs:List Nat) (w:ag) (h:Sl w .u32 (.slice ao n cap) xs) :
  aW aj 144 #[.slice ao n cap] w fun e w'=>e=.returned (.slice ao (nz xs) cap)/\w=w':=by
 have H:=aa h;obtain⟨QU,cap',e,h1,h2,h3,h4⟩:=h;injection e with e1 e2 e3;subst e1;subst e2;subst e3;go_enter Tryz.func144,Tryz.ntmps144
 go_wp2
 go_loop [3] (fun n=>∃ k:Nat,k<=xs.length/\n=.int .i64 k/\Hid (nz (xs.take k)=nz xs)) (fun n=>(ei n).toNat)
 case atStart=>exact⟨xs.length,ai _,rfl,aa (by rw[bK])⟩
 case round =>
  obtain⟨k,hk,rfl,Hn⟩:=hrel
  by_cases h0:0<k
  ·obtain⟨a,rfl,g⟩:=h4 (k-1) (by omega);clear h4
   go_wp2
   ·have hz:(nth xs (k - 1)==0)=true:=by assumption
    go_round
    case rel=>exact⟨k - 1,by omega,by go_num,aa (by rw[<-Hn.out,<-BB (k:=k - 1) (by omega) (by have:=BC (xs:=xs) (i:=k - 1) (by omega);simp at hz;unfold nth at hz;omega),show k - 1+1=k by omega])⟩
    case measure=>simp[ei];omega
   have hz:(nth xs (k - 1)==0)=false:=by assumption
   have hk':k=nz xs:=by
    rw[<-Hn.out,show k=(k - 1)+1 by omega,PO (by omega) (by simp at hz;unfold nth at hz;omega)]
   subst hk';go_ret
   exact⟨rfl,rfl⟩
  have hk':k=nz xs:=by
   rw[<-Hn.out,show k=0 by omega];rfl
  have HK:=aa hk';clear hk';have pe:k=0:=by omega
  subst pe
  go_wp2
  go_ret
  exact⟨by rw[<-HK.out];rfl,rfl⟩
def me (ao:Option cB) (cap:Nat) (xs:List Nat):aq:=if nz xs=0 then .slice none 0 0 else .slice ao (nz xs) cap
theorem wL (ao:Option cB) (n cap:Nat) (xs:List Nat) (w:ag) (h:Sl w .u32 (.slice ao n cap) xs) :
  aW aj 138 #[.slice ao n cap] w fun e w'=>e=.returned (me ao cap xs)/\w=w':=by
 by_cases h0:nz xs=0
 ·have H0:=aa h0;clear h0;have hz:(((nz xs:Nat):Int)==0)=true:=by rw[H0.out];rfl
  go_enter Tryz.func138,Tryz.ntmps138
  go_wp2_with (go_at_call 144;refine (eA _ _ _ _ _ h).mono ?_;rintro e w' ⟨rfl,rfl⟩)
  go_ret
  exact⟨by unfold me;rw[if_pos H0.out];rfl,rfl⟩
 have hz:(((nz xs:Nat):Int)==0)=false:=by simp;omega
 go_enter Tryz.func138,Tryz.ntmps138
 go_wp2_with (go_at_call 144;refine (eA _ _ _ _ _ h).mono ?_;rintro e w' ⟨rfl,rfl⟩)
 go_ret
 exact⟨by unfold me;rw[if_neg h0];rfl,rfl⟩
theorem vS:(Tryz.prog.info? 153).map (fun i=>(i.zero,i.size,i.bytes))=some (some (.int .u32 0),1,4):=by kernel_rfl
theorem Px:(Tryz.prog.info? 153).map (·.size)=some 1:=by kernel_rfl
theorem mg (ao:Option cB) (m cap:Nat) (xs:List Nat) (n:Nat) (z:Int) (w:ag) (h:Sl w .u32 (.slice ao m cap) xs) (hn:xs.length<=n) (hb:n<=1073741824) (WL:z=(n:Int)) :
  aW aj 146 #[.slice ao m cap,.int .i64 z] w fun e w'=>∃ v,e=.returned v/\Ws w' .u32 153 v w.heap.size [] (xs++bJ (n - xs.length) 0) []/\aA w.heap.size w w'/\(n≠0->w.heap.size<w'.heap.size):=by
 subst WL
 by_cases h0:n=0
 ·subst h0;have hx:xs=[]:=gK (by omega);subst hx;go_enter Tryz.func146,Tryz.ntmps146
  go_wp2
  go_ret
  exact⟨_,rfl,⟨none,0,rfl,by simp,by omega,fun _=>rfl,fun e=>by simp at e⟩,ax _ _,fun e=>absurd rfl e⟩
 obtain⟨i0,hi,hz0,gV,pJ⟩:=pS vS;have hz:(((n:Nat):Int)==0)=false:=by simp;omega
 go_enter Tryz.func146,Tryz.ntmps146
 go_wp2_with (at_make;refine iO _ rfl _ _ 24 rfl 153 i0 .u32 mF hi hz0 gV _ _ _ _ n rfl rfl rfl rfl ?b2 ?b3 ?_)
 case b2=>omega
 case b3=>omega
 intro w1 FX eH hs1;go_wp2_with (with_reducible refine xJ rfl (.tmp 10) (.tmp 11) 24 24 rfl 153 mF Px w.heap.size n n ao m cap rfl rfl .u32 153 _ xs FX ?c1 (h.below eH) hn w.heap.size w eH (ai _) ?_)
 case c1=>simp
 intro w2 NN dI
 go_wp2
 go_ret
 refine⟨_,rfl,?_,dI,fun _=>NN.lt⟩;refine⟨some ⟨w.heap.size,0,none⟩,n,?_,?_,by omega,(fun e=>by cases e),fun _=>⟨rfl,?_⟩⟩
 ·simp;omega
 ·simp;omega
 simpa using NN
theorem Js {B:Nat} (t ys:List Nat) (S k cc:Nat) (hy:k<ys.length) (ht:k<t.length) (h:val B t+cc*B ^ k=S+val B (ys.take k)) :
  val B (t.set k ((t.getD k 0+ys.getD k 0+cc) % B))+((t.getD k 0+ys.getD k 0+cc) / B)*B ^ (k+1)=S+val B (ys.take (k+1)):=by
 have h1:=kY B t k ((t.getD k 0+ys.getD k 0+cc) % B) ht;rw[gF B ys k hy];have h2:=ju (t.getD k 0+ys.getD k 0+cc) B;generalize (t.getD k 0+ys.getD k 0+cc) % B=r at *;generalize (t.getD k 0+ys.getD k 0+cc) / B=q at *;rw[cj]
 grind
theorem D6 {B:Nat} (t:List Nat) (S k cc:Nat) (ht:k<t.length) (h:val B t+cc*B ^ k=S) :
  val B (t.set k ((t.getD k 0+cc) % B))+((t.getD k 0+cc) / B)*B ^ (k+1)=S:=by
 have h1:=kY B t k ((t.getD k 0+cc) % B) ht;have h2:=ju (t.getD k 0+cc) B;generalize (t.getD k 0+cc) % B=r at *;generalize (t.getD k 0+cc) / B=q at *;rw[cj]
 grind
theorem Iq {B:Nat} {t:List Nat} {S n cc:Nat} (hd:eV B t) (hn:t.length=n) (h:val B t+cc*B ^ n=S):val B t=S % B ^ n:=by
 have h1:=eW hd;rw[hn] at h1;rw[<-h,DB,iB h1]
theorem wC (g:Nat) (pre s post ys:List Nat) (vs vb:aq) (w:ag) (hw:Ws w .u32 153 vs g pre s post) (hb:Sl w .u32 vb ys) (ha:ua g vb) (hl:ys.length<=s.length)
  (hs:eV 4294967296 s) (hy:eV 4294967296 ys) :
  aW aj 147 #[vs,vb] w fun e w'=>∃ s',e=.returned (.tuple #[])/\Ws w' .u32 153 vs g pre s' post/\w.grownBy w' (some g)/\s'.length=s.length/\eV 4294967296 s' /\
   val 4294967296 s'=(val 4294967296 s+val 4294967296 ys) % 4294967296 ^ s.length:=by
 obtain⟨ao,cap,rfl,h1,h2,h3,h4⟩:=hw;have HB:=aa hb;obtain⟨bo,QO,rfl,k1,k2,k3,k4⟩:=hb;go_enter Tryz.func147,Tryz.ntmps147
 go_wp2
 go_loopw [4,10] (fun c i wr=>∃ (k:Nat) (t:List Nat) (cc:Nat),i=.int .i64 k/\c=.int .u32 (cc:Int)/\cc<=1/\k<=ys.length/\w.grownBy wr (some g)/\Hid (t.length=s.length)/\eV 4294967296 t /\
   Fe wr .u32 153 ao g pre t post s.length /\
   Hid (val 4294967296 t+cc*4294967296 ^ k=val 4294967296 s+val 4294967296 (ys.take k)))
  (fun _ i _=>ys.length - (ei i).toNat)
 case atStart=>exact⟨0,s,0,rfl,rfl,by omega,by omega,aI _ _,aa rfl,hs,h4,aa (by simp[val])⟩
 case round =>
  obtain⟨k,t,cc,rfl,rfl,tj,hk,hg,Ht,rG,hB,HV⟩:=hrel
  by_cases hlt:k<ys.length
  ·obtain⟨b,rfl,hcb⟩:=k4 k hlt;obtain⟨rfl,sD⟩:=hB (by omega);have ng:k<t.length:=by have:=Ht.out;omega
   have NH:=(HB.out.grown hg ha).at hlt
   have hct:wr.cell? ⟨g,pre.length+k,none⟩=some (.int .u32 (nth t k)):=by
    rw[sD.cell (by simp;omega),nA _ _ _ _ ng]
   have hft:=sD.frozen (pre.length+k);have y1:=jq hy k;have t1:=jq rG k;clear hcb hB h4 k4;go_wp2_with (go_at_call 180;refine (Bg _ _ _ _ (by omega) (by omega) (by omega)).mono ?_;rintro e w' ⟨rfl,rfl⟩)
   go_roundw
   case rel =>
    refine⟨k+1,t.set k ((t.getD k 0+ys.getD k 0+cc) % 4294967296),(t.getD k 0+ys.getD k 0+cc) / 4294967296,by go_num,?_,?_,by omega,aF hg _,aa (by rw[bY];exact Ht.out),rG.set (by omega),fun _=>⟨rfl,?_⟩,aa (Js t ys _ k cc hlt ng HV.out)⟩
    ·congr 1
    ·unfold nth at y1 t1;omega
    rw[<-nn _ _ _ _ _ ng];exact sD.set _ _ _ (by unfold nth;omega)
   case measure=>simp[ei];omega
  have hkk:k=ys.length:=by omega
  subst hkk
  go_wp2
  clear hk hlt
  go_loopw [4,7] (fun c i w2=>∃ (j:Nat) (t:List Nat) (cc:Nat),i=.int .i64 j/\c=.int .u32 (cc:Int)/\cc<=1/\j<=s.length/\w.grownBy w2 (some g)/\Hid (t.length=s.length)/\eV 4294967296 t /\
    Fe w2 .u32 153 ao g pre t post s.length /\
    Hid (val 4294967296 t+cc*4294967296 ^ j=val 4294967296 s+val 4294967296 ys))
   (fun _ i _=>s.length - (ei i).toNat)
  case atStart=>exact⟨ys.length,t,cc,rfl,rfl,tj,hl,hg,Ht,rG,hB,aa (by rw[HV.out,bK])⟩
  case round =>
   clear hB HV rG Ht hg tj k4;obtain⟨k,t,cc,rfl,rfl,tj,hk,hg,Ht,rG,hB,HV⟩:=hrel
   by_cases hlt:0<cc/\k<s.length
   ·obtain⟨hc0,hlt⟩:=hlt;obtain⟨rfl,sD⟩:=hB (by omega);have ng:k<t.length:=by have:=Ht.out;omega
    have hct:wr.cell? ⟨g,pre.length+k,none⟩=some (.int .u32 (nth t k)):=by
     rw[sD.cell (by simp;omega),nA _ _ _ _ ng]
    have hft:=sD.frozen (pre.length+k);have t1:=jq rG k;clear hB h4;go_wp2_with (go_at_call 180;refine (Bg _ _ _ _ (by omega) (by omega) (by omega)).mono ?_;rintro e w' ⟨rfl,rfl⟩)
    go_roundw
    case rel =>
     refine⟨k+1,t.set k ((t.getD k 0+cc) % 4294967296),(t.getD k 0+cc) / 4294967296,by go_num,?_,?_,by omega,aF hg _,aa (by rw[bY];exact Ht.out),rG.set (by omega),fun _=>⟨rfl,?_⟩,aa (D6 t _ k cc ng HV.out)⟩
     ·congr 1
     ·unfold nth at t1;omega
     rw[<-nn _ _ _ _ _ ng];exact sD.set _ _ _ (by unfold nth;omega)
    case measure=>simp[ei];omega
   have hend:val 4294967296 t=(val 4294967296 s+val 4294967296 ys) % 4294967296 ^ s.length:=by
    by_cases h0:cc=0
    ·have hv:=HV.out;subst h0;rw[rK,pT] at hv;rw[<-hv,iB (by rw[<-Ht.out];exact eW rG)]
    have:k=s.length:=by omega
    subst this;exact Iq rG Ht.out HV.out
   have N7:=aa hend;clear hend;have oE:Ws wr .u32 153 (.slice ao s.length cap) g pre t post:=⟨ao,cap,by rw[Ht.out],by rw[Ht.out];exact h1,h2,h3,by rw[Ht.out];exact hB⟩
   clear h4
   by_cases hc0:0<cc
   ·go_wp2
    go_end0
    exact⟨t,rfl,oE,hg,Ht.out,rG,N7.out⟩
   go_wp2
   go_end0
   exact⟨t,rfl,oE,hg,Ht.out,rG,N7.out⟩
abbrev aG:Nat:=4294967296
theorem Jr {B:Nat} (t ys:List Nat) (S k cc v b:Nat) (hy:k<ys.length) (ht:k<t.length) (h:val B t+val B (ys.take k)=S+cc*B ^ k) (hv:v+ys.getD k 0+cc=t.getD k 0+b*B) :
  val B (t.set k v)+val B (ys.take (k+1))=S+b*B ^ (k+1):=by
 have h1:=kY B t k v ht;rw[gF B ys k hy,cj];generalize B ^ k=P at *;have h3:v*P+ys.getD k 0*P+cc*P=t.getD k 0*P+b*B*P:=by rw[<-dH,<-dH,hv,dH]
 grind
theorem CE {B:Nat} (t:List Nat) (S Y k cc v b:Nat) (ht:k<t.length) (h:val B t+Y=S+cc*B ^ k) (hv:v+cc=t.getD k 0+b*B) :
  val B (t.set k v)+Y=S+b*B ^ (k+1):=by
 have h1:=kY B t k v ht;rw[cj];generalize B ^ k=P at *;have h3:v*P+cc*P=t.getD k 0*P+b*B*P:=by rw[<-dH,hv,dH]
 grind
theorem tA (x y c:Nat) (hx:x<4294967296) (hy:y<4294967296) (hc:c<=1) :
  ∃ b:Nat,zN x y c=(b:Int)/\b<=1/\∃ v:Nat,((x:Int) - y - c) % 4294967296=(v:Int)/\v<4294967296/\v+y+c=x+b*4294967296:=by
 unfold zN
 by_cases h:(x:Int)<y+c
 ·rw[if_pos h];exact⟨1,rfl,by omega,(((x:Int) - y - c) % 4294967296).toNat,by omega,by omega,by omega⟩
 rw[if_neg h];exact⟨0,rfl,by omega,(((x:Int) - y - c) % 4294967296).toNat,by omega,by omega,by omega⟩
theorem CD (g:Nat) (pre s post ys:List Nat) (vs vb:aq) (w:ag) (hw:Ws w .u32 153 vs g pre s post) (hb:Sl w .u32 vb ys) (ha:ua g vb) (hl:ys.length<=s.length)
  (hs:eV 4294967296 s) (hy:eV 4294967296 ys) (hle:val 4294967296 ys<=val 4294967296 s) :
  aW aj 148 #[vs,vb] w fun e w'=>∃ s',e=.returned (.tuple #[])/\Ws w' .u32 153 vs g pre s' post/\w.grownBy w' (some g)/\s'.length=s.length/\eV 4294967296 s' /\
   val 4294967296 s'=val 4294967296 s - val 4294967296 ys:=by
 have Fg:=aa hle;clear hle;obtain⟨ao,cap,rfl,h1,h2,h3,h4⟩:=hw;have HB:=aa hb;obtain⟨bo,QO,rfl,k1,k2,k3,k4⟩:=hb;go_enter Tryz.func148,Tryz.ntmps148
 go_wp2
 go_loopw [4,10] (fun c i wr=>∃ (k:Nat) (t:List Nat) (cc:Nat),i=.int .i64 k/\c=.int .u32 (cc:Int)/\cc<=1/\k<=ys.length/\w.grownBy wr (some g)/\Hid (t.length=s.length)/\eV 4294967296 t /\
   Fe wr .u32 153 ao g pre t post s.length /\
   Hid (val 4294967296 t+val 4294967296 (ys.take k)=val 4294967296 s+cc*4294967296 ^ k))
  (fun _ i _=>ys.length - (ei i).toNat)
 case atStart=>exact⟨0,s,0,rfl,rfl,by omega,by omega,aI _ _,aa rfl,hs,h4,aa (by simp[val])⟩
 case round =>
  obtain⟨k,t,cc,rfl,rfl,tj,hk,hg,Ht,rG,hB,HV⟩:=hrel
  by_cases hlt:k<ys.length
  ·obtain⟨b,rfl,hcb⟩:=k4 k hlt;obtain⟨rfl,sD⟩:=hB (by omega);have ng:k<t.length:=by have:=Ht.out;omega
   have NH:=(HB.out.grown hg ha).at hlt
   have hct:wr.cell? ⟨g,pre.length+k,none⟩=some (.int .u32 (nth t k)):=by
    rw[sD.cell (by simp;omega),nA _ _ _ _ ng]
   have hft:=sD.frozen (pre.length+k);have y1:=jq hy k;have t1:=jq rG k;clear hcb hB h4 k4;go_wp2_with (go_at_call 181;refine (sU _ _ _ _ (by omega) (by omega) (by omega)).mono ?_;rintro e w' ⟨rfl,rfl⟩)
   go_roundw
   case rel =>
    obtain⟨b',e1,e2,v',e3,e4,e5⟩:=tA (t.getD k 0) (ys.getD k 0) cc (by unfold nth at t1;omega) (by unfold nth at y1;omega) tj;refine⟨k+1,t.set k v',b',by go_num,?_,e2,by omega,aF hg _,aa (by rw[bY];exact Ht.out),rG.set e4,fun _=>⟨rfl,?_⟩,aa (Jr t ys _ k cc v' b' hlt ng HV.out e5)⟩
    ·rw[<-e1];rfl
    rw[<-nn _ _ _ _ _ ng];exact sD.set _ _ _ e3
   case measure=>simp[ei];omega
  have hkk:k=ys.length:=by omega
  subst hkk
  go_wp2
  clear hk hlt
  go_loopw [4,7] (fun c i w2=>∃ (j:Nat) (t:List Nat) (cc:Nat),i=.int .i64 j/\c=.int .u32 (cc:Int)/\cc<=1/\j<=s.length/\w.grownBy w2 (some g)/\Hid (t.length=s.length)/\eV 4294967296 t /\
    Fe w2 .u32 153 ao g pre t post s.length /\
    Hid (val 4294967296 t+val 4294967296 ys=val 4294967296 s+cc*4294967296 ^ j))
   (fun _ i _=>s.length - (ei i).toNat)
  case atStart=>exact⟨ys.length,t,cc,rfl,rfl,tj,hl,hg,Ht,rG,hB,aa (by rw[<-HV.out,bK])⟩
  case round =>
   clear hB HV rG Ht hg tj k4;obtain⟨k,t,cc,rfl,rfl,tj,hk,hg,Ht,rG,hB,HV⟩:=hrel
   by_cases hc0:0<cc
   ·have hlt:k<s.length:=by
     rcases ir k s.length with h | h
     ·exact h
     exfalso
     have hk':k=s.length:=by omega
     have hv:=HV.out;have xj:=eW rG;have hle:=Fg.out;rw[Ht.out] at xj;rw[hk',show cc=1 by omega] at hv
     omega
    obtain⟨rfl,sD⟩:=hB (by omega);have ng:k<t.length:=by have:=Ht.out;omega
    have hct:wr.cell? ⟨g,pre.length+k,none⟩=some (.int .u32 (nth t k)):=by
     rw[sD.cell (by simp;omega),nA _ _ _ _ ng]
    have hft:=sD.frozen (pre.length+k);have t1:=jq rG k;clear hB h4;go_wp2_with (go_at_call 181;refine (sU _ _ _ _ (by omega) (by omega) (by omega)).mono ?_;rintro e w' ⟨rfl,rfl⟩)
    go_roundw
    case rel =>
     obtain⟨b',e1,e2,v',e3,e4,e5⟩:=tA (t.getD k 0) 0 cc (by unfold nth at t1;omega) (by omega) tj;refine⟨k+1,t.set k v',b',by go_num,?_,e2,by omega,aF hg _,aa (by rw[bY];exact Ht.out),rG.set e4,fun _=>⟨rfl,?_⟩,aa (CE t _ _ k cc v' b' ng HV.out (by omega))⟩
     ·rw[<-e1];rfl
     rw[<-nn _ _ _ _ _ ng];exact sD.set _ _ _ (by rw[<-e3];unfold nth;omega)
    case measure=>simp[ei];omega
   have hend:val 4294967296 t=val 4294967296 s - val 4294967296 ys:=by
    have hv:=HV.out;rw[show cc=0 by omega,rK,pT] at hv
    omega
   have N7:=aa hend;clear hend;have oE:Ws wr .u32 153 (.slice ao s.length cap) g pre t post:=⟨ao,cap,by rw[Ht.out],by rw[Ht.out];exact h1,h2,h3,by rw[Ht.out];exact hB⟩
   clear h4
   go_wp2
   go_end0
   exact⟨t,rfl,oE,hg,Ht.out,rG,N7.out⟩
def nG (a b:Nat):Int:=if a<b then -1 else if a=b then 0 else 1
theorem Gf {xs ys:List Nat} (hx:eV aG xs) (hy:eV aG ys) (h:nz xs<nz ys):val aG xs<val aG ys:=by
 have h1:=fx (B:=aG) (by decide) hx;have h2:=fx (B:=aG) (by decide) hy;exact az (vP (B:=aG) (k:=nz xs) (by decide) (by omega)) (BD (by decide) (by omega))
theorem jB (B:Nat) (xs:List Nat) (k:Nat) (h:k<=xs.length):val B xs=val B (xs.take k)+B ^ k*val B (xs.drop k):=by
 have:=mb B (xs.take k) (xs.drop k);rw[o7] at this;rw[this,aX,cX h]
theorem Ge {B:Nat} {xs ys:List Nat} {k:Nat} (hx:eV B xs) (hk:k<xs.length) (hk':k<ys.length) (he:xs.drop (k+1)=ys.drop (k+1)) (h:xs.getD k 0<ys.getD k 0):val B xs<val B ys:=by
 rw[jB B xs (k+1) (by omega),jB B ys (k+1) (by omega),he,gF B xs k hk,gF B ys k hk'];have h1:=eW (hx.take k);rw[aX,cX (by omega)] at h1;have h2:(xs.getD k 0+1)*B ^ k<=ys.getD k 0*B ^ k:=aV _ h;rw[dH,Nat.one_mul] at h2
 omega
theorem It {xs ys:List Nat} {k:Nat} (hk:k<xs.length) (hk':k<ys.length) (he:xs.drop (k+1)=ys.drop (k+1)) (h:xs.getD k 0=ys.getD k 0):xs.drop k=ys.drop k:=by
 rw[iw hk,iw hk',he]
 congr 1
 simpa [dW,hk,hk'] using h
theorem yf {a b:Nat} (h:a<b):nG a b = -1:=by unfold nG;rw[if_pos h]
theorem Gg {a b:Nat} (h:b<a):nG a b=1:=by unfold nG;rw[if_neg (by omega),if_neg (by omega)]
theorem N1 {a b:Nat} (h:a=b):nG a b=0:=by unfold nG;rw[if_neg (by omega),if_pos h]
theorem ij (w:ag) (n:Nat) (B:Nat):aA B w (w.drewN n):=⟨rfl,rfl,rfl,ai _,fun _ _=>rfl⟩
theorem xD {P:tG} {f:FuncId} {args:Array aq} {w:ag} {a b:Nat} {v:aq} (h:∀ W:ag,aW P f args W fun e w'=>e=.returned v/\w'=W) :
  aW P f args (w.drewN (a+b)) fun e w'=>e=.returned v/\∃ m,w'=w.drewN (a+m):=
 (h (w.drewN (a+b))).mono fun _ _ hh=>⟨hh.1,b,hh.2⟩
theorem Fz (w:ag):aW aj 145 #[.bool true] w fun e w'=>e=.returned (.int .i64 (-1))/\w'=w:=by
 go_enter Tryz.func145,Tryz.ntmps145
 go_wp2
 go_ret
 exact⟨rfl,rfl⟩
theorem FA (w:ag):aW aj 145 #[.bool false] w fun e w'=>e=.returned (.int .i64 1)/\w'=w:=by
 go_enter Tryz.func145,Tryz.ntmps145
 go_wp2
 go_ret
 exact⟨rfl,rfl⟩
theorem tu (va vb:aq) (xs ys:List Nat) (w:ag) (hx:Sl w .u32 va xs) (hy:Sl w .u32 vb ys) (dx:eV aG xs) (dy:eV aG ys) :
  aW aj 96 #[va,vb] w fun e w'=>e=.returned (.int .i64 (nG (val aG xs) (val aG ys)))/\aA w.heap.size w w':=by
 have HX:=aa hx;have HY:=aa hy;obtain⟨ao,ac,rfl,a1,a2,a3,a4⟩:=hx;obtain⟨bo,bc,rfl,b1,b2,b3,b4⟩:=hy;have nx:=gT xs;have ny:=gT ys
 by_cases hne:nz xs=nz ys
 ·have W7:(((nz xs:Nat):Int) != ((nz ys:Nat):Int))=false:=by simp[hne]
  have HN:=aa hne;clear hne;have hny:nz xs<=nz ys/\nz ys<=nz xs:=by have:=HN.out;omega
  go_enter Tryz.func96,Tryz.ntmps96
  go_wp2_with fail
  refine (eA _ _ _ xs _ HX.out).mono ?_;rintro e w' ⟨rfl,rfl⟩;go_wp2_with fail
  refine (eA _ _ _ ys _ HY.out).mono ?_;rintro e w' ⟨rfl,rfl⟩;go_wp2_with fail
  go_loopw [5] (fun i wr=>∃ k:Nat,k<=nz xs/\i=.int .i64 ((k:Int) - 1)/\Hid ((xs.take (nz xs)).drop k=(ys.take (nz ys)).drop k)/\aA w.heap.size w wr) (fun i _=>(ei i+1).toNat)
  case atStart=>exact⟨nz xs,ai _,rfl,aa (by rw[HN.out,gP (by simp;omega),gP (by simp;omega)]),ax _ _⟩
  case round =>
   obtain⟨k,hk,rfl,HD,hb⟩:=hrel
   by_cases h0:0<k
   ·obtain⟨a,rfl,hca⟩:=a4 (k - 1) (by omega);obtain⟨b,rfl,hcb⟩:=b4 (k - 1) (by omega);have aJu:wr.cell? (a.add (k - 1))=some (.int .u32 (nth xs (k - 1))):=by rw[hb.cell (cu hca)];exact hca
    have NH:wr.cell? (b.add (k - 1))=some (.int .u32 (nth ys (k - 1))):=by rw[hb.cell (cu hcb)];exact hcb
    have gx:(xs.take (nz xs)).getD (k - 1) 0=xs.getD (k - 1) 0:=by simp[dW,show k - 1<nz xs by omega]
    have gy:(ys.take (nz ys)).getD (k - 1) 0=ys.getD (k - 1) 0:=by simp[dW,show k - 1<nz ys by omega]
    have lx:(xs.take (nz xs)).length=nz xs:=by simp;omega
    have ly:(ys.take (nz ys)).length=nz ys:=by simp;omega
    have YK:Hid ((xs.take (nz xs)).drop (k - 1+1)=(ys.take (nz ys)).drop (k - 1+1)):=aa (by rw[show k - 1+1=k by omega];exact HD.out);have GX:=aa gx;have GY:=aa gy;have LX:=aa lx;have LY:=aa ly;clear gx gy lx ly hca hcb a4 b4
    by_cases he:xs.getD (k - 1) 0=ys.getD (k - 1) 0
    ·have he':(nth xs (k - 1) != nth ys (k - 1))=false:=by simp only[nth,he];exact bne_self_eq_false _
     have HE:=aa he;clear he;go_wp2_with fail
     go_quiet (fail)
     go_wp2_with fail
     go_roundw
     case rel=>exact⟨k - 1,by omega,by go_num,aa (It (by have:=LX.out;omega) (by have:=LY.out;omega) YK.out (by rw[GX.out,GY.out,HE.out])),hb.trans (ij _ _ _)⟩
     case measure=>simp[ei];omega
    have he':(nth xs (k - 1) != nth ys (k - 1))=true:=by simp only[nth,bne_iff_ne];omega
    rcases Nat.lt_or_gt_of_ne he with hlt | hgt
    ·have hd:nth xs (k - 1)<nth ys (k - 1):=by unfold nth;omega
     have oE:nG (val aG xs) (val aG ys) = -1:=by
      have:=Ge (B:=aG) (dx.take (nz xs)) (ys:=ys.take (nz ys)) (k:=k - 1) (by have:=LX.out;omega) (by have:=LY.out;omega) YK.out (by rw[GX.out,GY.out];exact hlt);rw[ck (by decide) dx,ck (by decide) dy] at this;exact yf this
     have HF:=aa oE;clear he hlt oE;go_wp2_with fail
     go_quiet (fail)
     go_wp2_with fail
     go_quiet ((go_at_call 145;exact xD Fz))
     go_wp2_with fail
     go_ret
     exact⟨by rw[HF.out];rfl,(hb.trans (ij _ _ _)).trans (ij _ _ _)⟩
    have hd:nth ys (k - 1)<nth xs (k - 1):=by unfold nth;omega
    have hd':decide (nth xs (k - 1)<nth ys (k - 1))=false:=by simp;omega
    have oE:nG (val aG xs) (val aG ys)=1:=by
     have:=Ge (B:=aG) (dy.take (nz ys)) (ys:=xs.take (nz xs)) (k:=k - 1) (by have:=LY.out;omega) (by have:=LX.out;omega) YK.out.symm (by rw[GX.out,GY.out];exact hgt);rw[ck (by decide) dx,ck (by decide) dy] at this;exact Gg this
    have HF:=aa oE;clear he hgt oE;go_wp2_with fail
    go_quiet (fail)
    go_wp2_with fail
    go_quiet ((go_at_call 145;exact (xD FA)))
    go_wp2_with fail
    go_ret
    exact⟨by rw[HF.out];rfl,(hb.trans (ij _ _ _)).trans (ij _ _ _)⟩
   have oE:nG (val aG xs) (val aG ys)=0:=by
    have hd:=HD.out;rw[show k=0 by omega,cx,cx] at hd;exact N1 (by rw[<-ck (by decide) dx,hd,ck (by decide) dy])
   have HF:=aa oE;clear oE;go_wp2_with fail
   go_ret
   exact⟨by rw[HF.out];rfl,hb⟩
 have W7:(((nz xs:Nat):Int) != ((nz ys:Nat):Int))=true:=by rw[bne_iff_ne];omega
 rcases Nat.lt_or_gt_of_ne hne with hlt | hgt
 ·have HF:=aa (yf (Gf dx dy hlt));clear hne;go_enter Tryz.func96,Tryz.ntmps96
  go_wp2_with fail
  refine (eA _ _ _ xs _ HX.out).mono ?_;rintro e w' ⟨rfl,rfl⟩;go_wp2_with fail
  refine (eA _ _ _ ys _ HY.out).mono ?_;rintro e w' ⟨rfl,rfl⟩;go_wp2_with fail
  refine (Fz _).mono ?_;rintro e w' ⟨rfl,rfl⟩;go_wp2_with fail
  go_ret
  exact⟨by rw[HF.out];rfl,ax _ _⟩
 have HF:=aa (Gg (Gf dy dx hgt));have hd:decide (nz xs<nz ys)=false:=by simp;omega
 clear hne;go_enter Tryz.func96,Tryz.ntmps96
 go_wp2_with fail
 refine (eA _ _ _ xs _ HX.out).mono ?_;rintro e w' ⟨rfl,rfl⟩;go_wp2_with fail
 refine (eA _ _ _ ys _ HY.out).mono ?_;rintro e w' ⟨rfl,rfl⟩;go_wp2_with fail
 refine (FA _).mono ?_;rintro e w' ⟨rfl,rfl⟩;go_wp2_with fail
 go_ret
 exact⟨by rw[HF.out];rfl,ax _ _⟩
theorem p9 {w:ag} {k:dB} {v:aq} {xs:List Nat} (h:Sl w k v xs) {g:Nat} (hg:w.heap.size<=g):ua g v:=by
 obtain⟨ao,cap,rfl,h1,h2,h3,h4⟩:=h;intro a n c e hb;injection e with e1 e2 e3;subst e2;rcases bQ xs.length with h0 | h0
 ·exact h0
 obtain⟨a',e,hc⟩:=h4 0 h0;have:=cu hc;rw[e1] at e;injection e with e;subst e;have hb':(a.add 0).block=a.block:=by unfold nM;split<;>rfl
 omega
theorem D2 {w:ag} {ao:Option cB} {n cap:Nat} {xs:List Nat} (h:Sl w .u32 (.slice ao n cap) xs) (hd:eV aG xs):Sl w .u32 (me ao cap xs) (fJ aG (val aG xs)):=by
 rw[<-qE (by decide) hd];unfold me
 by_cases h0:nz xs=0
 ·rw[if_pos h0,h0];exact Sl.nil _ _
 rw[if_neg h0];exact h.take _ (gT xs)
theorem Ws.at {w:ag} {k:dB} {T:bn} {v:aq} {g:Nat} {pre s post:List Nat} (h:Ws w k T v g pre s post):∃ ao cap,v=.slice ao s.length cap:=by
 obtain⟨ao,cap,e,_⟩:=h;exact⟨ao,cap,e⟩
theorem jC (v:aq) (xs:List Nat) (w:ag) (h:Sl w .u32 v xs) (hd:eV aG xs) :
  aW aj 138 #[v] w fun e w'=>∃ v',e=.returned v'/\Sl w .u32 v' (fJ aG (val aG xs))/\w=w':=by
 obtain⟨ao,cap,rfl⟩:∃ ao cap,v=.slice ao xs.length cap:=by obtain⟨ao,cap,e,_⟩:=h;exact⟨ao,cap,e⟩
 exact (wL _ _ _ xs _ h).mono fun e w' ⟨he,hw⟩=>⟨_,he,D2 h hd,hw⟩
theorem fP {B:Nat} {a b:ag} {g:Nat} (h:a.grownBy b (some g)) (hg:B<=g) (hB:B<=a.heap.size:=by omega):aA B a b:=
 ⟨h.os,h.tape,h.output,h.size,fun k hk=>h.block k (by omega) (fun e=>by injection e with e;omega)⟩
theorem mu (B:Nat) (xs:List Nat) (n:Nat):val B (xs++bJ n 0)=val B xs:=by
 rw[mb,iK];simp
theorem N5 (va vb:aq) (xs ys:List Nat) (w:ag) (hx:Sl w .u32 va xs) (hy:Sl w .u32 vb ys) (dx:eV aG xs) (dy:eV aG ys) (lx:xs.length<=1000000) (ly:ys.length<=1000000) :
  aW aj 97 #[va,vb] w fun e w'=>∃ v,e=.returned v/\Sl w' .u32 v (fJ aG (val aG xs+val aG ys))/\aA w.heap.size w w':=by
 obtain⟨ao,ac,rfl⟩:∃ ao cap,va=.slice ao xs.length cap:=by obtain⟨ao,cap,e,_⟩:=hx;exact⟨ao,cap,e⟩
 obtain⟨bo,bc,rfl⟩:∃ ao cap,vb=.slice ao ys.length cap:=by obtain⟨ao,cap,e,_⟩:=hy;exact⟨ao,cap,e⟩
 have nx:=gT xs;have ny:=gT ys;have hx':=hx.take (nz xs) nx;have hy':=hy.take (nz ys) ny;have Cn:=dx.take (nz xs);have Ma:=dy.take (nz ys);have ex:(xs.take (nz xs)).length=nz xs:=by simp;omega
 have ey:(ys.take (nz ys)).length=nz ys:=by simp;omega
 have EX:=aa ex;have EY:=aa ey;clear ex ey
 -- what stands behind the two cuts, for the longer one first
 have fin:∀ (s s' zs:List Nat),eV aG s->eV aG zs->zs.length<=s.length->s'.length=s.length+1->eV aG s'->val aG s'=(val aG (s++bJ 1 0)+val aG zs) % aG ^ (s.length+1)->val aG s+val aG zs=val aG xs+val aG ys ->
   fJ aG (val aG s')=fJ aG (val aG xs+val aG ys):=by
  intro s s' zs h1 h2 h3 h4 h5 h6 h7;rw[h6,mu,h7];rw[iB];rw[<-h7];have a1:=eW h1;have a2:=eW h2;have a3:aG ^ zs.length<=aG ^ s.length:=cf (by decide) h3;rw[cj];have:aG ^ s.length*2<=aG ^ s.length*aG:=fk _ (by decide)
  omega
 have vx:=ck (B:=aG) (by decide) dx;have vy:=ck (B:=aG) (by decide) dy;have VX:=aa vx;have VY:=aa vy;clear vx vy;have FIN:=aa fin;clear fin
 by_cases hlt:nz xs<nz ys
 ·go_enter Tryz.func97,Tryz.ntmps97
  go_wp2_with fail
  refine (eA _ _ _ xs _ hx).mono ?_;rintro e w' ⟨rfl,rfl⟩;go_wp2_with fail
  refine (eA _ _ _ ys _ hy).mono ?_;rintro e w' ⟨rfl,rfl⟩;go_wp2_with fail
  refine (mg bo _ bc _ (nz ys+1) _ w hy' (by rw[EY.out];omega) (by omega) (by omega)).mono ?_;rintro e w1 ⟨v1,rfl,hs1,eH,gV⟩;have hsz:=gV (by omega);go_wp2_with fail
  refine (wC w.heap.size [] _ [] _ _ _ w1 hs1 (hx'.below eH) (p9 hx' (ai _)) ?_ (Ma.append (eV.replicate (by decide) _)) Cn).mono ?_
  ·rw[EX.out,eY,EY.out];simp;omega
  rintro e w2 ⟨s',rfl,FP,fK,C6,Ev,xj⟩;have dI:aA w.heap.size w w2:=eH.trans (fP fK (ai _));have I6:=aa C6;have Cq:=aa xj;clear C6 xj;have WX:=FP.sl;go_wp2_with fail
  refine (jC _ s' _ WX Ev).mono ?_;rintro e w3 ⟨v3,rfl,ht,rfl⟩;go_wp2_with fail
  go_ret
  refine⟨_,rfl,?_,dI⟩;have hl:=I6.out;have hv:=Cq.out;rw[eY,EY.out] at hl hv;rw[show nz ys+1 - nz ys=1 by omega] at hl hv;simp only[gI] at hl hv;rw[FIN.out (ys.take (nz ys)) s' (xs.take (nz xs)) Ma Cn (by rw[EX.out,EY.out];omega) (by rw[EY.out];exact hl) Ev (by rw[EY.out];exact hv) (by have h1:=VX.out;have h2:=VY.out;omega)] at ht;exact ht
 go_enter Tryz.func97,Tryz.ntmps97
 go_wp2_with fail
 refine (eA _ _ _ xs _ hx).mono ?_;rintro e w' ⟨rfl,rfl⟩;go_wp2_with fail
 refine (eA _ _ _ ys _ hy).mono ?_;rintro e w' ⟨rfl,rfl⟩;go_wp2_with fail
 refine (mg ao _ ac _ (nz xs+1) _ w hx' (by rw[EX.out];omega) (by omega) (by omega)).mono ?_;rintro e w1 ⟨v1,rfl,hs1,eH,gV⟩;have hsz:=gV (by omega);go_wp2_with fail
 refine (wC w.heap.size [] _ [] _ _ _ w1 hs1 (hy'.below eH) (p9 hy' (ai _)) ?_ (Cn.append (eV.replicate (by decide) _)) Ma).mono ?_
 ·rw[EY.out,eY,EX.out];simp;omega
 rintro e w2 ⟨s',rfl,FP,fK,C6,Ev,xj⟩;have dI:aA w.heap.size w w2:=eH.trans (fP fK (ai _));have I6:=aa C6;have Cq:=aa xj;clear C6 xj;have WX:=FP.sl;go_wp2_with fail
 refine (jC _ s' _ WX Ev).mono ?_;rintro e w3 ⟨v3,rfl,ht,rfl⟩;go_wp2_with fail
 go_ret
 refine⟨_,rfl,?_,dI⟩;have hl:=I6.out;have hv:=Cq.out;rw[eY,EX.out] at hl hv;rw[show nz xs+1 - nz xs=1 by omega] at hl hv;simp only[gI] at hl hv;rw[FIN.out (xs.take (nz xs)) s' (ys.take (nz ys)) Cn Ma (by rw[EX.out,EY.out];omega) (by rw[EX.out];exact hl) Ev (by rw[EX.out];exact hv) (by have h1:=VX.out;have h2:=VY.out;omega)] at ht;exact ht
theorem bZ {w:ag} {k:dB} {v:aq} {xs:List Nat} (h:Sl w k v xs):∃ ao cap,v=.slice ao xs.length cap:=by
 obtain⟨ao,cap,e,_⟩:=h;exact⟨ao,cap,e⟩
theorem sub_lt (va vb:aq) (xs ys:List Nat) (w:ag) (hx:Sl w .u32 va xs) (hy:Sl w .u32 vb ys) (dx:eV aG xs) (dy:eV aG ys) (hlt:val aG xs<val aG ys) :
  aW aj 98 #[va,vb] w fun e w'=>e=.returned (.tuple #[.slice none 0 0,.bool false])/\aA w.heap.size w w':=by
 obtain⟨ao,ac,rfl⟩:=bZ hx;obtain⟨bo,bc,rfl⟩:=bZ hy;have hx':=hx.take (nz xs) (gT xs);have hy':=hy.take (nz ys) (gT ys);have HC:=aa (show nG (val aG (xs.take (nz xs))) (val aG (ys.take (nz ys))) = -1 by rw[ck (by decide) dx,ck (by decide) dy];exact yf hlt);go_enter Tryz.func98,Tryz.ntmps98
 go_wp2_with fail
 refine (eA _ _ _ xs _ hx).mono ?_;rintro e w' ⟨rfl,rfl⟩;go_wp2_with fail
 refine (eA _ _ _ ys _ hy).mono ?_;rintro e w' ⟨rfl,rfl⟩;go_wp2_with fail
 refine (tu _ _ _ _ _ hx' hy' (dx.take _) (dy.take _)).mono ?_;rintro e w' ⟨rfl,hb⟩;rw[HC.out];go_wp2_with fail
 go_ret2
 exact⟨rfl,hb⟩
theorem Pv (va vb:aq) (xs ys:List Nat) (w:ag) (hx:Sl w .u32 va xs) (hy:Sl w .u32 vb ys) (dx:eV aG xs) (dy:eV aG ys) (lx:xs.length<=1000000) (hge:val aG ys<=val aG xs) :
  aW aj 98 #[va,vb] w fun e w'=>∃ v,e=.returned (.tuple #[v,.bool true])/\Sl w' .u32 v (fJ aG (val aG xs - val aG ys))/\aA w.heap.size w w':=by
 obtain⟨ao,ac,rfl⟩:=bZ hx;obtain⟨bo,bc,rfl⟩:=bZ hy;have nx:=gT xs;have hx':=hx.take (nz xs) nx;have hy':=hy.take (nz ys) (gT ys);have Cn:=dx.take (nz xs);have Ma:=dy.take (nz ys);have EX:=aa (show (xs.take (nz xs)).length=nz xs by simp;omega);have VX:=aa (ck (B:=aG) (by decide) dx);have VY:=aa (ck (B:=aG) (by decide) dy)
 have hc:0<=nG (val aG (xs.take (nz xs))) (val aG (ys.take (nz ys))):=by
  rw[VX.out,VY.out];unfold nG;rw[if_neg (by omega)];split<;>omega
 have hlen:(ys.take (nz ys)).length<=nz xs:=by
  rw[<-fx (B:=aG) (by decide) dx,<-qR (by decide) dy]
  exact f_ (by decide) (by
   have h1:=eW (kE (B:=aG) (by decide) (val aG xs));rw[iW (by decide)] at h1
   omega)
 go_enter Tryz.func98,Tryz.ntmps98
 go_wp2_with fail
 refine (eA _ _ _ xs _ hx).mono ?_;rintro e w' ⟨rfl,rfl⟩;go_wp2_with fail
 refine (eA _ _ _ ys _ hy).mono ?_;rintro e w' ⟨rfl,rfl⟩;go_wp2_with fail
 refine (tu _ _ _ _ _ hx' hy' Cn Ma).mono ?_;rintro e w0 ⟨rfl,hb0⟩;go_wp2_with fail
 refine (mg ao _ ac _ (nz xs) _ w0 (hx'.below hb0) (by rw[EX.out];omega) (by omega) (by omega)).mono ?_;rintro e w1 ⟨v1,rfl,hs1,eH,gV⟩;have Qq:aA w.heap.size w w1:=hb0.trans (eH.mono hb0.size);go_wp2_with fail
 have HV:=aa (show val aG (xs.take (nz xs)++bJ (nz xs - (xs.take (nz xs)).length) 0)=val aG xs by rw[mu,VX.out]);refine (CD w0.heap.size [] _ [] _ _ _ w1 hs1 (hy'.below Qq) (p9 (hy'.below hb0) (ai _)) (by rw[eY,gI,EX.out];omega) (Cn.append (eV.replicate (by decide) _)) Ma (by rw[HV.out,VY.out];exact hge)).mono ?_;rintro e w2 ⟨s',rfl,FP,fK,C6,Ev,xj⟩;have dI:aA w.heap.size w w2:=Qq.trans (fP fK hb0.size Qq.size);have Cq:=aa (show val aG s'=val aG xs - val aG ys by rw[xj,HV.out,VY.out]);clear C6 xj;go_wp2_with fail
 refine (jC _ s' _ FP.sl Ev).mono ?_;rintro e w3 ⟨v3,rfl,ht,rfl⟩;go_wp2_with fail
 go_ret2
 refine⟨_,rfl,?_,dI⟩;rw[Cq.out] at ht;exact ht
theorem yD (va:aq) (xs:List Nat) (w:ag) (hx:Sl w .u32 va xs) (dx:eV aG xs) (lx:xs.length<=1000000) :
  aW aj 110 #[va] w fun e w'=>∃ v,e=.returned v/\Ws w' .u32 153 v w.heap.size [] (fJ aG (val aG xs)) []/\aA w.heap.size w w':=by
 obtain⟨ao,ac,rfl⟩:=bZ hx;have nx:=gT xs;have hx':=hx.take (nz xs) nx;have EX:=aa (show (xs.take (nz xs)).length=nz xs by simp;omega);go_enter Tryz.func110,Tryz.ntmps110
 go_wp2_with fail
 refine (eA _ _ _ xs _ hx).mono ?_;rintro e w' ⟨rfl,rfl⟩;go_wp2_with fail
 refine (mg ao _ ac _ (nz xs) _ w hx' (by rw[EX.out];omega) (by omega) (by omega)).mono ?_;rintro e w1 ⟨v1,rfl,hs1,eH,gV⟩;go_wp2_with fail
 go_ret
 refine⟨_,rfl,?_,eH⟩;rw[EX.out,Nat.sub_self,vH,dJ,qE (by decide) dx] at hs1;exact hs1
theorem Ed (n:Nat) (z:Int) (w:ag) (hz:z=(n:Int)) (hn:n<18446744073709551616) :
  aW aj 91 #[.int .u64 z] w fun e w'=>∃ v,e=.returned v/\Sl w' .u32 v (fJ aG n)/\aA w.heap.size w w':=by
 have h0:0<=z/\z<18446744073709551616:=by omega
 have hB:pR (w.alloc (.cells #[.int .u32 (z % 4294967296),.int .u32 (z / 4294967296)] 153)) w.heap.size .u32 153 [n % aG,n / aG]:=by
  unfold pR;rw[heap_alloc_new,hz]
  rfl
 have hS:=hB.sl 0 2 2 (by simp) (by omega) (by omega)
 have hD:eV aG [n % aG,n / aG]:=by
  intro x hx;rcases List.mem_cons.1 hx with rfl | hx
  ·exact dZ _ (by decide)
  obtain rfl:=List.mem_singleton.1 hx;exact eG (by omega)
 have hV:val aG [n % aG,n / aG]=n:=by
  have h:=ju n aG;simp only[val,Nat.mul_zero,pT];exact h
 have HV:=aa hV;clear hV hz;go_enter Tryz.func91,Tryz.ntmps91
 go_wp2_with fail
 refine (jC _ [n % aG,n / aG] _ hS hD).mono ?_;rintro e w3 ⟨v3,rfl,ht,rfl⟩;go_wp2_with fail
 go_ret
 refine⟨_,rfl,?_,(ax _ _).alloc (ai _) _⟩;rw[HV.out] at ht;exact ht
def Eh:aq->Nat | .slice _ n _=>n | _=>0
theorem u_ {xs:List Nat} {i:Nat} (h:xs.length<=i):xs.getD i 0=0:=by simp[dW,h]
theorem dG (B:Nat) (xs:List Nat) (k:Nat):val B (xs.take (k+1))=val B (xs.take k)+xs.getD k 0*B ^ k:=by
 by_cases h:k<xs.length
 ·exact gF B xs k h
 rw[u_ (by omega),cw (by omega),cw (by omega)];simp
theorem Dk {B n:Nat} (hB:2<=B) (h:0<(fJ B n).length):(fJ B n).getD ((fJ B n).length - 1) 0≠0:=by
 intro h0;have h1:=qE hB (kE hB n);rw[iW hB] at h1;have h2:=congrArg d_ h1;rw[aX] at h2;have h3:=BB (xs:=fJ B n) (k:=(fJ B n).length - 1) (by omega) h0;rw[show (fJ B n).length - 1+1=(fJ B n).length by omega,bK] at h3;have h4:=gT ((fJ B n).take ((fJ B n).length - 1));rw[aX] at h4
 omega
end Go.Proofs.YtoncclhbdkjhmaaGreatDoor
namespace Go.Proofs
open Go.Shelf
def Tryz.w_:nS:=⟨fun | 169=>68 | n=>n,fun | 70=>107 | 9=>9 | 0=>0 | 72=>109 | 37=>99 | 127=>159 | 3=>3 | 5=>5 | n=>n,fun | n=>n⟩
theorem Tryz.Nb:Go.Proofs.Lays.n169 aj Tryz.w_:={
 mixed:=by kernel_rfl
 f169:=Tryz.func68.trans (congrArg some (by kernel_rfl))
 t0:=Ak
 a0:=Tryz.isAgg0
 z0:=Tryz.sizeOf0
 v0:=Tryz.zeroValue0
 t3:=jf
 a3:=q8
 z3:=pH
 v3:=lI
 t9:=fh
 a9:=q7
 z9:=pG
 v9:=lH
 t37:=tD
 a37:=Tryz.isAgg99
 z37:=Tryz.sizeOf99
 v37:=Tryz.zeroValue99
 t70:=Tryz.underlying107
 a70:=Tryz.isAgg107
 z70:=Tryz.sizeOf107
 v70:=Tryz.zeroValue107
 t72:=Tryz.underlying109
 a72:=Tryz.isAgg109
 z72:=Tryz.sizeOf109
 v72:=Tryz.zeroValue109
 t127:=Tryz.underlying159
 a127:=Tryz.isAgg159
 z127:=Tryz.sizeOf159
 v127:=Tryz.zeroValue159 }
theorem Tryz.vu:Builder.Extra aj Tryz.w_:={
 sizeBuilder:=by kernel_rfl
 liesBuilder:=by kernel_rfl
 t5:=nk
 a5:=Tryz.isAgg5
 z5:=tE
 v5:=oY
 infoByte:=by kernel_rfl
 cellsByte:=by kernel_rfl
 sizeByte:=by kernel_rfl
 neB5:=by decide }
open Go.RowKit in
theorem Tryz.Builder_String_any (B b:Nat) (l:List UInt8) (w:ag) (h:Lib.IsBuilder 109 5 B b (dN l) w) (hBw:B<=w.heap.size) :
  aW aj 68 #[.pointer (some ⟨b,0,none⟩)] w fun e w'=>e=.returned (.string ⟨l.toArray⟩)/\aA B w w':=Any.Builder_String_any Tryz.Nb Tryz.vu B b l w h hBw
def Tryz.CW:nS:=⟨fun | 128=>154 | n=>n,fun | 51=>153 | 3=>3 | 4=>4 | 46=>183 | 5=>5 | 9=>9 | n=>n,fun | n=>n⟩
theorem Tryz.Nd:Go.Proofs.Lays.n128 aj Tryz.CW:={
 mixed:=by kernel_rfl
 f128:=Tryz.func154.trans (congrArg some (by kernel_rfl))
 t3:=jf
 a3:=q8
 z3:=pH
 v3:=lI
 t4:=lJ
 a4:=Tryz.isAgg4
 z4:=tF
 v4:=oZ
 t5:=nk
 a5:=Tryz.isAgg5
 z5:=tE
 v5:=oY
 t9:=fh
 a9:=q7
 z9:=pG
 v9:=lH
 t46:=xH
 a46:=Tryz.isAgg183
 z46:=Tryz.sizeOf183
 v46:=yj
 t51:=xI
 a51:=Tryz.isAgg153
 z51:=Tryz.sizeOf153
 v51:=yp }
theorem Tryz.bits_Len32 (x:Int) (w:ag) (h0:0<=x) (h1:x<=4294967295) :
  aW aj 154 #[.int .u32 x] w fun e w'=>e=.returned (.int .i64 (Lib.bitLen x.toNat))/\w'=w:=Any.bits_Len32 Tryz.Nd x w h0 h1
def Tryz.CV:nS:=⟨fun | 133=>186 | 128=>154 | n=>n,fun | 51=>153 | 3=>3 | 4=>4 | 46=>183 | 5=>5 | 9=>9 | n=>n,fun | n=>n⟩
theorem Tryz.Nc:Go.Proofs.Lays.n133 aj Tryz.CV:={
 mixed:=by kernel_rfl
 f128:=Tryz.func154.trans (congrArg some (by kernel_rfl))
 f133:=Tryz.func186.trans (congrArg some (by kernel_rfl))
 t3:=jf
 a3:=q8
 z3:=pH
 v3:=lI
 t4:=lJ
 a4:=Tryz.isAgg4
 z4:=tF
 v4:=oZ
 t5:=nk
 a5:=Tryz.isAgg5
 z5:=tE
 v5:=oY
 t9:=fh
 a9:=q7
 z9:=pG
 v9:=lH
 t46:=xH
 a46:=Tryz.isAgg183
 z46:=Tryz.sizeOf183
 v46:=yj
 t51:=xI
 a51:=Tryz.isAgg153
 z51:=Tryz.sizeOf153
 v51:=yp }
theorem Tryz.bits_LeadingZeros32 (x:Int) (w:ag) (h0:0<=x) (h1:x<=4294967295) :
  aW aj 186 #[.int .u32 x] w fun e w'=>e=.returned (.int .i64 (32 - (Lib.bitLen x.toNat:Int)))/\w'=w:=Any.bits_LeadingZeros32 Tryz.Nc x w h0 h1
def Tryz.CU:nS:=⟨fun | 283=>198 | n=>n,fun | 3=>3 | 9=>9 | 4=>4 | n=>n,fun | n=>n⟩
theorem Tryz.Na:Go.Proofs.Lays.n283 aj Tryz.CU:={
 mixed:=by kernel_rfl
 f283:=Tryz.func198.trans (congrArg some (by kernel_rfl))
 t3:=jf
 a3:=q8
 z3:=pH
 v3:=lI
 t4:=lJ
 a4:=Tryz.isAgg4
 z4:=tF
 v4:=oZ
 t9:=fh
 a9:=q7
 z9:=pG
 v9:=lH }
open Go.Lib in
theorem Tryz.internal_strconv_small (i:Nat) (h:i<100) (w:ag) :
  aW aj 198 #[.int .i64 i] w fun e w'=>e=.returned (.string ⟨(a_ i).toArray⟩)/\w'=w:=Any.internal_strconv_small Tryz.Na i h w
def Tryz.BF:nS:=⟨fun | 284=>199 | 129=>217 | 317=>218 | 318=>219 | n=>n,fun | 53=>130 | 3=>3 | 212=>256 | 0=>0 | 4=>4 | 46=>183 | 5=>5 | 9=>9 | n=>n,fun | 17=>3 | n=>n⟩
theorem Tryz.Kf:Go.Proofs.LaysM.n284 aj Tryz.BF:={
 mixed:=by kernel_rfl
 f129:=Tryz.func217.trans (congrArg some (by kernel_rfl))
 f284:=Tryz.func199.trans (congrArg some (by kernel_rfl))
 f317:=Tryz.func218.trans (congrArg some (by kernel_rfl))
 f318:=Tryz.func219.trans (congrArg some (by kernel_rfl))
 t0:=Ak
 a0:=Tryz.isAgg0
 z0:=Tryz.sizeOf0
 v0:=Tryz.zeroValue0
 t3:=jf
 a3:=q8
 z3:=pH
 v3:=lI
 t4:=lJ
 a4:=Tryz.isAgg4
 z4:=tF
 v4:=oZ
 t5:=nk
 a5:=Tryz.isAgg5
 z5:=tE
 v5:=oY
 t9:=fh
 a9:=q7
 z9:=pG
 v9:=lH
 t46:=xH
 a46:=Tryz.isAgg183
 z46:=Tryz.sizeOf183
 v46:=yj
 t53:=Tryz.underlying130
 a53:=Tryz.isAgg130
 z53:=Tryz.sizeOf130
 v53:=Tryz.zeroValue130
 t212:=Tryz.underlying256
 a212:=Tryz.isAgg256
 z212:=Tryz.sizeOf256
 v212:=Tryz.zeroValue256
 g17:=by kernel_rfl
 i0:=by kernel_rfl
 i3:=by kernel_rfl
 i4:=by kernel_rfl
 i5:=by kernel_rfl
 i9:=by kernel_rfl
 i46:=by kernel_rfl
 i53:=by kernel_rfl
 i212:=by kernel_rfl
 m17:=by kernel_rfl }
open Go.Lib in
theorem Tryz.internal_strconv_numDigits (u : Nat) (h1 : 1 ≤ u) (h2 : u < 18446744073709551616) (w : ag) (htab : Lib.TabIs aj w "internal/strconv.uint64pow10" .u64 Lib.pow10Tab) :
  aW aj 199 #[.int .u64 u] w fun e w'=>e=.returned (.int .i64 (Lib.nDigits u))/\w'=w:=Any.internal_strconv_numDigits Tryz.Kf u h1 h2 w htab
def Tryz.CT:nS:=⟨fun | 285=>200 | n=>n,fun | 37=>99 | 53=>130 | 3=>3 | 4=>4 | 51=>153 | 9=>9 | 5=>5 | 0=>0 | n=>n,fun | n=>n⟩
theorem Tryz.M_:Go.Proofs.Lays.n285 aj Tryz.CT:={
 mixed:=by kernel_rfl
 f285:=Tryz.func200.trans (congrArg some (by kernel_rfl))
 t0:=Ak
 a0:=Tryz.isAgg0
 z0:=Tryz.sizeOf0
 v0:=Tryz.zeroValue0
 t3:=jf
 a3:=q8
 z3:=pH
 v3:=lI
 t4:=lJ
 a4:=Tryz.isAgg4
 z4:=tF
 v4:=oZ
 t5:=nk
 a5:=Tryz.isAgg5
 z5:=tE
 v5:=oY
 t9:=fh
 a9:=q7
 z9:=pG
 v9:=lH
 t37:=tD
 a37:=Tryz.isAgg99
 z37:=Tryz.sizeOf99
 v37:=Tryz.zeroValue99
 t51:=xI
 a51:=Tryz.isAgg153
 z51:=Tryz.sizeOf153
 v51:=yp
 t53:=Tryz.underlying130
 a53:=Tryz.isAgg130
 z53:=Tryz.sizeOf130
 v53:=Tryz.zeroValue130 }
open Go.RowKit Go.Sort Go.Lib in
theorem Tryz.internal_strconv_formatBase10 (blk off cap:Nat) (u:Nat) (d:Array UInt8) (w:ag) (hH:Holds (fun (b:UInt8)=>fm .u8 (b.toNat:Int)) w blk off d) (hu:u<10 ^ d.size) (hu64:u<18446744073709551616) (hsz:d.size<4611686018427387904) :
  aW aj 200 #[.slice (some ⟨blk,off,none⟩) d.size cap,.int .u64 u] w fun e w' =>
   e=.returned (.tuple #[])/\∃ (n v':Nat) (dk:Array UInt8),w'=(putRow (fun (b:UInt8)=>fm .u8 (b.toNat:Int)) w blk off dk).drewN n/\FmtInv d.size u 0 v' dk:=Any.internal_strconv_formatBase10 Tryz.M_ blk off cap u d w hH hu hu64 hsz
end Go.Proofs
namespace Go.Proofs.YtoncclhbdkjhmaaGreatDoor
open Go.RowKit
set_option maxRecDepth 100000
def gg (r x:Nat):Nat:=r*4294967296+x
def k_ (r x:Nat):Int:=((gg r x:Nat):Int)
theorem Bz {r x:Nat} (hr:r<4294967296) (hx:x<4294967296):bits BinOp.or IntKind.u64 ((r:Int)*4294967296) (x:Int)=k_ r x:=by
 have h1:(r:Int)*4294967296=((r*4294967296:Nat):Int):=by simp
 rw[h1,u64_or_nat _ _ (by omega) (by omega),nat_join 32 _ _ (by omega) (by omega)];rfl
theorem r6 {r x:Nat} (hr:r<4294967296) (hx:x<4294967296):0<=k_ r x/\k_ r x<18446744073709551616:=by unfold k_ gg;omega
theorem Kn {r x d:Nat} (hr:r<d) (hx:x<4294967296):gg r x / d<4294967296:=by
 apply eG
 unfold gg;have:(r+1)*4294967296<=d*4294967296:=aV _ hr
 omega
theorem B3 {t s:List Nat} {k r d:Nat} (hk:k<t.length) (hl:t.length=s.length) (ht:t.take (k+1)=s.take (k+1)) (hv:val aG (t.drop (k+1))*d+r=val aG (s.drop (k+1))) :
  (t.set k (gg r (t.getD k 0) / d)).take k=s.take k/\val aG ((t.set k (gg r (t.getD k 0) / d)).drop k)*d+gg r (t.getD k 0) % d=val aG (s.drop k):=by
 have hks:k<s.length:=by omega
 have e1:t.getD k 0=s.getD k 0:=by
  have:=congrArg (fun l=>l.getD k 0) ht
  simpa [dW] using this
 refine⟨?_,?_⟩
 ·rw[List.take_set_of_le (ai k)];have:=congrArg (List.take k) ht;rw[List.take_take,List.take_take,cX (by omega)] at this;exact this
 rw[iw (by simpa using hk),List.drop_set_of_lt (by omega),iw hks];simp only[val,List.getElem_set_self];rw[<-hv];have e2:s[k]=s.getD k 0:=by simp[dW,hks]
 rw[e2,<-e1];have h:=Nat.div_add_mod (gg r (t.getD k 0)) d;have hj:gg r (t.getD k 0)=r*aG+t.getD k 0:=rfl;generalize gg r (t.getD k 0) / d=q at *;generalize gg r (t.getD k 0) % d=m at *;rw[hj] at h
 grind
theorem xB (g:Nat) (pre s post:List Nat) (vs:aq) (d:Nat) (z:Int) (w:ag) (hw:Ws w .u32 153 vs g pre s post) (hs:eV aG s) (hz:z=(d:Int)) (NF:0<d) (VB:d<4294967296) :
  aW aj 156 #[vs,.int .u32 z] w fun e w'=>∃ s',e=.returned (.int .u32 ((val aG s % d:Nat):Int))/\Ws w' .u32 153 vs g pre s' post/\w.grownBy w' (some g)/\s'.length=s.length/\eV aG s' /\
   val aG s'=val aG s / d:=by
 subst hz;obtain⟨ao,cap,rfl,h1,h2,h3,h4⟩:=hw;go_enter Tryz.func156,Tryz.ntmps156
 go_wp2
 go_loopw [5,6] (fun c i wr=>∃ (k:Nat) (t:List Nat) (r:Nat),i=.int .i64 ((k:Int) - 1)/\c=.int .u64 (r:Int)/\r<d/\k<=s.length/\w.grownBy wr (some g)/\Hid (t.length=s.length)/\eV 4294967296 t /\
   Fe wr .u32 153 ao g pre t post s.length/\Hid (t.take k=s.take k)/\Hid (val aG (t.drop k)*d+r=val aG (s.drop k)))
  (fun _ i _=>(ei i+1).toNat)
 case atStart=>exact⟨s.length,s,0,rfl,rfl,NF,by omega,aI _ _,aa rfl,hs,h4,aa rfl,aa (by simp[val])⟩
 case round =>
  obtain⟨k,t,r,rfl,rfl,hr,hk,hg,Ht,rG,hB,HT,HV⟩:=hrel
  by_cases h0:0<k
  ·obtain⟨rfl,sD⟩:=hB (by omega);have ng:k - 1<t.length:=by have:=Ht.out;omega
   have hct:wr.cell? ⟨g,pre.length+(k - 1),none⟩=some (.int .u32 (nth t (k - 1))):=by
    rw[sD.cell (by simp;omega),nA _ _ _ _ ng]
   have hft:=sD.frozen (pre.length+(k - 1));have t1:=rG.getD (by omega) (k - 1);obtain⟨x,hx⟩:∃ x,x=t.getD (k - 1) 0:=⟨_,rfl⟩
   have ZA:nth t (k - 1)=(x:Int):=by rw[hx];rfl
   rw[<-hx] at t1;have Aq:=Bz (r:=r) (x:=x) (by omega) t1;have ZI:=r6 (r:=r) (x:=x) (by omega) t1;have FR:=Kn hr t1
   have hq:0<=k_ r x / (d:Int)/\k_ r x / (d:Int)<4294967296:=by
    have:k_ r x / (d:Int)=((gg r x / d:Nat):Int):=by unfold k_;simp
    rw[this];exact⟨Int.natCast_nonneg _,Int.ofNat_lt.2 FR⟩
   have HS:=aa (B3 (t:=t) (s:=s) (k:=k - 1) (r:=r) (d:=d) ng Ht.out (by rw[show k - 1+1=k by omega];exact HT.out) (by rw[show k - 1+1=k by omega];exact HV.out));rw[<-hx] at HS;have HQ:=aa FR;have hm0:k_ r x % (d:Int)=((gg r x % d:Nat):Int):=by unfold k_;simp
   have Tr:k_ r x / (d:Int)=((gg r x / d:Nat):Int):=by unfold k_;simp
   have HM:=aa hm0;have HD:=aa Tr;rw[ZA] at hct;clear hB h4 FR hm0 Tr hx ZA
   go_wp2
   go_roundw
   case rel =>
    refine⟨k - 1,t.set (k - 1) (gg r x / d),gg r x % d,by go_num,by rw[<-HM.out],dZ _ NF,by omega,aF hg _,aa (by rw[bY];exact Ht.out),rG.set HQ.out,fun _=>⟨rfl,?_⟩,aa HS.out.1,aa HS.out.2⟩;rw[<-nn _ _ _ _ _ ng];exact sD.set _ _ _ HD.out
   case measure=>simp[ei];omega
  have pe:k=0:=by omega
  subst pe;have hv:=HV.out;simp only[cx] at hv;have e1:val aG s % d=r:=by rw[<-hv,Nat.mul_add_mod_self_right,iB hr]
  have e2:val aG t=val aG s / d:=by rw[<-hv,Nat.add_comm,Nat.add_mul_div_right _ _ NF,kL hr,fM]
  have E1:=aa e1;have E2:=aa e2;have oE:Ws wr .u32 153 (.slice ao s.length cap) g pre t post:=⟨ao,cap,by rw[Ht.out],by rw[Ht.out];exact h1,h2,h3,by rw[Ht.out];exact hB⟩
  clear e1 e2 hv h4
  go_wp2
  go_ret
  exact⟨t,by rw[E1.out];rfl,oE,hg,Ht.out,rG,E2.out⟩
theorem Ef {xs:List Nat} (hd:eV aG xs) (h:val aG xs=0):nz xs=0:=by
 have:=fx (B:=aG) (by decide) hd;rw[h,fD] at this;exact this.symm
theorem AP {xs:List Nat} (hd:eV aG xs) (h:0<val aG xs):0<nz xs:=by
 rw[<-fx (B:=aG) (by decide) hd,lC (by decide) h];simp
theorem div_lt (va vb:aq) (xs ys:List Nat) (w:ag) (hx:Sl w .u32 va xs) (hy:Sl w .u32 vb ys) (dx:eV aG xs) (dy:eV aG ys) (lx:xs.length<=1000000) (h0:val aG xs<val aG ys) :
  aW aj 111 #[va,vb] w fun e w'=>∃ r,e=.returned (.tuple #[.slice none 0 0,r,.bool true])/\Sl w' .u32 r (fJ aG (val aG xs))/\aA w.heap.size w w':=by
 obtain⟨ao,ac,rfl⟩:=bZ hx;obtain⟨bo,bc,rfl⟩:=bZ hy;have hx':=hx.take (nz xs) (gT xs);have hy':=hy.take (nz ys) (gT ys);have VX:=aa (ck (B:=aG) (by decide) dx);have VY:=aa (ck (B:=aG) (by decide) dy);have hp:=AP dy (by omega);have hz:(((nz ys:Nat):Int)==0)=false:=by simp;omega
 have HC:=aa (show nG (val aG (xs.take (nz xs))) (val aG (ys.take (nz ys))) = -1 by rw[VX.out,VY.out];exact yf h0);have hlen:(xs.take (nz xs)).length<=1000000:=by rw[aX];omega
 go_enter Tryz.func111,Tryz.ntmps111
 go_wp2_with fail
 refine (eA _ _ _ xs _ hx).mono ?_;rintro e w' ⟨rfl,rfl⟩;go_wp2_with fail
 refine (eA _ _ _ ys _ hy).mono ?_;rintro e w' ⟨rfl,rfl⟩;go_wp2_with fail
 refine (tu _ _ _ _ _ hx' hy' (dx.take _) (dy.take _)).mono ?_;rintro e w1 ⟨rfl,eH⟩;rw[HC.out];go_wp2_with fail
 refine (yD _ _ w1 (hx'.below eH) (dx.take _) hlen).mono ?_;rintro e w2 ⟨v2,rfl,FP,dI⟩;go_wp2_with fail
 go_ret3
 refine⟨_,rfl,?_,eH.trans (dI.mono eH.size)⟩;have:=FP.sl;rw[VX.out] at this;exact this
theorem div_one (va vb:aq) (xs ys:List Nat) (w:ag) (hx:Sl w .u32 va xs) (hy:Sl w .u32 vb ys) (dx:eV aG xs) (dy:eV aG ys) (lx:xs.length<=1000000) (h0:val aG ys<=val aG xs) (h1:nz ys=1) :
  aW aj 111 #[va,vb] w fun e w'=>∃ q r,e=.returned (.tuple #[q,r,.bool true])/\Sl w' .u32 q (fJ aG (val aG xs / val aG ys))/\Sl w' .u32 r (fJ aG (val aG xs % val aG ys))/\aA w.heap.size w w':=by
 obtain⟨ao,ac,rfl⟩:=bZ hx;have HY:=aa hy;obtain⟨bo,bc,rfl,b1,b2,b3,b4⟩:=hy;have hly:=gT ys;have nx:=gT xs;have hx':=hx.take (nz xs) (gT xs);have hy':=HY.out.take (nz ys) (gT ys);have VX:=aa (ck (B:=aG) (by decide) dx);have VY:=aa (ck (B:=aG) (by decide) dy);have EX:=aa (show (xs.take (nz xs)).length=nz xs by simp;omega);have hz:(((nz ys:Nat):Int)==0)=false:=by rw[h1];rfl
 have gV:(((nz ys:Nat):Int)==1)=true:=by rw[h1];rfl
 have hc:0<=nG (val aG (xs.take (nz xs))) (val aG (ys.take (nz ys))):=by
  rw[VX.out,VY.out];unfold nG;rw[if_neg (by omega)];split<;>omega
 have Zj:val aG ys=ys.getD 0 0:=by
  rw[<-ck (B:=aG) (by decide) dy,h1,dG aG ys 0];simp[val]
 have hy0:=dy.getD (by decide) 0
 have hpos:0<val aG ys:=by
  rcases bQ (val aG ys) with h | h
  ·have:=Ef dy h;omega
  exact h
 obtain⟨b,rfl,hcb⟩:=b4 0 (by omega);rw[show b.add 0=b from by simp[nM]] at hcb;have UE:=aa Zj;have xY:(0:Int)<((nz ys:Nat):Int):=by omega
 have D0:0<ys.getD 0 0:=by omega
 have Xs:∀ {w1:ag},aA w.heap.size w w1->w1.cell? b=some (.int .u32 (nth ys 0)):=fun hb=>by rw[hb.cell (cu hcb)];exact hcb
 clear h1 Zj b4 hcb;go_enter Tryz.func111,Tryz.ntmps111
 go_wp2_with fail
 refine (eA _ _ _ xs _ hx).mono ?_;rintro e w' ⟨rfl,rfl⟩;go_wp2_with fail
 refine (eA _ _ _ ys _ HY.out).mono ?_;rintro e w' ⟨rfl,rfl⟩;go_wp2_with fail
 refine (tu _ _ _ _ _ hx' hy' (dx.take _) (dy.take _)).mono ?_;rintro e w1 ⟨rfl,eH⟩;go_wp2_with fail
 refine (mg ao _ ac _ (nz xs) _ w1 (hx'.below eH) (by rw[EX.out];omega) (by omega) (by omega)).mono ?_;rintro e w2 ⟨v2,rfl,FP,dI,pJ⟩;have Qp:aA w.heap.size w w2:=eH.trans (dI.mono eH.size);have hcell:=Xs Qp;rw[EX.out,Nat.sub_self,vH,dJ] at FP;go_wp2_with fail
 refine (xB w1.heap.size [] _ [] _ (ys.getD 0 0) _ w2 FP (dx.take _) rfl D0 hy0).mono ?_;rintro e w3 ⟨s',rfl,KG,LW,Et,Ie,Hw⟩;rw[VX.out,<-UE.out] at Hw;obtain⟨m,hm⟩:∃ m,m=val aG xs % val aG ys:=⟨_,rfl⟩
 rw[show val aG (xs.take (nz xs)) % ys.getD 0 0=m by rw[VX.out,<-UE.out,hm]];have hmb:m<4294967296:=by rw[hm];exact wJ (dZ _ hpos) (by rw[UE.out];exact hy0)
 have HM:=aa hm;clear hm;have kH:aA w.heap.size w w3:=Qp.trans (fP LW eH.size Qp.size);have Cp:=aa Hw;clear Hw Et;go_wp2_with fail
 refine (jC _ s' _ KG.sl Ie).mono ?_;rintro e w4 ⟨v4,rfl,KC,rfl⟩;go_wp2_with fail
 refine (Ed m _ w3 rfl (by omega)).mono ?_;rintro e w5 ⟨v5,rfl,RC,we⟩;have XC:aA w.heap.size w w5:=kH.trans (we.mono kH.size);go_wp2_with fail
 go_ret3
 refine⟨_,_,rfl,?_,?_,XC⟩
 ·rw[Cp.out] at KC;exact KC.below we
 rw[<-HM.out];exact RC
theorem infoByte:(Tryz.prog.info? 5).map (fun i=>(i.zero,i.size,i.bytes))=some (some (.int .u8 0),1,1):=by kernel_rfl
theorem FJ:(Tryz.prog.info? 109).map (·.size)=some 2:=by kernel_rfl
theorem M8:liesAt aj Tryz.prog.depth 109 (2 / Tryz.prog.cellsOf 109) 0 109 1=true:=by kernel_rfl
set_option maxRecDepth 100000 in
theorem sJ (b:Nat) (w:ag) (h0:w.cell? ⟨b,0,none⟩=some (.pointer (some ⟨b,0,none⟩))) :
  aW aj 150 #[.pointer (some ⟨b,0,none⟩)] w fun e w'=>e=.returned (.tuple #[])/\w=w':=by
 obtain⟨j,hj,_⟩:=Option.map_eq_some_iff.1 FJ;have hne:=Lib.run_neq_ptr_same (P:=aj) w ⟨b,0,none⟩ Tryz.underlying107 hj;go_enter Tryz.func150,Tryz.ntmps150
 go_wp2
 go_end0
 exact⟨rfl,rfl⟩
set_option maxRecDepth 100000 in
theorem ry (b:Nat) (w:ag) (h0:w.cell? ⟨b,0,none⟩=some (.pointer none)) (hsh:w.shape? b=some (109,2)) (hfz:w.frozen? ⟨b,0,none⟩=false) :
  aW aj 150 #[.pointer (some ⟨b,0,none⟩)] w fun e w'=>e=.returned (.tuple #[])/\w.setCell ⟨b,0,none⟩ (.pointer (some ⟨b,0,none⟩))=w':=by
 obtain⟨j,hj,rF⟩:=Option.map_eq_some_iff.1 FJ;have h1:=Lib.run_to_unsafe (P:=aj) w ⟨b,0,none⟩ Tryz.underlying107 Tryz.underlying220 hj (by rw[rF];decide) hsh (Nat.zero_lt_succ 1);have h2:=run_callFunc_extern (P:=aj) (w:=w) (args:=#[.pointer (some ⟨b,0,none⟩)]) Tryz.func182 (by kernel_rfl) (by kernel_rfl) (by kernel_rfl) (e:=Extern.AbiNoEscape.same) (by kernel_rfl);have h3:=Lib.run_noEscape (P:=aj) w (.pointer (some ⟨b,0,none⟩));have h4:=Lib.run_from_unsafe (P:=aj) w ⟨b,0,none⟩ Tryz.underlying220 Tryz.underlying107 hj hsh M8;go_enter Tryz.func150,Tryz.ntmps150
 go_wp2
 go_end0
 exact⟨rfl,rfl⟩
def uE (B b:Nat) (l:List UInt8) (w:ag):Prop:=Lib.IsBuilder 109 5 B b (dN l) w
theorem uE.at {B b:Nat} {l:List UInt8} {w:ag} (h:uE B b l w):∃ p v,w.heap[b]?=some (.cells #[p,v] 109 (0,0))/\w.ownsRow B 5 1 v l.length (dN l)/\v.ownBlock≠some b/\B<=b/\(p=.pointer none\/p=.pointer (some ⟨b,0,none⟩)):=by
 rcases h with ⟨hB,v,h1,h2,h3⟩ | ⟨hB,v,h1,h2,h3⟩
 ·exact⟨_,v,h1,by simpa [qA] using h2,h3,hB,.inl rfl⟩
 exact⟨_,v,h1,by simpa [qA] using h2,h3,hB,.inr rfl⟩
theorem uE.below {B b:Nat} {l:List UInt8} {w w':ag} (h:uE B b l w) (hb:aA w.heap.size w w'):uE B b l w':=by
 have go:∀ p,Lib.BuilderAt 109 5 B b p (dN l) w->Lib.BuilderAt 109 5 B b p (dN l) w':=by
  intro p ⟨hB,v,h1,h2,h3⟩;have hlt:=ae h1;exact⟨hB,v,by rw[hb.block b hlt];exact h1,lG h2 ⟨hb.os,hb.tape,hb.output,hb.size,fun j hj _=>hb.block j hj⟩ (by cases hv:v.ownBlock with | none=>exact .inl rfl | some g=>exact .inr (show some g≠none by simp)),h3⟩
 rcases h with h | h
 ·exact .inl (go _ h)
 exact .inr (go _ h)
theorem rS (l m:List UInt8):dN l++Lib.strCells ⟨m.toArray⟩=dN (l++m):=by
 simp[dN,Lib.strCells]
set_option maxRecDepth 100000 in
theorem q9 (B b:Nat) (l m:List UInt8) (sv:ByteArray) (w:ag) (h:uE B b l w) (hs:sv=⟨m.toArray⟩) (hlen:l.length+m.length<=1000000) (hBw:B<=w.heap.size) :
  aW aj 100 #[.pointer (some ⟨b,0,none⟩),.string sv] w fun e w'=>∃ v,e=.returned v/\uE B b (l++m) w'/\aA B w w':=by
 obtain⟨i0,hi,hz0,gV,pJ⟩:=pS infoByte;have hsz:sv.size=m.length:=by subst hs;rfl
 obtain⟨p,v,hbk,hown,hne,I0,hp⟩:=h.at;have hlt:=ae hbk
 -- behind copyCheck
 have rest:∀ w1:ag,w1.heap[b]?=some (.cells #[.pointer (some ⟨b,0,none⟩),v] 109 (0,0))->w1.ownsRow B 5 1 v l.length (dN l)->aA B w w1->True:=fun _ _ _ _=>trivial
 clear rest;have HS:=aa hs;have nP:=aa hsz;clear hs;have aJh:sv.size<=m.length:=by omega
 clear hsz
 have cc:aW aj 150 #[.pointer (some ⟨b,0,none⟩)] w fun e w1=>e=.returned (.tuple #[])/\w1.heap[b]?=some (.cells #[.pointer (some ⟨b,0,none⟩),v] 109 (0,0))/\w1.ownsRow B 5 1 v l.length (dN l)/\aA B w w1:=by
  rcases hp with rfl | rfl
  ·refine (ry b w (by rw[eK w b 0 _ 109 (0,0) hbk];rfl) (by simp[World.shape?,hbk]) (tC w b 0 _ 109 hbk)).mono ?_;rintro e w1 ⟨rfl,rfl⟩;refine⟨rfl,?_,?_,(ax _ _).setCell I0 _⟩
   ·rw[aC w b 0 _ 109 _ hbk];rfl
   exact ownsRow_setCell_other hown (by simpa using hne) _
  refine (sJ b w (by rw[eK w b 0 _ 109 (0,0) hbk];rfl)).mono ?_;rintro e w1 ⟨rfl,rfl⟩;exact⟨rfl,hbk,hown,ax _ _⟩
 have CC:=aa cc;clear cc hbk hown hp;go_enter Tryz.func100,Tryz.ntmps100
 go_wp2_with fail
 refine CC.out.mono ?_;rintro e w1 ⟨rfl,uu,tV,eH⟩;have c0:w1.cell? ⟨b,0,none⟩=some (.pointer (some ⟨b,0,none⟩)):=by rw[eK w1 b 0 _ 109 (0,0) uu];rfl
 have c1:w1.cell? ⟨b,1,none⟩=some v:=by rw[eK w1 b 1 _ 109 (0,0) uu];rfl
 have HK:=aa uu;clear uu;have Nt:=eH.size;go_wp2_with (at_builtin;refine Lib.wpList_append_own_string _ rfl (.tmp 12) (.tmp 13) 99 9 rfl B 5 i0 tD fh hi hz0 gV pJ _ _ _ rfl tV sv rfl ?c3 ?c4 ?c5 ?_)
 case c3=>unfold maxLen;omega
 case c4=>omega
 case c5=>omega
 intro v' w2 hown' hgrow _;have Nw:b<w1.heap.size:=ae HK.out
 have dI:w2.heap[b]?=some (.cells #[.pointer (some ⟨b,0,none⟩),v] 109 (0,0)):=by
  rw[hgrow.block b Nw (fun e=>hne e.symm)];exact HK.out
 have d0:w2.cell? ⟨b,0,none⟩=some (.pointer (some ⟨b,0,none⟩)):=by rw[eK w2 b 0 _ 109 (0,0) dI];rfl
 have d1:w2.cell? ⟨b,1,none⟩=some v:=by rw[eK w2 b 1 _ 109 (0,0) dI];rfl
 have f1:w2.frozen? ⟨b,1,none⟩=false:=tC w2 b 1 _ 109 dI
 obtain⟨ao,n',cap,rfl⟩:∃ ao n' cap,v'=.slice ao n' cap:=by
  rcases hown'.2 with ⟨hv,_⟩ | ⟨g,cap,cur,hv,_⟩
  ·exact⟨_,_,_,hv⟩
  exact⟨_,_,_,hv⟩
 have nj:=aa dI;clear dI
 go_wp2
 go_ret2
 refine⟨_,rfl,?_,?_⟩
 ·refine .inr ?_;rw[<-rS,<-HS.out];refine Lib.BuilderAt.put (T:=109) (e:=5) I0 nj.out (bs':=dN l++Lib.strCells sv) ?_ (by decide);rw[eY,qA,Lib.strCells_length];exact hown'
 exact (eH.grown hgrow (by omega) (fun k hk=>(tV.lt k hk).1)).setCell (p:=⟨b,1,none⟩) I0 _
theorem Ih (i:Nat) (z:Int) (hz:z=(i:Int)) (h:i<100) (w:ag) :
  aW aj 184 #[.int .u64 z,.int .i64 10] w fun e w'=>e=.returned (.string ⟨(a_ i).toArray⟩)/\w=w':=by
 subst hz
 have inner:aW aj 197 #[.int .u64 i,.int .i64 10] w fun e w'=>e=.returned (.string ⟨(a_ i).toArray⟩)/\w=w':=by
  go_enter Tryz.func197,Tryz.ntmps197
  go_wp2_with fail
  refine (Tryz.internal_strconv_small i h _).mono ?_;rintro e w' ⟨rfl,rfl⟩;go_wp2_with fail
  go_ret
  exact⟨rfl,rfl⟩
 have IN:=aa inner;clear inner;go_enter Tryz.func184,Tryz.ntmps184
 go_wp2_with fail
 refine IN.out.mono ?_;rintro e w' ⟨rfl,rfl⟩;go_wp2_with fail
 go_ret
 exact⟨rfl,rfl⟩
abbrev G9:Nat:=1000000000
theorem Ow.len {w:ag} {base:Nat} {k:dB} {T:bn} {v:aq} {xs:List Nat} (h:Ow w base k T v xs):Eh v=xs.length:=by
 obtain⟨ao,cap,rfl⟩:=bZ h.sl;rfl
theorem Ow.grown {w w':ag} {base:Nat} {k:dB} {T:bn} {v:aq} {xs:List Nat} (h:Ow w base k T v xs) {g:Nat} (hg:w.grownBy w' (some g)) (hb:g<base):Ow w' base k T v xs:=
 lG h hg (by
  cases hv:v.ownBlock with
  | none=>exact .inl rfl
  | some j=>exact .inr (fun e=>by injection e with e;have:=h.Gi j hv;omega))
theorem DQ {w:ag} {T:bn} {ao:Option cB} {n cap g:Nat} {pre s post:List Nat} (h:Ws w .u32 T (.slice ao n cap) g pre s post) (hd:eV aG s) :
  ∃ post',Ws w .u32 T (me ao cap s) g pre (fJ aG (val aG s)) post':=by
 have e:=qE (B:=aG) (by decide) hd;obtain⟨QU,cap',e1,h1,h2,h3,h4⟩:=h;injection e1 with e1 e2 e3;subst e1;subst e3;have hl:=gT s;have hlen:(s.take (nz s)).length=nz s:=by rw[aX];omega
 refine⟨s.drop (nz s)++post,?_⟩;rw[<-e];unfold me
 by_cases h0:nz s=0
 ·rw[if_pos h0,h0];exact⟨none,0,rfl,by simp,by omega,fun _=>rfl,fun h=>by simp at h⟩
 rw[if_neg h0];refine⟨ao,cap,by rw[hlen],by rw[hlen];omega,h2,h3,fun _=>?_⟩;obtain⟨a1,a2⟩:=h4 (by omega);refine⟨a1,?_⟩
 have:pre++s.take (nz s)++(s.drop (nz s)++post)=pre++s++post:=by
  rw[<-bg,bg pre,o7]
 rw[this];exact a2
theorem DZ (v:aq) (g:Nat) (pre s post:List Nat) (w:ag) (h:Ws w .u32 153 v g pre s post) (hd:eV aG s) :
  aW aj 138 #[v] w fun e w'=>∃ v' post',e=.returned v'/\Ws w .u32 153 v' g pre (fJ aG (val aG s)) post'/\w=w':=by
 obtain⟨ao,cap,rfl⟩:=h.at;refine (wL _ _ _ s _ h.sl).mono fun e w' ⟨he,hw⟩=>?_
 obtain⟨post',h'⟩:=DQ h hd;exact⟨_,post',he,h',hw⟩
theorem Ws.len {w:ag} {k:dB} {T:bn} {v:aq} {g:Nat} {pre s post:List Nat} (h:Ws w k T v g pre s post):Eh v=s.length:=by
 obtain⟨ao,cap,rfl⟩:=h.at;rfl
theorem Ws.kept {w w':ag} {B:Nat} {k:dB} {T:bn} {v:aq} {g:Nat} {pre s post:List Nat} (h:Ws w k T v g pre s post) (hb:aA B w w') (hg:s.length≠0->g<B):Ws w' k T v g pre s post:=by
 obtain⟨ao,cap,rfl,h1,h2,h3,h4⟩:=h;exact⟨ao,cap,rfl,h1,h2,h3,fun i=>⟨(h4 i).1,(h4 i).2.below hb (hg i)⟩⟩
theorem Ws.Nj {w:ag} {k:dB} {T:bn} {v:aq} {g:Nat} {pre s post:List Nat} (h:Ws w k T v g pre s post) (h0:s.length≠0):g<w.heap.size:=by
 obtain⟨ao,cap,rfl,h1,h2,h3,h4⟩:=h;exact (h4 h0).2.lt
theorem C_ {gs:List Nat} {ρ N:Nat} (h0:0<ρ) (h:gs++fJ G9 ρ=fJ G9 N):(gs++[ρ % G9])++fJ G9 (ρ / G9)=fJ G9 N:=by
 rw[<-h,lC (B:=G9) (by decide) h0,bg];rfl
theorem vh (va:aq) (xs:List Nat) (w:ag) (hx:Sl w .u32 va xs) (dx:eV aG xs) (lx:xs.length<=100000) :
  aW aj 183 #[va] w fun e w'=>∃ v,e=.returned v/\Sl w' .u32 v (fJ G9 (val aG xs))/\aA w.heap.size w w':=by
 obtain⟨i0,hi,hz0,gV,pJ⟩:=pS vS;obtain⟨ao,ac,rfl⟩:=bZ hx;go_enter Tryz.func183,Tryz.ntmps183
 go_wp2_with fail
 refine (yD _ xs w hx dx (by omega)).mono ?_;rintro e w1 ⟨v1,rfl,hs1,eH⟩;have Nt:=eH.size;have Hg:Hid ((fJ aG (val aG xs)).length≠0->w.heap.size<w1.heap.size):=aa (fun h=>hs1.Nj h)
 have HK:Hid ((fJ G9 (val aG xs)).length<=1000000):=aa (ah (f_ (B:=G9) (k:=2*xs.length) (by decide) (by
  have h1:=eW dx;have h2:aG ^ xs.length<=G9 ^ (2*xs.length):=by rw[Nat.pow_mul];exact Nat.pow_le_pow_left (by decide) _
  omega)) (by omega))
 generalize hN:val aG xs=N at *;have HN:=aa hN;clear hN;go_wp2_with fail
 go_loopw [3,4] (fun gv rv wr=>∃ (ρ:Nat) (gs post:List Nat),Ow wr w1.heap.size .u32 153 gv gs/\Ws wr .u32 153 rv w.heap.size [] (fJ aG ρ) post/\Hid (gs++fJ G9 ρ=fJ G9 N)/\eV aG gs/\aA w.heap.size w wr/\w1.heap.size<=wr.heap.size/\Hid ((fJ aG ρ).length≠0->w.heap.size<w1.heap.size)) (fun gv _ _=>(fJ G9 N).length - Eh gv)
 case atStart=>exact⟨N,[],[],Ow.nil _ _ _ _,hs1,aa rfl,eV.nil _,eH,ai _,Hg⟩
 case round =>
  clear hs1 eH Hg;obtain⟨ρ,gs,post,how,Np,HG,Ic,hb,hsz,Hg⟩:=hrel;have hlen:=aa Np.len;obtain⟨ro,rc,rfl⟩:=Np.at
  by_cases h0:0<ρ
  ·have hpos:0<(fJ aG ρ).length:=by rw[lC (by decide) h0];simp
   have ON:=Hg.out (by omega);have HG':=aa (C_ h0 HG.out)
   have aJr:gs.length<(fJ G9 N).length:=by
    have:=congrArg d_ HG.out;rw[eY,lC (B:=G9) (by decide) h0] at this
    simp at this;omega
   have hk:=HK.out;have Ep:ρ % G9<1000000000:=dZ _ (by decide);have HL:=aa how.len;go_wp2_with fail
   refine (xB w.heap.size [] _ post _ G9 _ wr Np (kE (by decide) _) rfl (by decide) (by decide)).mono ?_;rintro e w3 ⟨s',rfl,KG,LW,Et,Ie,Hw⟩;rw[iW (by decide)] at Hw ⊢;have WY:=how.grown LW ON;have kH:aA w.heap.size w w3:=hb.trans (fP LW (ai _) hb.size);have aJg:=LW.size;have Cp:=aa Hw;have V':=aa Et;clear Hw Et;obtain⟨m,hm⟩:∃ m,m=ρ % G9:=⟨_,rfl⟩
   rw[<-hm];rw[<-hm] at HG' Ep;clear hm;go_wp2_with (at_builtin;refine uG _ rfl (.tmp 12) (.tmp 15) 23 rfl 153 i0 .u32 Tryz.underlying23 hi hz0 gV ?c1 w1.heap.size _ gs rfl (WY.alloc _) w3.heap.size (m:Int) m rfl ?c2 rfl ?c3 ?c4 ?_)
   case c1=>omega
   case c2=>simp
   case c3=>omega
   case c4=>simp;omega
   intro v' w4 SU rN;have Qo:aA w1.heap.size w3 w4:=((ax _ _).alloc (by omega) _).trans rN;have DF:=KG.kept Qo (fun _=>ON);go_wp2_with fail
   refine (DZ _ _ _ s' _ w4 DF Ie).mono ?_;rintro e w5 ⟨v5,Sh,rfl,RC,rfl⟩;rw[Cp.out] at RC;go_wp2_with fail
   go_roundw
   case rel=>exact⟨ρ / G9,gs++[m],Sh,SU,RC,HG',Ic.append (by intro x hx;obtain rfl:=List.mem_singleton.1 hx;exact wJ Ep (by decide)),kH.trans (Qo.mono (by omega)),ah (by omega) Qo.size,aa (fun _=>ON)⟩
   case measure =>
    have e1:=HL.out;have e2:=SU.len;rw[eY] at e2
    simp at e2
    simp;omega
  have hr:ρ=0:=by omega
  subst hr;have HE:Hid (gs=fJ G9 N):=aa (by have:=HG.out;rwa [fD,dJ] at this);have Ck:(fJ aG 0).length=0:=by rw[fD];rfl
  have HL0:=aa Ck;have IX:(fJ aG 0).length<=0:=by omega
  clear Ck;go_wp2_with fail
  go_ret
  exact⟨_,rfl,by rw[HN.out,<-HE.out];exact how.sl,hb⟩
def pad:Nat->Nat->List UInt8
 | 0,_=>[]
 | k+1,g=>pad k (g / 10)++[UInt8.ofNat (48+g % 10)]
theorem pN (k:Nat):∀ (q g:Nat),0<q->g<10 ^ k->a_ (q*10 ^ k+g)=a_ q++pad k g:=by
 induction k with
 | zero=>intro q g hq hg;simp at hg;subst hg;simp[pad]
 | succ k ih =>
  intro q g hq hg
  have hbig:¬ q*10 ^ (k+1)+g<10:=by
   have:1*10 ^ (k+1)<=q*10 ^ (k+1):=aV _ hq;have h2:10<=10 ^ (k+1):=by rw[cj];have:=dj (n:=k) (show 0<10 by omega);omega
   omega
  have e1:(q*10 ^ (k+1)+g) / 10=q*10 ^ k+g / 10:=by
   rw[cj,<-nQ,Nat.add_comm,Nat.add_mul_div_right _ _ (by omega),Nat.add_comm]
  have e2:(q*10 ^ (k+1)+g) % 10=g % 10:=by
   rw[cj,<-nQ,Nat.add_comm,DB]
  have uZ:g / 10<10 ^ k:=eG (by rw[cj] at hg;omega);rw[a_,dif_neg hbig,e1,e2,ih q (g / 10) hq uZ,bg]
  rfl
theorem xP {q g:Nat} (hq:0<q) (hg:g<G9):a_ (g+G9*q)=a_ q++(a_ (G9+g)).drop 1:=by
 have h1:=pN 9 q g hq hg;have h2:=pN 9 1 g (by decide) hg;have hG:G9=1000000000:=rfl;rw[show q*10 ^ 9+g=g+G9*q by rw[hG];omega] at h1;rw[show 1*10 ^ 9+g=G9+g by rw[hG]] at h2;rw[h1,h2,Lib.decDigits_one (i:=1) (by decide)]
 rfl
theorem M9 (k g:Nat):(pad k g).length=k:=by
 induction k generalizing g with
 | zero=>rfl
 | succ k ih=>simp[pad,ih]
theorem Aw {g:Nat} (hg:g<G9):(a_ (G9+g)).length=10:=by
 have h2:=pN 9 1 g (by decide) hg;rw[show 1*10 ^ 9+g=G9+g from rfl] at h2;rw[h2,eY,M9,Lib.decDigits_one (i:=1) (by decide)];rfl
theorem mD {n k:Nat} (h:n<10 ^ k) (hk:0<k):(a_ n).length<=k:=by
 rw[Lib.decDigits_length];rcases ir n 10 with h1 | h1
 ·rw[Lib.nDigits_small h1];exact hk
 induction k generalizing n with
 | zero=>omega
 | succ k ih =>
  rw[Lib.nDigits_big (by omega)];have h2:n / 10<10 ^ k:=eG (by rw[cj] at h;omega)
  have pe:0<k:=by
   rcases bQ k with h0 | h0
   ·subst h0;simp at h2;omega
   exact h0
  rcases ir (n / 10) 10 with h3 | h3
  ·rw[Lib.nDigits_small h3];omega
  have:=ih h2 pe h3;omega
theorem my {B:Nat} {gs:List Nat} {k:Nat} (hk:k<gs.length):val B (gs.drop k)=gs.getD k 0+B*val B (gs.drop (k+1)):=by
 rw[iw hk]
 simp[val,dW,hk]
theorem Db (l:List UInt8):(⟨l.toArray⟩:ByteArray).extract 1 (⟨l.toArray⟩:ByteArray).size=⟨(l.drop 1).toArray⟩:=by
 apply ByteArray.ext
 simp[ByteArray.size]
 rw[cw (by simp)]
theorem zH {gs:List Nat} (hd:eV G9 gs) (k:Nat) (hl:gs.length<=20000):(a_ (val G9 (gs.drop k))).length<=180009:=by
 have h1:=eW (hd.drop k)
 have h2:G9 ^ (gs.drop k).length<=10 ^ (9*gs.length+9):=by
  rw[show G9=10 ^ 9 from rfl,<-Nat.pow_mul];exact cf (by decide) (by rw[jh];omega)
 have:=mD (az h1 h2) (by omega)
 omega
theorem B4 {gs:List Nat} (hd:eV G9 gs) {k:Nat} (hk:k<gs.length) (hp:0<val G9 (gs.drop (k+1))) :
  a_ (val G9 (gs.drop k))=a_ (val G9 (gs.drop (k+1)))++(a_ (G9+gs.getD k 0)).drop 1/\0<val G9 (gs.drop k):=by
 rw[my hk];refine⟨xP hp (hd.getD (by decide) k),?_⟩;have:1*1<=G9*val G9 (gs.drop (k+1)):=iU (by decide) hp
 omega
def Pj (w0:ag) (P:Nat->Prop):Prop:=
 ∀ (w:ag) (i:Nat) (z:Int),aA w0.heap.size w0 w->z=(i:Int)->P i->aW aj 184 #[.int .u64 z,.int .i64 10] w fun e w'=>e=.returned (.string ⟨(a_ i).toArray⟩)/\aA w.heap.size w w'
theorem Ji (P:Nat->Prop) (va:aq) (xs:List Nat) (w:ag) (fmt:Pj w P) (hx:Sl w .u32 va xs) (dx:eV aG xs) (lx:xs.length<=10000)
  (ZW:∀ g,g<G9->(fJ G9 (val aG xs)).getD ((fJ G9 (val aG xs)).length - 1) 0=g->P g) (ZV:2<=(fJ G9 (val aG xs)).length->∀ g,g<G9->P (G9+g)) :
  aW aj 151 #[va] w fun e w'=>e=.returned (.string ⟨(a_ (val aG xs)).toArray⟩)/\aA w.heap.size w w':=by
 have FMT:=aa fmt;clear fmt
 have HGL:Hid ((fJ G9 (val aG xs)).length<=20000):=aa (ah (f_ (B:=G9) (k:=2*xs.length) (by decide) (by
  have h1:=eW dx;have h2:aG ^ xs.length<=G9 ^ (2*xs.length):=by rw[Nat.pow_mul];exact Nat.pow_le_pow_left (by decide) _
  omega)) (by omega))
 have DG:=vh va xs w hx dx (by omega);have DGH:=aa DG;clear DG;have dg:=kE (B:=G9) (by decide) (val aG xs);have HV:=aa (iW (B:=G9) (by decide) (val aG xs));have UR:=aa (@Dk G9 (val aG xs) (by decide));have HP1:=aa ZW;have HP2:=aa ZV;clear ZW ZV dx;generalize fJ G9 (val aG xs)=gs at *;generalize val aG xs=N at *
 by_cases h0:gs.length=0
 ·have HN:Hid (N=0):=aa (by have:=HV.out;rw[gK h0] at this;simpa [val] using this.symm);have hz:(((gs.length:Nat):Int)==0)=true:=by rw[h0];rfl
  have H0:=aa h0;clear h0;go_enter Tryz.func151,Tryz.ntmps151
  go_wp2_with fail
  refine DGH.out.mono ?_;rintro e w1 ⟨v1,rfl,hs1,eH⟩;obtain⟨ao,ac,rfl⟩:=bZ hs1;go_wp2_with fail
  go_ret
  exact⟨by rw[HN.out,Lib.decDigits_one (i:=0) (by decide)];rfl,eH⟩
 have hz:(((gs.length:Nat):Int)==0)=false:=by rw[beq_eq_false_iff_ne];omega
 have hp:1<=gs.length:=by omega
 clear h0;go_enter Tryz.func151,Tryz.ntmps151
 go_wp2_with fail
 refine DGH.out.mono ?_;rintro e w1 ⟨v1,rfl,hs1,eH⟩;have pY:=aa hs1;obtain⟨ao,ac,rfl,a1,a2,a3,a4⟩:=hs1;obtain⟨a,rfl,hca⟩:=a4 (gs.length - 1) (by omega);clear a4;have g1:0<=nth gs (gs.length - 1)/\nth gs (gs.length - 1)<1000000000:=by have:=dg.getD (by decide) (gs.length - 1);have hG:G9=1000000000:=rfl;unfold nth;omega
 have ON:=HGL.out
 have Xt:(w1.alloc (.cells #[.pointer none,.slice none 0 0] 109)).cell? (a.add (gs.length - 1))=some (.int .u32 (nth gs (gs.length - 1))):=by
  rw[World.cell?_alloc_lt _ _ _ (cu hca)];exact hca
 have TH:uE w1.heap.size w1.heap.size [] (w1.alloc (.cells #[.pointer none,.slice none 0 0] 109)):=Lib.fresh_isBuilder 109 5 w1;have Xy:aA w1.heap.size w1 (w1.alloc (.cells #[.pointer none,.slice none 0 0] 109)):=(ax _ _).alloc (ai _) _;have hsW:w1.heap.size<(w1.alloc (.cells #[.pointer none,.slice none 0 0] 109)).heap.size:=by simp
 have ZK:=dg.getD (by decide) (gs.length - 1);have OL:=UR.out (by omega)
 have OQ:val G9 (gs.drop (gs.length - 1))=gs.getD (gs.length - 1) 0:=by
  rw[my (by omega),gP (by omega)];simp[val]
 have HD0:=aa OQ;have Fh:=aa OL;clear OQ OL;go_wp2_with fail
 generalize (w1.alloc (.cells #[.pointer none,.slice none 0 0] 109))=W2 at *;have NJ:aA w.heap.size w W2:=eH.trans (Xy.mono eH.size);refine (FMT.out W2 (gs.getD (gs.length - 1) 0) _ NJ rfl (HP1.out _ ZK rfl)).mono ?_;rintro e w3 ⟨rfl,kH⟩;have Tv:=TH.below kH;have KG:=kH.size;have Ty:aA w.heap.size w w3:=NJ.trans (kH.mono NJ.size);have Tz:aA w1.heap.size w1 w3:=Xy.trans (kH.mono (by omega));rw[<-HD0.out];have Xq:=zH dg (gs.length - 1) ON;have hpos:0<val G9 (gs.drop (gs.length - 1)):=by rw[HD0.out];have:=Fh.out;omega
 have Og:=aa hpos;clear hpos;generalize hL:a_ (val G9 (gs.drop (gs.length - 1)))=L at *;have HL:=aa hL;clear hL;generalize hS:(⟨L.toArray⟩:ByteArray)=sv at *;have HS:=aa hS;clear hS;go_wp2_with fail
 refine (q9 w1.heap.size w1.heap.size [] L sv w3 Tv HS.out.symm (by simp;omega) (by omega)).mono ?_;rintro e w4 ⟨v4,rfl,Qm,rN⟩;rw[List.nil_append] at Qm;have Tw:aA w.heap.size w w4:=Ty.trans (rN.mono eH.size);have Tx:aA w1.heap.size w1 w4:=Tz.trans rN;have DF:=rN.size;go_wp2_with fail
 go_loopw [6] (fun i wr=>∃ k:Nat,k<=gs.length - 1/\i=.int .i64 ((k:Int) - 1)/\uE w1.heap.size w1.heap.size (a_ (val G9 (gs.drop k))) wr/\Hid (0<val G9 (gs.drop k))/\aA w.heap.size w wr/\aA w1.heap.size w1 wr/\w1.heap.size<wr.heap.size) (fun i _=>(ei i+1).toNat)
 case atStart=>exact⟨gs.length - 1,ai _,by congr 1;omega,by rw[HL.out];exact Qm,Og,Tw,Tx,by omega⟩
 case round =>
  clear Tv Ty Tz Qm Tw Tx DF KG kH rN Og HL HS TH Xy hsW NJ Xt Xq;obtain⟨k,hk,rfl,dw,Og,hb,ZQ,hsz⟩:=hrel
  by_cases h0:0<k
  ·have hc:wr.cell? (a.add (k - 1))=some (.int .u32 (nth gs (k - 1))):=by
    have:=pY.out.at (i:=k - 1) (by omega);rw[ZQ.cell (cu this)];exact this
   have gk:=dg.getD (by decide) (k - 1);have gk':0<=nth gs (k - 1)/\nth gs (k - 1)<1000000000:=by have hG:G9=1000000000:=rfl;unfold nth;omega
   have HR:=aa (B4 dg (k:=k - 1) (by omega) (by rw[show k - 1+1=k by omega];exact Og.out));have hP:=HP2.out (by omega) _ gk;have Nr:=Aw gk;have Xq:=zH dg k ON;have hex:=Db (a_ (G9+gs.getD (k - 1) 0));have hsize:(⟨(a_ (G9+gs.getD (k - 1) 0)).toArray⟩:ByteArray).size=10:=by simpa [ByteArray.size] using Nr
   have hdr:((a_ (G9+gs.getD (k - 1) 0)).drop 1).length=9:=by rw[jh,Nr]
   have aK4:=aa Nr;clear Nr;go_wp2_with fail
   refine (FMT.out wr (G9+gs.getD (k - 1) 0) _ hb (by unfold nth;simp) hP).mono ?_;rintro e w5 ⟨rfl,we⟩;have Xx:=dw.below we;have RC:=we.size;have XA:aA w.heap.size w w5:=hb.trans (we.mono hb.size);have XB:aA w1.heap.size w1 w5:=ZQ.trans (we.mono (by omega));generalize hM:(a_ (G9+gs.getD (k - 1) 0)).drop 1=M at *;generalize hS:(⟨(a_ (G9+gs.getD (k - 1) 0)).toArray⟩:ByteArray)=sv at *;have RR:=aa hex;have Nt:1<=sv.size/\sv.size<=10:=by omega
   clear hex hS hM hsize;go_wp2_with fail
   refine (q9 w1.heap.size w1.heap.size _ M _ w5 Xx RR.out (by omega) (by omega)).mono ?_;rintro e w6 ⟨v6,rfl,KY,Xz⟩;have P7:=Xz.size;go_wp2_with fail
   go_roundw
   case rel =>
    refine⟨k - 1,by omega,by go_num,?_,aa HR.out.2,XA.trans (Xz.mono eH.size),XB.trans Xz,by omega⟩;have h:=HR.out.1;rw[show k - 1+1=k by omega] at h;rw[h];exact KY
   case measure=>simp[ei];omega
  have pe:k=0:=by omega
  subst pe;have HN:Hid (val G9 (gs.drop 0)=N):=aa (by rw[cx];exact HV.out);go_wp2_with fail
  refine (Tryz.Builder_String_any w1.heap.size w1.heap.size _ wr dw (by omega)).mono ?_;rintro e w7 ⟨rfl,x_⟩;rw[HN.out];go_wp2_with fail
  go_ret
  exact⟨rfl,hb.trans (x_.mono eH.size)⟩
theorem D4 {t ys:List Nat} {S x k c z:Nat} (hy:k<ys.length) (ht:k<t.length) (hv:val aG t+c*aG ^ k=S+x*val aG (ys.take k)) (hz:z=c+(x*ys.getD k 0+t.getD k 0)) :
  val aG (t.set k (z % aG))+(z / aG)*aG ^ (k+1)=S+x*val aG (ys.take (k+1)):=by
 have h1:=kY aG t k (z % aG) ht;rw[gF aG ys k hy,cj];have h2:=ju z aG;generalize z % aG=r at *;generalize z / aG=q at *;generalize aG ^ k=P at *;have h3:(r+aG*q)*P=(c+(x*ys.getD k 0+t.getD k 0))*P:=by rw[h2,hz]
 grind
theorem qd {x y:Nat} (hx:x<4294967296) (hy:y<4294967296):x*y<=18446744065119617025:=
 ah (iU (show x<=4294967295 by omega) (show y<=4294967295 by omega)) (by decide)
theorem Cc (g:Nat) (pre s post ys:List Nat) (vs vb:aq) (x:Nat) (zx:Int) (w:ag) (hw:Ws w .u32 153 vs g pre s post) (hb:Sl w .u32 vb ys) (ha:ua g vb) (hl:ys.length<s.length)
  (hs:eV aG s) (hy:eV aG ys) (WK:zx=(x:Int)) (hx:x<4294967296) (h0:s.getD ys.length 0=0) :
  aW aj 149 #[vs,vb,.int .u32 zx] w fun e w'=>∃ s',e=.returned (.tuple #[])/\Ws w' .u32 153 vs g pre s' post/\w.grownBy w' (some g)/\s'.length=s.length/\eV aG s' /\
   val aG s'=val aG s+x*val aG ys:=by
 subst WK;have H0:=aa h0;clear h0;obtain⟨ao,cap,rfl,h1,h2,h3,h4⟩:=hw;have HB:=aa hb;obtain⟨bo,QO,rfl,k1,k2,k3,k4⟩:=hb;go_enter Tryz.func149,Tryz.ntmps149
 go_wp2
 go_loopw [6,11] (fun c i wr=>∃ (k:Nat) (t:List Nat) (cc:Nat),i=.int .i64 k/\c=.int .u64 (cc:Int)/\cc<4294967296/\k<=ys.length/\w.grownBy wr (some g)/\Hid (t.length=s.length)/\eV 4294967296 t /\
   Fe wr .u32 153 ao g pre t post s.length/\Hid (t.drop k=s.drop k)/\Hid (val aG t+cc*aG ^ k=val aG s+x*val aG (ys.take k)))
  (fun _ i _=>ys.length - (ei i).toNat)
 case atStart=>exact⟨0,s,0,rfl,rfl,by omega,by omega,aI _ _,aa rfl,hs,h4,aa rfl,aa (by simp[val])⟩
 case round =>
  obtain⟨k,t,cc,rfl,rfl,tj,hk,hg,Ht,rG,hB,HD,HV⟩:=hrel
  by_cases hlt:k<ys.length
  ·obtain⟨b,rfl,hcb⟩:=k4 k hlt;obtain⟨rfl,sD⟩:=hB (by omega);have ng:k<t.length:=by have:=Ht.out;omega
   have NH:=(HB.out.grown hg ha).at hlt
   have hct:wr.cell? ⟨g,pre.length+k,none⟩=some (.int .u32 (nth t k)):=by
    rw[sD.cell (by simp;omega),nA _ _ _ _ ng]
   have hft:=sD.frozen (pre.length+k);have y1:=jq hy k;have t1:=jq rG k;have y0:=hy.getD (by decide) k;have t0:=rG.getD (by decide) k
   have hm:0<=(x:Int)*nth ys k/\(x:Int)*nth ys k<=18446744065119617025:=by
    have:=qd hx y0;have e:(x:Int)*nth ys k=((x*ys.getD k 0:Nat):Int):=by unfold nth;simp
    rw[e];omega
   have HE:=aa (show (cc:Int)+((x:Int)*nth ys k+nth t k)=((cc+(x*ys.getD k 0+t.getD k 0):Nat):Int) by unfold nth;simp);have BK:cc+(x*ys.getD k 0+t.getD k 0)<18446744073709551616:=by have:=qd hx y0;omega
   have HS:=aa (D4 (x:=x) (ys:=ys) hlt ng HV.out rfl);have HZ:=aa BK;clear hcb hB h4 k4 y0 t0 BK
   go_wp2
   go_roundw
   case rel =>
    have hE:=HE.out;have hz:=HZ.out;refine⟨k+1,t.set k ((cc+(x*ys.getD k 0+t.getD k 0)) % aG),(cc+(x*ys.getD k 0+t.getD k 0)) / aG,by go_num,?_,?_,by omega,aF hg _,aa (by rw[bY];exact Ht.out),rG.set (dZ _ (by decide)),fun _=>⟨rfl,?_⟩,aa ?_,HS⟩
    ·rw[hE];congr 1
    ·exact eG (by omega)
    ·rw[<-nn _ _ _ _ _ ng];exact sD.set _ _ _ (by rw[hE];rfl)
    rw[List.drop_set_of_lt (by omega)];have:=congrArg (List.drop 1) HD.out
    rwa [List.drop_drop,List.drop_drop] at this
   case measure=>simp[ei];omega
  have hkk:k=ys.length:=by omega
  subst hkk;obtain⟨rfl,sD⟩:=hB (by omega);have ng:ys.length<t.length:=by have:=Ht.out;omega
  have hft:=sD.frozen (pre.length+ys.length)
  have hct:wr.cell? ⟨g,pre.length+ys.length,none⟩=some (.int .u32 (nth t ys.length)):=by
   rw[sD.cell (by simp;omega),nA _ _ _ _ ng]
  have Zq:t.getD ys.length 0=0:=by
   have:=congrArg (fun l=>l.getD 0 0) HD.out;simp only[List.getD_eq_getElem?_getD,List.getElem?_drop,pT] at this ⊢;rw[this];have h:=H0.out
   simpa using h
  have OP:val aG (t.set ys.length cc)=val aG s+x*val aG ys:=by
   have h1:=kY aG t ys.length cc ng;have h2:=HV.out;rw[bK] at h2;rw[Zq] at h1
   omega
  have HF:=aa OP;clear OP Zq hB h4 k4
  go_wp2
  go_end0
  refine⟨t.set ys.length cc,rfl,⟨some ⟨g,pre.length,none⟩,cap,by rw[bY,Ht.out],by rw[bY,Ht.out];exact h1,h2,h3,fun _=>⟨rfl,?_⟩⟩,aF hg _,by rw[bY];exact Ht.out,rG.set tj,HF.out⟩;rw[<-nn _ _ _ _ _ ng];exact sD.set _ _ _ (by omega)
theorem Ia {B:Nat} {xs:List Nat} (hB:2<=B) {m:Nat} (h:val B xs<B ^ m) {j:Nat} (hj:m<=j):xs.getD j 0=0:=by
 by_cases hl:j<xs.length
 ·have h1:=jB B xs (j+1) (by omega);have h2:=gF B xs j hl;rw[h2] at h1;have h3:B ^ m<=B ^ j:=cf (by omega) hj;rcases bQ (xs.getD j 0) with h0 | h0
  ·exact h0
  have:1*B ^ j<=xs.getD j 0*B ^ j:=aV _ h0
  omega
 exact u_ (by omega)
theorem J8 {P s' xs ys:List Nat} {i:Nat} (hi:i<=P.length) (hv:val aG P=val aG (xs.take i)*val aG ys) (hs:val aG s'=val aG (P.drop i)+xs.getD i 0*val aG ys) :
  val aG (P.take i++s')=val aG (xs.take (i+1))*val aG ys:=by
 rw[mb,hs,dG,dH,<-hv,jB aG P i hi,aX,cX hi]
 grind
theorem J9 {P xs ys:List Nat} {i:Nat} (dx:eV aG xs) (dy:eV aG ys) (hi:i<=xs.length) (hv:val aG P=val aG (xs.take i)*val aG ys):(P.drop i).getD ys.length 0=0:=by
 have h1:=eW (dx.take i);have h2:=eW dy;rw[aX,cX hi] at h1
 have h3:val aG P<aG ^ (i+ys.length):=by
  rw[hv,jR];exact Nat.mul_lt_mul'' h1 h2
 have:=Ia (B:=aG) (xs:=P) (by decide) h3 (ai _)
 simpa [dW,List.getElem?_drop] using this
theorem Mo {w:ag} {T:bn} {g i n:Nat} {P:List Nat} (hB:pR w g .u32 T P) (hi:i<P.length) (hn:n=P.length - i) (hm:P.length<=9223372036854775807) :
  Ws w .u32 T (.slice (some ⟨g,i,none⟩) n n) g (P.take i) (P.drop i) []:=by
 have e1:(P.drop i).length=n:=by simp;omega
 have e2:(P.take i).length=i:=by simp;omega
 refine⟨some ⟨g,i,none⟩,n,by rw[e1],by rw[e1];omega,by omega,(fun e=>by cases e),fun _=>⟨by rw[e2],?_⟩⟩;rw[o7,dJ];exact hB
theorem Ct {w:ag} {T:bn} {v:aq} {g:Nat} {pre s post:List Nat} (h:Ws w .u32 T v g pre s post) (h0:s.length≠0):pR w g .u32 T (pre++s++post):=by
 obtain⟨_,_,_,_,_,_,h4⟩:=h;exact (h4 h0).2
theorem M6 (va vb:aq) (xs ys:List Nat) (w:ag) (hx:Sl w .u32 va xs) (hy:Sl w .u32 vb ys) (dx:eV aG xs) (dy:eV aG ys) (lx:xs.length<=1000000) (ly:ys.length<=1000000) :
  aW aj 99 #[va,vb] w fun e w'=>∃ v,e=.returned v/\Sl w' .u32 v (fJ aG (val aG xs*val aG ys))/\aA w.heap.size w w':=by
 obtain⟨i0,hi,hz0,gV,pJ⟩:=pS vS;obtain⟨ao,ac,rfl⟩:=bZ hx;obtain⟨bo,bc,rfl⟩:=bZ hy;have nx:=gT xs;have ny:=gT ys;have hx':=hx.take (nz xs) nx;have hy':=hy.take (nz ys) ny;have Cn:=dx.take (nz xs);have Ma:=dy.take (nz ys);have VX:=ck (B:=aG) (by decide) dx;have VY:=ck (B:=aG) (by decide) dy;have ex:(xs.take (nz xs)).length=nz xs:=by simp;omega
 have ey:(ys.take (nz ys)).length=nz ys:=by simp;omega
 have Ag:=aa hx;have UJ:=aa hy;have Dx:=aa (fun w=>eA ao xs.length ac xs w);have Q3:=aa (fun w=>eA bo ys.length bc ys w);clear hx hy;rw[<-VX,<-VY];clear VX VY dx dy;generalize xs.take (nz xs)=X at *;generalize ys.take (nz ys)=Y at *;generalize nz xs=n at *;generalize nz ys=m at *
 have SX:Hid (∀ w1,aA w.heap.size w w1->∀ k,k<n->∃ a,ao=some a/\w1.cell? (a.add k)=some (.int .u32 (nth X k))):=by
  intro w1 hb k hk;obtain⟨QU,cap',e,_,_,_,q⟩:=hx'.below hb;injection e with e1 e2 e3;subst e1;exact q k (by omega)
 have EX:=aa ex;have EY:=aa ey;clear ex ey;go_enter Tryz.func99,Tryz.ntmps99
 go_wp2_with fail
 refine (Dx.out _ Ag.out).mono ?_;rintro e w' ⟨rfl,rfl⟩;go_wp2_with fail
 refine (Q3.out _ UJ.out).mono ?_;rintro e w' ⟨rfl,rfl⟩;go_wp2_with (at_make;refine iO _ rfl _ _ 24 rfl 153 i0 .u32 mF hi hz0 gV _ _ _ _ (n+m) rfl rfl (by omega) (by omega) (by omega) (by omega) ?_;intro w1 FX eH hs1)
 go_loopw [20] (fun j wr=>∃ (i:Nat) (P:List Nat),j=.int .i64 i/\i<=n/\pR wr w.heap.size .u32 153 P/\aA w.heap.size w wr/\eV aG P/\Hid (P.length=n+m)/\Hid (val aG P=val aG (X.take i)*val aG Y)) (fun j _=>n - (ei j).toNat)
 case atStart=>exact⟨0,_,rfl,au _,FX,eH,eV.replicate (by decide) _,aa (by simp),aa (by rw[iK];simp[val])⟩
 case round =>
  clear FX eH hs1;obtain⟨i,P,rfl,hin,hB,hb,ND,HL,HV⟩:=hrel
  by_cases hlt:i<n
  ·obtain⟨a,rfl,hca⟩:=SX.out wr hb i hlt;have hiP:i<P.length:=by have:=HL.out;omega
   have No:=jq Cn i;have hx0:=Cn.getD (by decide) i;have Np:=Mo (n:=n+m - i) hB hiP (by rw[HL.out]) (by have:=HL.out;omega);have hh0:=aa (J9 Cn Ma (by rw[EX.out];exact hin) HV.out);have hap:ua w.heap.size (.slice bo m bc):=p9 hy' (ai _);have hsize:Hid ((P.drop i).length=n+m - i):=aa (by rw[jh,HL.out]);have Vv:=hy'.below hb;go_wp2_with fail
   refine (Cc w.heap.size (P.take i) (P.drop i) [] Y _ _ (X.getD i 0) _ wr Np Vv hap (by rw[hsize.out,EY.out];omega) (ND.drop i) Ma rfl hx0 hh0.out).mono ?_;rintro e w3 ⟨s',rfl,KG,LW,Et,Ie,Hw⟩;have kH:aA w.heap.size w w3:=hb.trans (fP LW (ai _) hb.size);have RJ:=Ct KG (by rw[Et,hsize.out];omega);rw[dJ] at RJ;have Cp:=aa (J8 (by omega) HV.out Hw);have V':=aa Et;clear Hw Et KG LW Np hB;go_wp2_with fail
   go_roundw
   case rel=>exact⟨i+1,P.take i++s',by go_num,by omega,RJ,kH,(ND.take i).append Ie,aa (by rw[eY,V'.out,hsize.out,aX,HL.out];omega),Cp⟩
   case measure=>simp[ei];omega
  have NB:i=n:=by omega
  subst NB
  have hv:val aG P=val aG X*val aG Y:=by
   have h:=HV.out
   rwa [cw (by rw[EX.out];omega)] at h
  have Pc:=aa hv;clear hv;have FO:=hB.sl 0 (i+m) (i+m) (by rw[HL.out];omega) (ai _) (by omega);rw[cx,cw (by rw[HL.out];omega)] at FO;go_wp2_with fail
  refine (jC _ P _ FO ND).mono ?_;rintro e w4 ⟨v4,rfl,KC,rfl⟩;go_wp2_with fail
  go_ret
  refine⟨_,rfl,?_,hb⟩;rw[Pc.out] at KC;exact KC
def GN (w:ag) (v:aq) (n k:Nat):Prop:=∃ xs,Sl w .u32 v xs/\eV aG xs/\val aG xs=n/\xs.length<=k
theorem GN.below {w w':ag} {v:aq} {n k:Nat} (h:GN w v n k) (hb:aA w.heap.size w w'):GN w' v n k:=by
 obtain⟨xs,h1,h2,h3,h4⟩:=h;exact⟨xs,h1.below hb,h2,h3,h4⟩
theorem GN.lt {w:ag} {v:aq} {n k:Nat} (h:GN w v n k):n<aG ^ k:=by
 obtain⟨xs,_,h2,h3,h4⟩:=h;rw[<-h3];exact az (eW h2) (cf (by decide) h4)
theorem wg {w:ag} {v:aq} {n k:Nat} (h:Sl w .u32 v (fJ aG n)) (hn:n<aG ^ k):GN w v n k:=
 ⟨_,h,kE (by decide) _,iW (by decide) _,f_ (by decide) hn⟩
theorem yS {m n k1 k2:Nat} (h1:m<aG ^ k1) (h2:n<aG ^ k2):m+n<aG ^ (k1+k2+1):=by
 have a:aG ^ k1<=aG ^ (k1+k2):=cf (by decide) (by omega);have b:aG ^ k2<=aG ^ (k1+k2):=cf (by decide) (by omega);rw[cj];have:aG ^ (k1+k2)*2<=aG ^ (k1+k2)*aG:=fk _ (by decide)
 omega
theorem Ue {va vb:aq} {m n k1 k2:Nat} {w:ag} (hx:GN w va m k1) (hy:GN w vb n k2) :
  aW aj 96 #[va,vb] w fun e w'=>e=.returned (.int .i64 (nG m n))/\aA w.heap.size w w':=by
 obtain⟨xs,hx,dx,rfl,lx⟩:=hx;obtain⟨ys,hy,dy,rfl,ly⟩:=hy;exact tu _ _ _ _ w hx hy dx dy
theorem Sj (n:Nat) (z:Int) (w:ag) (hz:z=(n:Int)) (hn:n<18446744073709551616) :
  aW aj 91 #[.int .u64 z] w fun e w'=>∃ v,e=.returned v/\GN w' v n 2/\aA w.heap.size w w':=
 (Ed n z w hz hn).mono fun _ _ ⟨v,he,hs,hb⟩=>⟨v,he,wg hs (by
  have h:aG ^ 2=18446744073709551616:=by decide
  omega),hb⟩
def bl (n:Nat):Nat:=(fJ 2 n).length
theorem yg:bl 0=0:=by unfold bl;rw[fD];rfl
theorem B_ {n:Nat} (h:0<n):bl n=1+bl (n / 2):=by unfold bl;rw[lC (by decide) h];simp;omega
theorem Bf (n:Nat) (h:n<2 ^ 64):Lib.bitLen n=bl n:=by
 induction n using ue with
 | ind n ih =>
  by_cases h0:n=0
  ·subst h0;rw[yg];decide
  rw[Lib.bitLen_half n h0 h,B_ (by omega),ih (n / 2) (by omega) (by omega)]
theorem QL (k:Nat):∀ v t:Nat,v<2 ^ k->0<t->bl (v+t*2 ^ k)=k+bl t:=by
 induction k with
 | zero=>intro v t hv ht;simp at hv;subst hv;simp
 | succ k ih =>
  intro v t hv ht;have hp:0<2 ^ (k+1):=dj (by decide);have hpos:0<v+t*2 ^ (k+1):=by have:=Nat.mul_pos ht hp;omega
  rw[B_ hpos];have e:(v+t*2 ^ (k+1)) / 2=v / 2+t*2 ^ k:=by rw[cj,<-nQ];omega
  rw[e,ih (v / 2) t (by rw[cj] at hv;omega) ht]
  omega
theorem O5 {n k:Nat} (h:n<2 ^ k):bl n<=k:=f_ (by decide) h
theorem bits_nat (va:aq) (xs:List Nat) (w:ag) (hx:Sl w .u32 va xs) (dx:eV aG xs) (lx:xs.length<=1000000) :
  aW aj 105 #[va] w fun e w'=>e=.returned (.int .i64 ((bl (val aG xs):Nat):Int))/\w=w':=by
 have HX:=aa hx;obtain⟨ao,ac,rfl,a1,a2,a3,a4⟩:=hx;have nx:=gT xs
 by_cases h0:nz xs=0
 ·have hv:val aG xs=0:=by rw[<-ck (B:=aG) (by decide) dx,h0];rfl
  have HV:=aa hv;have hz:(((nz xs:Nat):Int)==0)=true:=by rw[h0];rfl
  clear h0 hv a4;go_enter Tryz.func105,Tryz.ntmps105
  go_wp2_with fail
  refine (eA _ _ _ xs _ HX.out).mono ?_;rintro e w' ⟨rfl,rfl⟩;go_wp2_with fail
  go_ret
  exact⟨by rw[HV.out,yg];rfl,rfl⟩
 have hz:(((nz xs:Nat):Int)==0)=false:=by rw[beq_eq_false_iff_ne];omega
 have hp:1<=nz xs:=by omega
 obtain⟨a,rfl,hca⟩:=a4 (nz xs - 1) (by omega);have t1:=dx.getD (by decide) (nz xs - 1);have t2:=jq dx (nz xs - 1);have hl:bl (xs.getD (nz xs - 1) 0)<=32:=O5 t1
 have dw:Lib.bitLen (nth xs (nz xs - 1)).toNat=bl (xs.getD (nz xs - 1) 0):=by
  unfold nth;rw[Int.toNat_natCast];exact Bf _ (wJ t1 (by decide))
 have WT:0<xs.getD (nz xs - 1) 0:=by
  rcases bQ (xs.getD (nz xs - 1) 0) with h | h
  ·have h3:=BB (xs:=xs.take (nz xs)) (k:=nz xs - 1) (by rw[aX];omega) (by simpa [dW,show nz xs - 1<nz xs by omega] using h);have h5:(fJ aG (val aG xs)).length=nz xs:=fx (by decide) dx;have h6:=qE (B:=aG) (by decide) (kE (B:=aG) (by decide) (val aG xs));rw[iW (by decide)] at h6;have h7:=congrArg d_ h6;rw[aX,h5,qR (by decide) dx] at h7
   have h8:nz ((xs.take (nz xs)).take (nz xs - 1+1))=nz (xs.take (nz xs)):=by
    rw[show nz xs - 1+1=nz xs by omega,List.take_take,Nat.min_self]
   have h9:=gT ((xs.take (nz xs)).take (nz xs - 1));rw[aX,aX] at h9
   omega
  exact h
 have oE:bl (val aG xs)=(nz xs - 1)*32+bl (xs.getD (nz xs - 1) 0):=by
  have e:=ck (B:=aG) (by decide) dx;have e2:=dG aG xs (nz xs - 1);rw[show nz xs - 1+1=nz xs by omega] at e2;have e3:aG ^ (nz xs - 1)=2 ^ ((nz xs - 1)*32):=by rw[fN,Nat.pow_mul]
  have e4:=eW (dx.take (nz xs - 1));rw[aX,cX (by omega),e3] at e4;rw[<-e,e2,e3,QL _ _ _ e4 WT]
 generalize bl (xs.getD (nz xs - 1) 0)=b at *;have HF:=aa oE;have HB:=aa dw;clear h0 a4 dw oE;go_enter Tryz.func105,Tryz.ntmps105
 go_wp2_with fail
 refine (eA _ _ _ xs _ HX.out).mono ?_;rintro e w' ⟨rfl,rfl⟩;go_wp2_with fail
 refine (Tryz.bits_Len32 _ _ (by omega) (by omega)).mono ?_;rintro e w' ⟨rfl,rfl⟩;rw[HB.out];go_wp2_with fail
 go_ret
 refine⟨?_,rfl⟩;rw[HF.out,show (((nz xs - 1)*32+b:Nat):Int)=(((nz xs:Nat):Int) - 1)*32+(b:Int) by omega]
 rfl
theorem EZ {va:aq} {n k:Nat} {w:ag} (hx:GN w va n k) (hk:k<=1000000) :
  aW aj 105 #[va] w fun e w'=>e=.returned (.int .i64 ((bl n:Nat):Int))/\w=w':=by
 obtain⟨xs,hx,dx,rfl,lx⟩:=hx;exact bits_nat _ _ w hx dx (by omega)
theorem DY (B:Nat) (P:List Nat) (k d:Nat) (h:k<P.length):val B (P.set k (P.getD k 0+d))=val B P+d*B ^ k:=by
 have:=kY B P k (P.getD k 0+d) h;rw[dH] at this
 omega
theorem eJ (P:List Nat) (i v t:Nat):(P.set i v).getD t 0=if t=i/\i<P.length then v else P.getD t 0:=by
 by_cases h:t=i
 ·subst h
  by_cases hl:t<P.length
  ·simp[dW,hl]
  simp[dW,hl]
 rw[List.getD_eq_getElem?_getD,List.getElem?_set_ne (fun e=>h e.symm),<-List.getD_eq_getElem?_getD,if_neg (by simp[h])]
def jQ (w w':ag):Prop:=∀ a k z,w.cell? a=some (.int k z)->w'.cell? a=some (.int k z)
theorem jQ.refl (w:ag):jQ w w:=fun _ _ _ h=>h
theorem jQ.trans {a b c:ag} (h:jQ a b) (k:jQ b c):jQ a c:=fun p i z hc=>k p i z (h p i z hc)
theorem Below.keeps {w w':ag} (h:aA w.heap.size w w'):jQ w w':=fun a k z hc=>by
 rw[h.cell (World.block_lt_of_cell? w a hc)];exact hc
theorem jQ.set {w w':ag} (h:jQ w w') {p:cB} {u:aq} (hc:w'.cell? p=some u) (hu:∀ k z,u ≠ .int k z) (x:aq):jQ w (w'.setCell p x):=fun a k z h0=>by
 have h1:=h a k z h0;rw[World.cell?_setCell_other w' p a x (fun e=>by rw[<-e,hc] at h1;injection h1 with h1;exact hu _ _ h1)];exact h1
def yX (c:Array aq):Bool:=c.toList.all fun v=>match v with | .int ..=>false | _=>true
theorem yW {c:Array aq} (h:yX c=true) {i:Nat} {v:aq} (hv:c[i]?=some v):∀ k z,v ≠ .int k z:=by
 rintro k z rfl;have:=List.all_eq_true.1 h (.int k z) (Array.mem_toList_iff.2 (Array.mem_of_getElem? hv))
 cases this
structure rI (g:Nat) (w w':ag):Prop where
 os:w'.os=w.os
 tape:w'.tape=w.tape
 output:w'.output=w.output
 size:w'.heap.size=w.heap.size
 block:∀ k,k≠g->w'.heap[k]?=w.heap[k]?
 keeps:jQ w w'
 shape:∀ c T,w.heap[g]?=some (.cells c T (0,0))->yX c=true->∃ c',w'.heap[g]?=some (.cells c' T (0,0))/\c'.size=c.size/\yX c'=true
theorem rI.refl (g:Nat) (w:ag):rI g w w:=⟨rfl,rfl,rfl,rfl,fun _ _=>rfl,jQ.refl w,fun c _ h hn=>⟨c,h,rfl,hn⟩⟩
theorem rI.set {g:Nat} {w w':ag} (h:rI g w w') {c:Array aq} {T:bn} (hB:w'.heap[g]?=some (.cells c T (0,0))) (hn:yX c=true) {i:Nat} (hi:i<c.size) {v:aq} (hv:∀ k z,v ≠ .int k z):rI g w (w'.setCell ⟨g,i,none⟩ v):=by
 have hc:w'.cell? ⟨g,i,none⟩=some c[i]:=by rw[eK w' g i _ T (0,0) hB];exact Array.getElem?_eq_getElem hi
 refine⟨h.os,h.tape,h.output,by rw[<-h.size];simp[World.setCell],fun k hk=>?_,h.keeps.set hc (yW hn (Array.getElem?_eq_getElem hi)) v,fun c0 T0 h0 Ta=>?_⟩
 ·rw[Below.heap_setCell _ _ _ _ (by simpa using hk)];exact h.block k hk
 obtain⟨c',h1,h2,h3⟩:=h.shape c0 T0 h0 Ta;rw[hB] at h1;injection h1 with h1;injection h1 with h1 h4 h5;subst h1;subst h4;refine⟨c.setIfInBounds i v,by rw[aC w' g i _ T v hB],by simpa using h2,?_⟩;unfold yX at *;rw[dF] at *;intro q hq;rw[Array.mem_toList_iff] at hq;rcases Array.mem_or_eq_of_mem_setIfInBounds hq with hq | rfl
 ·exact h3 q (Array.mem_toList_iff.2 hq)
 cases q<;>first | rfl | exact absurd rfl (hv _ _)
theorem af {w:ag} {g:Nat} {c:Array aq} {T:bn} (h:w.heap[g]?=some (.cells c T (0,0))) (i:Nat) {v:aq} (hv:c[i]?=some v):w.cell? ⟨g,i,none⟩=some v:=by
 rw[eK w g i _ T (0,0) h];exact hv
theorem aP {w:ag} {g:Nat} {c:Array aq} {T:bn} (h:w.heap[g]?=some (.cells c T (0,0))) (i:Nat):w.frozen? ⟨g,i,none⟩=false:=tC w g i _ T h
theorem ri {w:ag} {g:Nat} {T:bn} {a b:aq} (h:w.heap[g]?=some (.cells #[a,b] T (0,0))) (x y:aq) :
  ((w.setCell ⟨g,0,none⟩ x).setCell ⟨g,1,none⟩ y).heap[g]?=some (.cells #[x,y] T (0,0)):=by
 rw[aC _ g 1 _ T y (aC w g 0 _ T x h)];rfl
theorem q_ {w:ag} {g:Nat} {T:bn} {a b:aq} (h:w.heap[g]?=some (.cells #[a,b] T (0,0))) (hn:yX #[a,b]=true) {x y:aq} (hx:yX #[x,y]=true) :
  rI g w ((w.setCell ⟨g,0,none⟩ x).setCell ⟨g,1,none⟩ y):=by
 have h1:=aC w g 0 _ T x h;have p1:rI g w (w.setCell ⟨g,0,none⟩ x):=(rI.refl g w).set h hn (i:=0) (by simp) (yW hx (i:=0) rfl);obtain⟨c,q1,-,q2⟩:=p1.shape _ _ h hn;rw[h1] at q1;injection q1 with q1;injection q1 with q1;subst q1;exact p1.set h1 q2 (i:=1) (by simp) (yW hx (i:=1) rfl)
theorem dh (W:ag) (o:Obj) (g:Nat) (h:W.heap.size=g):(W.alloc o).heap[g]?=some o:=by
 subst h
 show (W.heap.push o)[W.heap.size]?=some o
 simp
theorem bX {W:ag} {g:Nat} {ob:Obj} (h:W.heap[g]?=some ob) (o:Obj):(W.alloc o).heap[g]?=some ob:=by
 rw[Below.heap_alloc W o g (Array.getElem?_eq_some_iff.1 h).1];exact h
theorem gN {w w':ag} (h:jQ w.drew w'):jQ w w':=h
namespace aQ
abbrev Fact:=(Nat->aq)->aq->ag->Prop
def mask (L:List Nat) (x:Nat->aq):Nat->aq:=fun j=>if L.contains j then x j else undef
theorem an {L:List Nat} {x:Nat->aq} {j:Nat} (h:L.contains j=true):mask L x j=x j:=by
 unfold mask;rw[if_pos h]
def vz (x:Nat->aq) (k:Nat) (v:aq):Nat->aq:=fun j=>if j=k then v else x j
theorem jn (x:Nat->aq) (k:Nat) (v:aq):vz x k v k=v:=if_pos rfl
theorem jo (x:Nat->aq) {k j:Nat} (v:aq) (h:j≠k):vz x k v j=x j:=if_neg h
theorem rZ {L:List Nat} {x:Nat->aq} {k:Nat} (v:aq) (h:L.contains k=false):mask L (vz x k v)=mask L x:=by
 funext j
 unfold mask
 by_cases hj:L.contains j=true
 ·rw[if_pos hj,if_pos hj,jo];intro e;subst e;rw[h] at hj;cases hj
 rw[if_neg hj,if_neg hj]
def dL (ops:List fL) (j:Nat):Option Tmp:=(ops[j]?).bind (·.dst)
def dep (D:List (List Nat)) (k:Nat):List Nat:=D.getD k []
def ok (ops:List fL) (D:List (List Nat)) (m size:Nat):Bool:=
 decide (m<=ops.length) && (gR ops.length).all fun k =>
  match ops[k]? with
  | none=>false
  | some o =>
   (o.after.all fun e=>!Region.binds .any e || decide (e.on<k)) &&
   ((dep D k).all fun j=>(o.after.any fun e=>tQ .any e && (e.on==j || (dep D e.on).contains j)) && ((dep D j).all fun i=>(dep D k).contains i) && decide (j<k)) &&
   (decide (k<m) || (gR m).all fun j=>(dep D k).contains j) &&
   (match o.dst with | none=>true | some d=>decide (d<size) && (gR k).all fun j=>dL ops j != some d)
def xL (ops:List fL) (D:List (List Nat)) (al:List Nat) (st:List (Nat × Nat)) (nq:Nat):Bool:=
 (gR ops.length).all fun k=>match st.lookup k with
  | none=>true
  | some i=>(if i<1000 then (dep D k).contains i && al.contains i else decide (i - 1000<nq)) && (gR ops.length).all fun j=>j==k || st.lookup j != some i
def pre (ops:List fL) (D:List (List Nat)) (k t:Nat):Bool:=
 (gR ops.length).all fun j=>dL ops j != some t || j==k || (dep D j).contains k
def fill:List fL->(Nat->aq)->Nat->Array aq->Array aq
 | [],_,_,t=>t
 | o::l,x,k,t=>fill l x (k+1) (match o.dst with | some d=>t.setIfInBounds d (x k) | none=>t)
theorem fill_eq:∀ (l:List fL) (x:Nat->aq) (k:Nat) (t T:Array aq),T.size=t.size ->
  (∀ j d,dL l j=some d->T[d]?=some (x (k+j)))->(∀ s,(∀ j,dL l j≠some s)->T[s]?=t[s]?)->fill l x k t=T
 | [],x,k,t,T,hs,_,hp=>by
  refine Array.ext_getElem? (fun i=>?_);rw[hp i (fun j=>by simp[dL])]
  rfl
 | o::l,x,k,t,T,hs,hd,hp=>by
  have hd':∀ j d,dL l j=some d->T[d]?=some (x (k+1+j)):=fun j d h=>by
   rw[hd (j+1) d (by simpa [dL] using h),Nat.add_right_comm,Nat.add_assoc]
  unfold fill
  cases ho:o.dst with
  | none =>
   refine fill_eq l x (k+1) t T hs hd' (fun s h=>hp s (fun j=>?_))
   cases j with
   | zero=>simp[dL,ho]
   | succ j=>simpa [dL] using h j
  | some d =>
   have h0:T[d]?=some (x k):=hd 0 d (by simp[dL,ho]);have hlt:d<t.size:=by rw[<-hs];exact (Array.getElem?_eq_some_iff.1 h0).1
   refine fill_eq l x (k+1) _ T (by simpa using hs) hd' (fun s h=>?_)
   by_cases e:d=s
   ·subst e;rw[h0]
    simp[hlt]
   rw[Array.getElem?_setIfInBounds_ne e];refine hp s (fun j=>?_)
   cases j with
   | zero=>simp[dL,ho,e]
   | succ j=>simpa [dL] using h j
def OC:Exit->Act->ag->Prop:=fun _ _ _=>False
def fact (F:List Fact) (j:Nat):Fact:=(F.reverse[j]?).getD fun _ _ _=>True
section
variable (P:tG) (ops:List fL) (D:List (List Nat)) (al:List Nat) (st:List (Nat × Nat)) (og:Nat->Nat) (nq:Nat) (t0:Array aq) (ds:List Deferred) (w0:ag)
def own (k:Nat):Option Nat:=st.lookup k
def tv (x:Nat->aq) (i:Nat):aq:=if i<1000 then x i else .pointer (some ⟨og (i - 1000),0,none⟩)
structure At (F:Nat->Fact) (k:Nat) (T:Array aq) (x:Nat->aq) (w:ag):Prop where
 be:∀ B,B<=w0.heap.size->(∀ q,q<nq->B<=og q)->aA B w0 w
 bl:∀ b,b<w0.heap.size->(∀ q,q<nq->og q≠b)->w.heap[b]?=w0.heap[b]?
 kp:jQ w0 w
 od:∀ q,q<nq->(∀ k',own st k'=some (1000+q)->k'=k\/(dep D k').contains k=true)->w.heap[og q]?=w0.heap[og q]?
 tm:∀ j d,(dep D k).contains j=true->dL ops j=some d->T[d]?=some (x j)
 fa:∀ j,(dep D k).contains j=true->F j (mask (dep D j) x) (x j) w
 pre:∀ t,aQ.pre ops D k t=true->T[t]?=t0[t]?
structure Next (V:Fact) (k:Nat) (x:Nat->aq) (w:ag) (v:aq) (w':ag):Prop where
 is:V x v w'
 bw:own st k=none->aA w.heap.size w w'
 pv:∀ i,own st k=some i->∃ g,tv og x i=.pointer (some ⟨g,0,none⟩)/\rI g w w'
 al:al.contains k=true->∃ g,v=.pointer (some ⟨g,0,none⟩)/\w.heap.size<=g/\g<w'.heap.size
def Ce (F:Nat->Fact) (k:Nat) (o:fL) (V:Fact):Prop:=
 ∀ (T:Array aq) (x:Nat->aq) (w:ag),At ops D st og nq t0 w0 F k T x w ->
  ∀ K:Act->ag->Prop,Hid (∀ v w',Next al st og V k x w v w'->K ((⟨T,ds⟩:Act).put o.dst v) w') ->
   if lK o (yielded ops.toArray T)=true then o.wp P ⟨T,ds⟩ w K OC else K ((⟨T,ds⟩:Act).put o.dst undef) w
def sL (k:Nat) (V:Fact):Prop:=(∀ x v w w',V x v w->aA w.heap.size w w'->V x v w')/\(st ≠ []->∀ x v w w' g,V x v w->(∀ i,own st k=some i->tv og x i ≠ .pointer (some ⟨g,0,none⟩))->rI g w w'->V x v w')
def Left (F:Nat->Fact) (m:Nat) (x:Nat->aq) (w:ag):Prop:=
 ((∀ B,B<=w0.heap.size->(∀ q,q<nq->B<=og q)->aA B w0 w)/\(∀ b,b<w0.heap.size->(∀ q,q<nq->og q≠b)->w.heap[b]?=w0.heap[b]?)/\jQ w0 w)/\(∀ j,j<m->F j (mask (dep D j) x) (x j) w) /\
 (∀ i,al.contains i=true->i<m->∃ g,x i=.pointer (some ⟨g,0,none⟩)/\w0.heap.size<=g/\g<w.heap.size) /\
 (∀ i j,al.contains i=true->al.contains j=true->i<m->j<m->i≠j->x i≠x j)
def aB (m:Nat) (G:(Nat->aq)->ag->Prop):List fL->Nat->List Fact->Prop
 | [],k,F=>k=m/\∀ x w,Left D al og nq w0 (fact F) m x w->G x w
 | o::rest,k,F=>(k=m/\∀ x w,Left D al og nq w0 (fact F) m x w->G x w) \/
  ∃ V,sL st og k V/\Ce P ops D al st og nq t0 ds w0 (fact F) k o V/\aB m G rest (k+1) (V::F)
variable {P ops D al st og nq t0 ds w0}
theorem aB.done {m:Nat} {G:(Nat->aq)->ag->Prop} {l:List fL} {F:List Fact} (h:∀ x w,Left D al og nq w0 (fact F) m x w->G x w):aB P ops D al st og nq t0 ds w0 m G l m F:=by
 cases l with
 | nil=>exact⟨rfl,h⟩
 | cons o l=>exact Or.inl ⟨rfl,h⟩
theorem aB.step {m k:Nat} {G:(Nat->aq)->ag->Prop} {o:fL} {l:List fL} {F:List Fact} (V:Fact) (hs:sL st og k V) (hr:Ce P ops D al st og nq t0 ds w0 (fact F) k o V)
  (h:aB P ops D al st og nq t0 ds w0 m G l (k+1) (V::F)):aB P ops D al st og nq t0 ds w0 m G (o::l) k F:=Or.inr ⟨V,hs,hr,h⟩
def plain (al:List Nat) (st:List (Nat × Nat)) (k:Nat):Bool:=!al.contains k && (own st k).isNone
theorem Next.plain {V:Fact} {k:Nat} {x:Nat->aq} {w:ag} {v:aq} {w':ag} (hp:plain al st k=true) (h:V x v w') (hb:aA w.heap.size w w'):Next al st og V k x w v w':=by
 unfold aQ.plain at hp;simp only[cV,Bool.not_eq_true',Option.isNone_iff_eq_none] at hp;exact⟨h,fun _=>hb,fun i hi=>(by rw[hp.2] at hi;cases hi),fun e=>(by rw[hp.1] at e;cases e)⟩
theorem aB.da {m k:Nat} {G:(Nat->aq)->ag->Prop} {o:fL} {l:List fL} {F:List Fact} (f:(Nat->aq)->aq) (hp:plain al st k=true)
  (hr:∀ (T:Array aq) (x:Nat->aq) (w:ag),At ops D st og nq t0 w0 (fact F) k T x w->lK o (yielded ops.toArray T)=true/\(execOp (Act.eval ⟨T,ds⟩) o).run P w=.ok (.value (f x)) w)
  (h:aB P ops D al st og nq t0 ds w0 m G l (k+1) ((fun x v _=>v=f x)::F)):aB P ops D al st og nq t0 ds w0 m G (o::l) k F:=by
 refine aB.step (fun x v _=>v=f x) ⟨fun _ _ _ _ e _=>e,fun _ _ _ _ _ _ e _ _=>e⟩ (fun T x w hA K hK=>?_) h;obtain⟨hw,he⟩:=hr T x w hA;rw[if_pos hw];unfold Oper.wp;rw[he];exact hK.out _ _ (Next.plain hp rfl (ax _ _))
theorem aB.call {m k:Nat} {G:(Nat->aq)->ag->Prop} {o:fL} {l:List fL} {F:List Fact} (V:Fact) (hs:∀ x v w w',V x v w->aA w.heap.size w w'->V x v w') (FP:∀ x v w w' g,V x v w->rI g w w'->V x v w') (hp:plain al st k=true)
  (hr:∀ (T:Array aq) (x:Nat->aq) (w:ag),At ops D st og nq t0 w0 (fact F) k T x w->lK o (yielded ops.toArray T)=true /\
   ∀ K:Act->ag->Prop,Hid (∀ v w',V x v w'->aA w.heap.size w w'->K ((⟨T,ds⟩:Act).put o.dst v) w')->o.wp P ⟨T,ds⟩ w K OC)
  (h:aB P ops D al st og nq t0 ds w0 m G l (k+1) (V::F)):aB P ops D al st og nq t0 ds w0 m G (o::l) k F:=by
 refine aB.step V ⟨hs,fun _ x v w w' g h _ hp=>FP x v w w' g h hp⟩ (fun T x w hA K hK=>?_) h;obtain⟨hw,he⟩:=hr T x w hA;rw[if_pos hw];exact he K fun v w' hv hb=>hK.out v w' (Next.plain hp hv hb)
theorem jF {st:List (Nat × Nat)} {i k:Nat} (h:(st.all fun p=>p.2 != i || p.1==k)=true):∀ k',own st k'=some i->k'=k:=by
 intro k' hk;unfold own at hk;rw[dF] at h
 have:∀ (l:List (Nat × Nat)),(∀ p ∈ l,(p.2 != i || p.1==k)=true)->l.lookup k'=some i->k'=k:=by
  intro l
  induction l with
  | nil=>intro _ h;cases h
  | cons p l ih =>
   intro hp hl;obtain⟨a,b⟩:=p;rw[List.lookup_cons] at hl
   split at hl
   ·rename_i he
    injection hl with hl;have h1:=hp (a,b) (List.mem_cons_self ..);simp only[e_,bne_iff_ne,ne_eq,beq_iff_eq] at h1;rw[beq_iff_eq] at he;rcases h1 with h1 | h1
    ·exact absurd hl h1
    exact he.trans h1
   exact ih (fun p hp'=>hp p (List.mem_cons_of_mem _ hp')) hl
 exact this st h hk
theorem aB.iP {m k:Nat} {G:(Nat->aq)->ag->Prop} {o:fL} {l:List fL} {F:List Fact} (q j:Nat) (T:bn) (ho:own st k=some (1000+q)) (hal:al.contains k=false) (hq:q<nq)
  (hone:∀ k',own st k'=some (1000+q)->k'=k)
  (hr:∀ (Ts:Array aq) (x:Nat->aq) (w:ag),At ops D st og nq t0 w0 (fact F) k Ts x w->w.heap[og q]?=w0.heap[og q]? -> lK o (yielded ops.toArray Ts)=true /\
   ∀ K:Act->ag->Prop,Hid (∀ w' c',x j=.agg c'->w'.heap[og q]?=some (.cells c' T (0,0))->rI (og q) w w'->K ((⟨Ts,ds⟩:Act).put o.dst undef) w')->o.wp P ⟨Ts,ds⟩ w K OC)
  (h:aB P ops D al st og nq t0 ds w0 m G l (k+1) ((fun x _ w=>∃ c,x j=.agg c/\w.heap[og q]?=some (.cells c T (0,0)))::F)):aB P ops D al st og nq t0 ds w0 m G (o::l) k F:=by
 have OF:∀ x,tv og x (1000+q)=.pointer (some ⟨og q,0,none⟩):=fun x=>by unfold tv;rw[if_neg (by omega),Nat.add_sub_cancel_left]
 refine aB.step _ ⟨fun x v w w' hv hb=>?_,fun _ x v w w' g' hv hne hp=>?_⟩ (fun Ts x w hA K hK=>?_) h
 ·obtain⟨c,h2,hg⟩:=hv;exact⟨c,h2,by rw[hb.block _ (Array.getElem?_eq_some_iff.1 hg).1];exact hg⟩
 ·obtain⟨c,h2,hg⟩:=hv;refine⟨c,h2,?_⟩;rw[hp.block _ (fun e=>hne _ ho (by rw[OF,e]))];exact hg
 obtain⟨hw,he⟩:=hr Ts x w hA (hA.od q hq fun k' hk'=>Or.inl (hone k' hk'));rw[if_pos hw];exact he K fun w' c' hj hB hP=>hK.out _ _ ⟨⟨c',hj,hB⟩,fun e=>(by rw[ho] at e;cases e),fun i' hi'=>(by rw[ho] at hi';injection hi' with e;subst e;exact⟨_,OF x,hP⟩),fun e=>(by rw[hal] at e;cases e)⟩
theorem vf {V:Fact} {F:List Fact} {j:Nat} (h:j<F.length):fact (V::F) j=fact F j:=by
 unfold fact;rw[nJ,List.getElem?_append_left (by simpa using h)]
theorem zD {V:Fact} {F:List Fact}:fact (V::F) F.length=V:=by
 unfold fact;rw[nJ,List.getElem?_append_right (by simp)]
 simp
theorem At.congr {F F':Nat->Fact} {k:Nat} {T:Array aq} {x:Nat->aq} {w:ag} (h:At ops D st og nq t0 w0 F k T x w) (e:∀ j,(dep D k).contains j=true->F j=F' j):At ops D st og nq t0 w0 F' k T x w:=
 ⟨h.be,h.bl,h.kp,h.od,h.tm,fun j hj=>by rw[<-e j hj];exact h.fa j hj,h.pre⟩
theorem aB.all {m:Nat} {G:(Nat->aq)->ag->Prop} (hlt:∀ k j,k<m->(dep D k).contains j=true->j<k):∀ (l:List fL) (k:Nat) (F:List Fact),F.length=k->k<=m->(∀ j,l[j]?=ops[k+j]?) ->
  aB P ops D al st og nq t0 ds w0 m G l k F->∃ H:Nat->Fact,(∀ j,j<k->H j=fact F j) /\
   (∀ j,k<=j->j<m->sL st og j (H j)/\∃ o,ops[j]?=some o/\Ce P ops D al st og nq t0 ds w0 H j o (H j))/\∀ x w,Left D al og nq w0 H m x w->G x w:=by
 intro l
 induction l with
 | nil=>intro k F hF hk hl h;exact⟨fact F,fun _ _=>rfl,fun j h1 h2=>by have:=h.1;omega,h.2⟩
 | cons o l ih =>
  intro k F hF hk hl h;rcases h with ⟨rfl,h⟩ | ⟨V,hs,hr,h⟩
  ·exact⟨fact F,fun _ _=>rfl,fun j h1 h2=>by omega,h⟩
  by_cases hkm:k<m
  ·obtain⟨H,h1,h2,h3⟩:=ih (k+1) (V::F) (by simp[hF]) hkm (fun j=>by have:=hl (j+1);simp at this;rw[this,Nat.add_right_comm,Nat.add_assoc]) h;refine⟨H,fun j hj=>by rw[h1 j (by omega),vf (by omega)],fun j hj BV=>?_,h3⟩;rcases ir k j with Nz | Nz
   ·exact h2 j Nz BV
   obtain rfl:j=k:=by omega
   have hH:H j=V:=by rw[h1 j (by omega),<-hF,zD]
   refine⟨by rw[hH];exact hs,o,by have:=hl 0;simpa using this.symm,?_⟩;rw[hH];intro T x w hA;exact hr T x w (hA.congr (fun i hi=>by have:=hlt j i hkm hi;rw[h1 i (by omega),vf (by omega)]))
  obtain rfl:k=m:=by omega
  have Ck:∀ (l:List fL) (k':Nat) (F:List Fact),k<k'->¬ aB P ops D al st og nq t0 ds w0 k G l k' F:=by
   intro l
   induction l with
   | nil=>intro k' F hk' h;have:=h.1;omega
   | cons o l ih=>intro k' F hk' h;rcases h with ⟨e,_⟩ | ⟨_,_,_,h⟩;(omega);exact ih _ _ (by omega) h
  exact absurd h (Ck _ _ _ (by omega))
theorem Oper.DT {o:fL} {a:Act} {w:ag} {K:Act->ag->Prop} {Q:Exit->Act->ag->Prop} (h:o.wp P a w K OC):o.wp P a w K Q:=by
 unfold Oper.wp at *;generalize (execOp a.eval o).run P w=r at *
 cases r with
 | ok n w' =>
  cases n<;>simp only[Oper.upon] at h ⊢ <;>
   first
    | exact h
    | exact Calls.mono h (fun e w'' he=>by
      cases e with
      | returned v=>exact he
      | panicked c=>exact False.elim he
      | outgrown=>obtain⟨_,_,hh⟩:=he;exact False.elim hh)
 | halt x w'=>cases x<;>simp only[Oper.upon] at h ⊢<;>exact False.elim h
structure Inv (H:Nat->Fact) (m:Nat) (listed:Array Bool) (a:Act) (w:ag) (x:Nat->aq):Prop where
 tm:∀ j d,listed.getD j false=true->dL ops j=some d->a.tmps[d]?=some (x j)
 pre:∀ t,(∀ j,listed.getD j false=true->dL ops j≠some t)->a.tmps[t]?=t0[t]?
 sz:a.tmps.size=t0.size
 df:a.defers=ds
 be:∀ B,B<=w0.heap.size->(∀ q,q<nq->B<=og q)->aA B w0 w
 bl:∀ b,b<w0.heap.size->(∀ q,q<nq->og q≠b)->w.heap[b]?=w0.heap[b]?
 kp:jQ w0 w
 od:∀ q,q<nq->(∀ k',listed.getD k' false=true->own st k'≠some (1000+q))->w.heap[og q]?=w0.heap[og q]?
 sw:w0.heap.size<=w.heap.size
 ls:listed.size=ops.length
 dn:∀ j,listed.getD j false=true->∀ i,(dep D j).contains i=true->listed.getD i false=true
 lt:∀ j,listed.getD j false=true->j<m
 fa:∀ j,listed.getD j false=true->H j (mask (dep D j) x) (x j) w
 pt:∀ i,al.contains i=true->listed.getD i false=true->∃ g,x i=.pointer (some ⟨g,0,none⟩)/\w0.heap.size<=g/\g<w.heap.size
 ne:∀ i j,al.contains i=true->al.contains j=true->listed.getD i false=true->listed.getD j false=true->i≠j->x i≠x j
section
variable {m size:Nat} (hok:ok ops D m size=true)
include hok
theorem rX:m<=ops.length:=by
 unfold ok at hok;simp only[cV,decide_eq_true_eq] at hok;exact hok.1
theorem n_ {k:Nat} {o:fL} (ho:ops[k]?=some o) :
  (∀ e ∈ o.after,tQ .any e=true->e.on<k) /\
  (∀ j,(dep D k).contains j=true->(∃ e ∈ o.after,tQ .any e=true/\(e.on=j\/(dep D e.on).contains j=true))/\(∀ i,(dep D j).contains i=true->(dep D k).contains i=true)/\j<k) /\
  (k<m\/∀ j,j<m->(dep D k).contains j=true) /\
  (∀ d,o.dst=some d->d<size/\∀ j,j<k->dL ops j≠some d):=by
 unfold ok at hok;simp only[cV,decide_eq_true_eq,dF,kT] at hok;have h:=hok.2 k (List.getElem?_eq_some_iff.1 ho).1;rw[ho] at h;simp only[cV,e_,Bool.not_eq_true',decide_eq_true_eq,dF,kT,Array.all_eq_true_iff_forall_mem] at h;obtain⟨⟨⟨h1,h2⟩,h3⟩,h4⟩:=h;refine⟨fun e he hb=>(h1 e he).resolve_left (by rw[hb];exact Bool.noConfusion),fun j hj=>?_,h3,fun d hd=>?_⟩
 ·obtain⟨⟨h5,h6⟩,h7⟩:=h2 j (by simpa using hj);obtain⟨e,he,hb⟩:=Array.any_eq_true'.1 h5;simp only[cV,e_,beq_iff_eq] at hb;exact⟨⟨e,he,hb.1,hb.2⟩,fun i hi=>h6 i (by simpa using hi),h7⟩
 rw[hd] at h4;simp only[cV,decide_eq_true_eq,dF,kT,bne_iff_ne,ne_eq] at h4;exact h4
theorem JM {k j:Nat} (h:(dep D k).contains j=true) (hk:k<ops.length):j<k:=((n_ hok (List.getElem?_eq_getElem hk)).2.1 j h).2.2
end
theorem uR (h:xL ops D al st nq=true) {k:Nat} (hk:k<ops.length):∀ i,own st k=some i->(i<1000->(dep D k).contains i=true/\al.contains i=true)/\(¬ i<1000->i - 1000<nq)/\∀ j,j<ops.length->j≠k->own st j≠some i:=by
 intro i hi;unfold xL at h;rw[dF] at h;have h1:=h k (List.mem_range.2 hk);unfold own at hi;rw[hi] at h1;simp only[cV,dF,kT,e_,beq_iff_eq,bne_iff_ne,ne_eq] at h1;refine⟨fun h2=>?_,fun h2=>?_,fun j hj DJ=>(h1.2 j hj).resolve_left DJ⟩
 ·have h3:=h1.1;rw[if_pos h2] at h3
  simpa using h3
 have h3:=h1.1;rw[if_neg h2] at h3
 simpa using h3
theorem uM {L:List Nat} {x:Nat->aq} {i:Nat} (h:i<1000->L.contains i=true):tv og (mask L x) i=tv og x i:=by
 unfold tv
 split
 ·rename_i hi;exact an (h hi)
 rfl
theorem eJ {l:Array Bool} {i j:Nat} (h:i<l.size):(l.setIfInBounds i true).getD j false=(decide (j=i) || l.getD j false):=by
 by_cases e:i=j
 ·subst e;simp[h]
 rw[getD_set_ne false e]
 simp[show ¬ j=i from fun x=>e x.symm]
theorem pF {l:List Bool} {i:Nat} (h:l[i]?=some false):(l.set i true).count false+1=l.count false:=by
 obtain⟨hi,hv⟩:=List.getElem?_eq_some_iff.1 h;rw[List.count_set hi,hv];have:0<l.count false:=List.count_pos_iff.2 (hv ▸ ct hi)
 simp
 omega
section
variable {m:Nat} {Q:Exit->Act->ag->Prop} {H:Nat->Fact}
theorem Inv.step (hok:ok ops D m t0.size=true) (ur:xL ops D al st nq=true) (ik:∀ q,q<nq->og q<w0.heap.size) (Ar:∀ q q',q<nq->q'<nq->q≠q'->og q≠og q') (hst:∀ j,j<m->sL st og j (H j)) {listed:Array Bool} {a:Act} {w:ag} {x:Nat->aq} (I:Inv (ops:=ops) (D:=D) (al:=al) (st:=st) (og:=og) (nq:=nq) (t0:=t0) (ds:=ds) (w0:=w0) H m listed a w x)
  {k:Nat} {o:fL} (ho:ops[k]?=some o) (hkm:k<m) (hun:listed.getD k false=false) (aH:∀ j,(dep D k).contains j=true->listed.getD j false=true) {v:aq} {w':ag}
  (hN:Next al st og (H k) k (mask (dep D k) x) w v w'):Inv (ops:=ops) (D:=D) (al:=al) (st:=st) (og:=og) (nq:=nq) (t0:=t0) (ds:=ds) (w0:=w0) H m (listed.setIfInBounds k true) (a.put o.dst v) w' (vz x k v):=by
 have iy:k<ops.length:=(List.getElem?_eq_some_iff.1 ho).1;have hks:k<listed.size:=by rw[I.ls];exact iy
 obtain⟨c1,c2,c3,c4⟩:=n_ hok ho;have Qj:dL ops k=o.dst:=by simp[dL,ho]
 have hsp:=uR ur iy
 -- where operation k stores
 have IS:∀ i,own st k=some i->∃ g,tv og x i=.pointer (some ⟨g,0,none⟩)/\rI g w w'/\((i<1000/\w0.heap.size<=g)\/(¬ i<1000/\i - 1000<nq/\g=og (i - 1000))):=by
  intro i ji;obtain⟨g,hg,hp⟩:=hN.pv i ji;obtain⟨h1,h2,h3⟩:=hsp i ji;rw[uM (fun h=>(h1 h).1)] at hg;refine⟨g,hg,hp,?_⟩
  by_cases hi:i<1000
  ·obtain⟨g',e,h4,h5⟩:=I.pt i (h1 hi).2 (aH i (h1 hi).1);unfold tv at hg;rw[if_pos hi] at hg;rw[hg] at e;injection e with e;injection e with e;injection e with e;subst e;exact Or.inl ⟨hi,h4⟩
  unfold tv at hg;rw[if_neg hi] at hg;injection hg with e;injection e with e;injection e with e;exact Or.inr ⟨hi,h2 hi,e.symm⟩
 have th:w.heap.size<=w'.heap.size:=by
  cases ji:own st k with
  | none=>exact (hN.bw ji).size
  | some i=>obtain⟨g,hg,hp,_⟩:=IS i ji;rw[hp.size];exact ai _
 have iY:∀ B,B<=w0.heap.size->(∀ q,q<nq->B<=og q)->aA B w0 w':=fun B hB hq=>by
  refine (I.be B hB hq).trans ?_
  cases ji:own st k with
  | none=>exact (hN.bw ji).mono (by have:=I.sw;omega)
  | some i =>
   obtain⟨g,hg,hp,hc⟩:=IS i ji;refine⟨hp.os,hp.tape,hp.output,th,fun q SS=>hp.block q ?_⟩;rcases hc with ⟨_,hc⟩ | ⟨_,h1,hc⟩
   ·omega
   have:=hq _ h1;omega
 have dw:∀ b,b<w0.heap.size->(∀ q,q<nq->og q≠b)->w'.heap[b]?=w0.heap[b]?:=fun b hb hq=>by
  rw[<-I.bl b hb hq]
  cases ji:own st k with
  | none=>exact (hN.bw ji).block b (by have:=I.sw;omega)
  | some i =>
   obtain⟨g,hg,hp,hc⟩:=IS i ji;refine hp.block b ?_;rcases hc with ⟨_,hc⟩ | ⟨_,h1,hc⟩
   ·omega
   rw[hc];exact fun e=>hq _ h1 e.symm
 have hkp:jQ w0 w':=by
  refine I.kp.trans ?_
  cases ji:own st k with
  | none=>exact Below.keeps (hN.bw ji)
  | some i=>obtain⟨g,hg,hp,_⟩:=IS i ji;exact hp.keeps
 have hne:∀ j,listed.getD j false=true->j≠k:=fun j hj e=>by subst e;rw[hun] at hj;cases hj
 have r9:∀ j,(listed.setIfInBounds k true).getD j false=true->j=k\/listed.getD j false=true:=fun j hj=>by
  rw[eJ hks] at hj;simpa using hj
 have hput:(a.put o.dst v).tmps=match o.dst with | some d=>a.tmps.setIfInBounds d v | none=>a.tmps:=by cases o.dst<;>rfl
 have KF:(dep D k).contains k=false:=by
  cases h:(dep D k).contains k with
  | false=>rfl
  | true=>have:=(c2 k h).2.2;omega
 -- two operations write two slots
 have hds:∀ j d,dL ops j=some d->o.dst=some d->j=k:=fun j d h1 h2=>by
  rcases Nat.lt_trichotomy j k with h | h | h
  ·exact absurd h1 ((c4 d h2).2 j h)
  ·exact h
  cases hoj:ops[j]? with
  | none=>simp[dL,hoj] at h1
  | some oj=>exact absurd (Qj.trans h2) (((n_ hok hoj).2.2.2 d (by simpa [dL,hoj] using h1)).2 k h)
 refine⟨fun j d hj hd=>?_,fun t ht=>?_,?_,?_,iY,dw,hkp,fun q hq hl=>?_,ah I.sw th,by simpa using I.ls,fun j hj i hi=>?_,fun j hj=>?_,fun j hj=>?_,fun i hi hl=>?_,fun i j hi hj Nx Xb hij=>?_⟩
 ·rw[hput];rcases r9 j hj with rfl | hj'
  ·rw[Qj] at hd;rw[hd,jn];have:=(c4 d hd).1;rw[<-I.sz] at this
   simp[this]
  rw[jo _ _ (hne j hj')]
  cases Ar:o.dst with
  | none=>exact I.tm j d hj' hd
  | some e =>
   by_cases hde:e=d
   ·subst hde;exact absurd (hds j e hd Ar) (hne j hj')
   simp only[];rw[Array.getElem?_setIfInBounds_ne hde];exact I.tm j d hj' hd
 ·rw[hput];have h1:a.tmps[t]?=t0[t]?:=I.pre t fun j hj=>ht j (by rw[eJ hks];simp only[hj,nK])
  cases Ar:o.dst with
  | none=>exact h1
  | some e =>
   have:=ht k (by rw[eJ hks];simp);rw[Qj,Ar] at this;simp only[];rw[Array.getElem?_setIfInBounds_ne (fun h=>this (by rw[h]))];exact h1
 ·rw[hput,<-I.sz];cases o.dst<;>simp
 ·rw[<-I.df];cases o.dst<;>rfl
 ·rw[<-I.od q hq fun k' hk'=>hl k' (by rw[eJ hks];simp only[hk',nK])];have hlt:=ik q hq
  cases ji:own st k with
  | none=>exact (hN.bw ji).block _ (by have:=I.sw;omega)
  | some i =>
   obtain⟨g,hg,hp,hc⟩:=IS i ji;refine hp.block _ ?_;rcases hc with ⟨_,hc⟩ | ⟨hi,h1,hc⟩
   ·omega
   rw[hc];refine Ar q _ hq h1 (fun e=>hl k (by rw[eJ hks];simp) ?_);rw[ji,e];congr 1;omega
 ·rw[eJ hks];rcases r9 j hj with rfl | hj'
  ·simp only[aH i hi,nK]
  simp only[I.dn j hj' i hi,nK]
 ·rcases r9 j hj with rfl | hj'
  ·exact hkm
  exact I.lt j hj'
 ·rcases r9 j hj with rfl | hj'
  ·rw[rZ _ KF,jn];exact hN.is
  rw[jo _ _ (hne j hj'),rZ]
  ·cases ji:own st k with
   | none=>exact (hst j (I.lt j hj')).1 _ _ _ _ (I.fa j hj') (hN.bw ji)
   | some i =>
    obtain⟨g,hg,hp,hc⟩:=IS i ji;obtain⟨h1,h2,h3⟩:=hsp i ji;refine (hst j (I.lt j hj')).2 (fun e=>by subst e;cases ji) _ _ _ _ g (I.fa j hj') (fun i' hi'=>?_) hp;have lN:j<ops.length:=by have:=I.lt j hj';have:=rX hok;omega
    obtain⟨h4,h5,h6⟩:=uR ur lN i' hi';have NB:i'≠i:=fun e=>by subst e;exact h3 j lN (hne j hj') hi'
    rw[uM (fun h=>(h4 h).1)]
    by_cases vY:i'<1000
    ·obtain⟨g',e',q1,q2⟩:=I.pt i' (h4 vY).2 (I.dn j hj' i' (h4 vY).1);have ht:tv og x i'=x i':=if_pos vY;rw[ht];rcases hc with ⟨qm,hc⟩ | ⟨qm,hq2,hc⟩
     ·have Ns:tv og x i=x i:=if_pos qm;rw[Ns] at hg;exact fun e=>I.ne i' i (h4 vY).2 (h1 qm).2 (I.dn j hj' i' (h4 vY).1) (aH i (h1 qm).1) NB (e.trans hg.symm)
     intro e;rw[e'] at e;injection e with e;injection e with e;injection e with e;have:=ik _ hq2;omega
    have ht:tv og x i'=.pointer (some ⟨og (i' - 1000),0,none⟩):=if_neg vY;rw[ht];intro e;injection e with e;injection e with e;injection e with e;have hl':=ik _ (h5 vY);rcases hc with ⟨qm,hc⟩ | ⟨qm,hq2,hc⟩
    ·omega
    exact Ar _ _ (h5 vY) hq2 (by omega) (e.trans hc)
  cases h:(dep D j).contains k with
  | false=>rfl
  | true=>have:=I.dn j hj' k h;rw[hun] at this;cases this
 ·rcases r9 i hl with rfl | hl'
  ·obtain⟨g,h1,h2,h3⟩:=hN.al hi;exact⟨g,by rw[jn];exact h1,by have:=I.sw;omega,h3⟩
  obtain⟨g,h1,h2,h3⟩:=I.pt i hi hl';exact⟨g,by rw[jo _ _ (hne i hl')];exact h1,h2,by omega⟩
 rcases r9 i Nx with rfl | BS<;>rcases r9 j Xb with rfl | BR
 ·exact absurd rfl hij
 ·obtain⟨g,h1,h2,h3⟩:=hN.al hi;obtain⟨g',L0,OW,XN⟩:=I.pt j hj BR;rw[jn,jo _ _ (hne j BR),h1,L0];intro e;injection e with e;injection e with e;injection e with e;omega
 ·obtain⟨g,h1,h2,h3⟩:=hN.al hj;obtain⟨g',L0,OW,XN⟩:=I.pt i hi BS;rw[jn,jo _ _ (hne i BS),h1,L0];intro e;injection e with e;injection e with e;injection e with e;omega
 rw[jo _ _ (hne i BS),jo _ _ (hne j BR)];exact I.ne i j hi hj BS BR hij
def Rest (P:tG) (ops:List fL) (Q:Exit->Act->ag->Prop) (t0:Array aq) (ds:List Deferred) (m:Nat) (x:Nat->aq) (w:ag):Prop:=
 wpAny P .any ops.toArray Q (ops.length - m) (bJ m true++bJ (ops.length - m) false).toArray ⟨fill (ops.take m) x 0 t0,ds⟩ w
theorem oI {m j:Nat} (h:j<m):dL (ops.take m) j=dL ops j:=by
 unfold dL;rw[List.getElem?_take_of_lt h]
theorem pM {m j:Nat} (h:m<=j):dL (ops.take m) j=none:=by
 unfold dL;rw[List.getElem?_eq_none (by simp;omega)];rfl
theorem finish (hml:m<=ops.length) {listed:Array Bool} {a:Act} {w:ag} {x:Nat->aq}
  (I:Inv (ops:=ops) (D:=D) (al:=al) (st:=st) (og:=og) (nq:=nq) (t0:=t0) (ds:=ds) (w0:=w0) H m listed a w x) (hall:∀ j,j<m->listed.getD j false=true)
  (hG:∀ x w,Left D al og nq w0 H m x w->Rest P ops Q t0 ds m x w):wpAny P .any ops.toArray Q (listed.toList.count false) listed a w:=by
 have h:=hG x w ⟨⟨I.be,I.bl,I.kp⟩,fun j hj=>I.fa j (hall j hj),fun i hi DK=>I.pt i hi (hall i DK),fun i j hi hj DK BV hij=>I.ne i j hi hj (hall i DK) (hall j BV) hij⟩
 have hl:listed=(bJ m true++bJ (ops.length - m) false).toArray:=by
  apply Array.ext
  ·rw[I.ls];simp;omega
  intro i h1 h2;rw[I.ls] at h1
  by_cases hi:i<m
  ·have:=hall i hi;rw[Array.getD_eq_getD_getElem?,Array.getElem?_eq_getElem (by rw[I.ls];exact h1)] at this;simp only[jb] at this;rw[this]
   simp[List.getElem_append_left,hi]
  have h3:listed.getD i false=false:=by
   cases h:listed.getD i false with
   | false=>rfl
   | true=>exact absurd (I.lt i h) hi
  rw[Array.getD_eq_getD_getElem?,Array.getElem?_eq_getElem (by rw[I.ls];exact h1)] at h3;simp only[jb] at h3;rw[h3]
  simp[List.getElem_append,hi]
 have ha:a=⟨fill (ops.take m) x 0 t0,ds⟩:=by
  have e:fill (ops.take m) x 0 t0=a.tmps:=by
   refine fill_eq _ x 0 t0 a.tmps I.sz (fun j d hd=>?_) (fun t ht=>?_)
   ·rcases ir j m with hj | hj
    ·rw[oI hj] at hd;rw[fM];exact I.tm j d (hall j hj) hd
    rw[pM hj] at hd;cases hd
   refine I.pre t fun j hj=>?_
   have:=ht j
   rwa [oI (I.lt j hj)] at this
  rw[e,<-I.df]
 have hc:listed.toList.count false=ops.length - m:=by rw[hl];simp[List.count_replicate]
 rw[hc,hl,ha];exact h
theorem main (hok:ok ops D m t0.size=true) (ur:xL ops D al st nq=true) (ik:∀ q,q<nq->og q<w0.heap.size) (Ar:∀ q q',q<nq->q'<nq->q≠q'->og q≠og q') (hst:∀ j,j<m->sL st og j (H j)) (hrun:∀ j,j<m->∃ o,ops[j]?=some o/\Ce P ops D al st og nq t0 ds w0 H j o (H j))
  (hG:∀ x w,Left D al og nq w0 H m x w->Rest P ops Q t0 ds m x w) :
  ∀ (fuel:Nat) (listed:Array Bool) (a:Act) (w:ag) (x:Nat->aq),listed.toList.count false=fuel->Inv (ops:=ops) (D:=D) (al:=al) (st:=st) (og:=og) (nq:=nq) (t0:=t0) (ds:=ds) (w0:=w0) H m listed a w x->wpAny P .any ops.toArray Q fuel listed a w:=by
 have hml:=rX hok;intro fuel
 induction fuel with
 | zero =>
  intro listed a w x hc I;rw[<-hc];refine finish hml I (fun j hj=>?_) hG;rw[Array.getD_eq_getD_getElem?,Array.getElem?_eq_getElem (by rw[I.ls];omega)];simp only[jb];have h0:=List.count_eq_zero.1 hc
  cases h:listed[j]'(by rw[I.ls];omega) with
  | true=>rfl
  | false=>exact absurd (by rw[<-h];simp) h0
 | succ fuel ih =>
  intro listed a w x hc I
  by_cases hall:∀ j,j<m->listed.getD j false=true
  ·rw[<-hc];exact finish hml I hall hG
  -- what may come up is one of the first m
  have En:∀ i,i ∈ Region.ready .any ops.toArray listed->listed.getD i false=false/\∃ o,ops[i]?=some o/\(∀ j,(dep D i).contains j=true->listed.getD j false=true)/\i<m:=by
   intro i hi;obtain⟨h1,o,ho,h2⟩:=mem_ready.1 hi;have ji:ops[i]?=some o:=by simpa using ho
   have hlt:i<ops.length:=(List.getElem?_eq_some_iff.1 ji).1;obtain⟨c1,c2,c3,c4⟩:=n_ hok ji
   have hd:∀ j,(dep D i).contains j=true->listed.getD j false=true:=fun j hj=>by
    obtain⟨⟨e,he,hb,h3⟩,_⟩:=c2 j hj;rcases h3 with rfl | h3
    ·exact h2 e he hb
    exact I.dn _ (h2 e he hb) j h3
   refine⟨?_,o,ji,hd,c3.resolve_right fun h=>hall fun j hj=>hd j (h j hj)⟩;rw[Array.getD_eq_getD_getElem?,Array.getElem?_eq_getElem (by rw[I.ls];exact hlt)] at h1 ⊢;exact h1
  refine⟨fun hr=>?_,fun i hi=>?_⟩
  ·-- the least that has not come up may come up
   exfalso
   have hex:∃ j,listed.getD j false=false/\j<m:=by
    refine Classical.byContradiction fun h=>hall fun j hj=>?_
    cases h2:listed.getD j false with
    | true=>rfl
    | false=>exact absurd ⟨j,h2,hj⟩ h
   have hmin:∃ j,(listed.getD j false=false/\j<m)/\∀ i,i<j->listed.getD i false=true:=by
    obtain⟨j,h1,h2⟩:=hex
    induction j using ue with
    | ind j ihj =>
     by_cases vU:∃ i,i<j/\listed.getD i false=false
     ·obtain⟨i,h3,h4⟩:=vU;exact ihj i h3 h4 (by omega)
     refine⟨j,⟨h1,h2⟩,fun i hi=>?_⟩
     cases h5:listed.getD i false with
     | true=>rfl
     | false=>exact absurd ⟨i,hi,h5⟩ vU
   obtain⟨j,⟨h1,h2⟩,h3⟩:=hmin;have Ti:ops[j]?=some (ops[j]'(by omega)):=List.getElem?_eq_getElem (by omega)
   have:j ∈ Region.ready .any ops.toArray listed:=mem_ready.2 ⟨by
    rw[Array.getD_eq_getD_getElem?,Array.getElem?_eq_getElem (by rw[I.ls];omega)] at h1 ⊢
    exact h1,_,by rw[g_];exact Ti,fun e he hb=>h3 _ ((n_ hok Ti).1 e he hb)⟩
   rw[hr] at this;cases this
  obtain⟨hun,o,ho,hd,DK⟩:=En i hi;obtain⟨o',ji,hR⟩:=hrun i DK;obtain rfl:o=o':=by rw[ho] at ji;exact Option.some.inj ji
  have qO:i<ops.length:=(List.getElem?_eq_some_iff.1 ho).1
  have hA:At ops D st og nq t0 w0 H i a.tmps (mask (dep D i) x) w:=by
   obtain⟨c1,c2,c3,c4⟩:=n_ hok ho;refine⟨I.be,I.bl,I.kp,fun q hq hk'=>I.od q hq fun k' hlk Qb=>?_,fun j d hj hd'=>?_,fun j hj=>?_,fun t ht=>I.pre t fun j hj DI=>?_⟩
   ·rcases hk' k' Qb with e | e
    ·subst e;rw[hun] at hlk;cases hlk
    have:=I.dn k' hlk i e;rw[hun] at this;cases this
   ·rw[an hj];exact I.tm j d (hd j hj) hd'
   ·have e:mask (dep D j) (mask (dep D i) x)=mask (dep D j) x:=by
     funext q
     unfold mask
     by_cases hq:(dep D j).contains q=true
     ·rw[if_pos hq,if_pos hq,if_pos ((c2 j hj).2.1 q hq)]
     rw[if_neg hq,if_neg hq]
    rw[e,an hj];exact I.fa j (hd j hj)
   have lN:j<ops.length:=by have:=I.lt j hj;omega
   unfold aQ.pre at ht;rw[dF] at ht;have h1:=ht j (List.mem_range.2 lN);simp only[e_,bne_iff_ne,ne_eq,beq_iff_eq] at h1;rcases h1 with (h1 | h1) | h1
   ·exact h1 DI
   ·subst h1;rw[hun] at hj;cases hj
   have:=I.dn j hj i h1;rw[hun] at this;cases this
  have r_:=hR a.tmps (mask (dep D i) x) w hA (fun a' w'=>∃ v,a'=(a.put o.dst v)/\Next al st og (H i) i (mask (dep D i) x) w v w') (fun v w' hN=>⟨v,by rw[<-I.df],hN⟩);have Qh:i<listed.size:=by rw[I.ls];exact qO
  have Ew:(listed.setIfInBounds i true).toList.count false=fuel:=by
   have h1:listed.toList[i]?=some false:=by
    rw[Array.getD_eq_getD_getElem?,Array.getElem?_eq_getElem (by rw[I.ls];exact qO)] at hun;rw[List.getElem?_eq_getElem (by simpa using Qh)]
    simpa using hun
   have:=pF h1;rw[hc] at this;rw[Array.toList_setIfInBounds]
   omega
  have dD:∀ a' w',(∃ v,a'=(a.put o.dst v)/\Next al st og (H i) i (mask (dep D i) x) w v w')->wpAny P .any ops.toArray Q fuel (listed.setIfInBounds i true) a' w':=by
   rintro a' w' ⟨v,rfl,hN⟩;exact ih _ _ _ _ Ew (I.step hok ur ik Ar hst ho DK hun hd hN)
  unfold wpOp;rw[show ops.toArray[i]?=some o by simpa using ho];simp only[];have XE:(⟨a.tmps,ds⟩:Act)=a:=by rw[<-I.df]
  rw[XE] at r_
  split
  ·rename_i hw
   rw[if_pos hw] at r_;exact Or.inl (Oper.DT (Go.Oper.wp_mono dD r_))
  rename_i hw
  rw[if_neg hw] at r_;exact dD _ _ r_
theorem region {id:Nat} {w:ag} (hm:P.follows .mixedOrders=true) (D:List (List Nat)) (al:List Nat) (st:List (Nat × Nat)) (og:Nat->Nat) (nq:Nat) (m:Nat) (hok:ok ops D m t0.size=true) (ur:xL ops D al st nq=true) (ik:∀ q,q<nq->og q<w.heap.size) (Ar:∀ q q',q<nq->q'<nq->q≠q'->og q≠og q')
  (h:aB P ops D al st og nq t0 ds w.drew m (Rest P ops Q t0 ds m) ops 0 []):(Code.region id ops.toArray true).wp P Q ⟨t0,ds⟩ w:=by
 refine wp_region_any hm ?_;have hml:=rX hok;obtain⟨H,_,h2,h3⟩:=aB.all (fun k j hk hj=>JM hok hj (by omega)) ops 0 [] rfl (au _) (fun j=>by rw[fM]) h;have hc:(nT ops.toArray.size false).toList.count false=ops.toArray.size:=by simp
 refine main (w0:=w.drew) hok ur ik Ar (fun j hj=>(h2 j (au _) hj).1) (fun j hj=>(h2 j (au _) hj).2) h3 _ _ _ _ (fun _=>undef) hc ?_
 have hno:∀ j,(nT ops.toArray.size false).getD j false=true->False:=fun j hj=>by
  rw[Array.getD_eq_getD_getElem?] at hj
  by_cases h:j<ops.length<;>simp[h] at hj
 exact⟨fun j _ hj=>(hno j hj).elim,fun _ _=>rfl,rfl,rfl,fun B _ _=>ax _ _,fun _ _ _=>rfl,jQ.refl _,fun _ _ _=>rfl,ai _,by simp,fun j hj=>(hno j hj).elim,fun j hj=>(hno j hj).elim,fun j hj=>(hno j hj).elim,fun j _ hj=>(hno j hj).elim,fun i j _ _ hj=>(hno i hj).elim⟩
theorem jE {x:Nat->aq} {w:ag} (h:Q .normal ⟨fill ops x 0 t0,ds⟩ w):Rest P ops Q t0 ds ops.length x w:=by
 unfold Rest;rw[Nat.sub_self,bK];refine⟨?_,h⟩;simp only[vH,dJ];refine List.eq_nil_iff_forall_not_mem.2 (fun i hi=>?_);obtain⟨h1,o,ho,_⟩:=mem_ready.1 hi;have hlt:i<ops.length:=by have:=(Array.getElem?_eq_some_iff.1 ho).1;simpa using this
 simp[Array.getD_eq_getD_getElem?,hlt] at h1
end
end
end aQ
def gj (z:Int):Nat:=(min (max z 0) 4096).toNat
theorem Bc (z:Int):gj z<=4096:=by unfold gj;omega
theorem AK (z:Int) (w:ag) :
  aW aj 202 #[.int .i64 z] w fun e w'=>e=.returned (.tuple #[.int .i64 ((gj z / 32:Nat):Int),.int .i64 ((gj z % 32:Nat):Int)])/\w=w':=by
 have e1:((gj z / 32:Nat):Int)=min (max z 0) 4096 / 32:=by unfold gj;omega
 have e2:((gj z % 32:Nat):Int)=min (max z 0) 4096 % 32:=by unfold gj;omega
 rw[e1,e2];clear e1 e2;go_enter Tryz.func202,Tryz.ntmps202
 go_wp2
 go_ret2
 exact⟨rfl,rfl⟩
theorem Jz {x r:Nat} (hx:x<4294967296) (hr:r<32):x*2 ^ r<18446744073709551616/\x*2 ^ r / 4294967296<2 ^ r/\x*2 ^ r % 4294967296 % 2 ^ r=0:=by
 have hp:0<2 ^ r:=dj (by decide);have h32:2 ^ r*2 ^ (32 - r)=4294967296:=by rw[<-jR,show r+(32 - r)=32 by omega]
 refine⟨?_,?_,?_⟩
 ·have h1:2 ^ r<=2 ^ 31:=cf (by decide) (by omega);have:=Nat.mul_lt_mul_of_lt_of_le hx h1 (by decide)
  omega
 ·apply eG
  rw[fN x];exact fN 4294967296 (2 ^ r) ▸ (Nat.mul_lt_mul_left hp).2 hx
 rw[<-h32,Nat.mod_mod_of_dvd _ (Nat.dvd_mul_right _ _)];exact Nat.mul_mod_left _ _
theorem MJ {P:List Nat} {x r j:Nat} (hr:r<32) (hT:P.getD j 0<2 ^ r):P.getD j 0+x*2 ^ r % aG<aG:=by
 have h32:2 ^ r*2 ^ (32 - r)=4294967296:=by rw[<-jR,show r+(32 - r)=32 by omega]
 have h1:x*2 ^ r % 4294967296=2 ^ r*(x % 2 ^ (32 - r)):=by rw[<-h32,fN x,Nat.mul_mod_mul_left]
 have h2:x % 2 ^ (32 - r)<2 ^ (32 - r):=dZ _ (dj (by decide));have h3:2 ^ r*(x % 2 ^ (32 - r)+1)<=2 ^ r*2 ^ (32 - r):=fk _ h2;rw[Nat.mul_add,LP] at h3
 show P.getD j 0+x*2 ^ r % 4294967296<4294967296
 omega
theorem JA {P X:List Nat} {i j r:Nat} (hx:X.getD i 0<aG) (hr:r<32) (hT:P.getD j 0<2 ^ r) :
  bits BinOp.or kW (nth P j) (IntKind.u64.wrap (nth X i*2 ^ r) % 4294967296)=((P.getD j 0+X.getD i 0*2 ^ r % aG:Nat):Int) /\
  IntKind.u64.wrap (nth X i*2 ^ r) / 4294967296 % 4294967296=((X.getD i 0*2 ^ r / aG:Nat):Int):=by
 obtain⟨q1,q2,q3⟩:=Jz hx hr;have hp:2 ^ r<=2 ^ 31:=cf (by decide) (by omega);have e0:nth X i*2 ^ r=((X.getD i 0*2 ^ r:Nat):Int):=by unfold nth;simp
 have e1:IntKind.u64.wrap (nth X i*2 ^ r)=((X.getD i 0*2 ^ r:Nat):Int):=by rw[e0,IntWalk.u64_in _ (by omega)]
 rw[e1];generalize hw:X.getD i 0*2 ^ r=wide at *;refine⟨?_,?_⟩
 ·have e2:((wide:Nat):Int) % 4294967296=((wide % 4294967296:Nat):Int):=by omega
  rw[e2]
  show bits BinOp.or kW ((P.getD j 0:Nat):Int) _=_
  rw[u32_or_nat _ _ (by omega) (by omega),Nat.or_comm,nat_join r _ _ q3 hT,Nat.add_comm]
 show _=((wide / 4294967296:Nat):Int)
 omega
theorem Jy {P xs:List Nat} {i m r wide:Nat} (hi:i+m+1<P.length) (hv:val aG P=val aG (xs.take i)*(2 ^ r*aG ^ m)) (hw:wide=xs.getD i 0*2 ^ r) (h0:P.getD (i+m+1) 0=0) :
  val aG ((P.set (i+m) (P.getD (i+m) 0+wide % aG)).set (i+m+1) (wide / aG))=val aG (xs.take (i+1))*(2 ^ r*aG ^ m):=by
 have h1:=DY aG P (i+m) (wide % aG) (by omega);have h2:=kY aG (P.set (i+m) (P.getD (i+m) 0+wide % aG)) (i+m+1) (wide / aG) (by rw[bY];omega);rw[eJ,if_neg (by omega),h0,h1,hv,cj,rK,pT] at h2;rw[h2,dG,dH];have h3:=ju wide aG;generalize wide % aG=lo at *;generalize wide / aG=hi' at *;rw[jR];generalize aG ^ i=pi at *;generalize aG ^ m=pm at *;generalize 2 ^ r=pr at *;subst hw;have h4:(lo+aG*hi')*(pi*pm)=xs.getD i 0*pr*(pi*pm):=by rw[h3]
 grind
theorem uv (n t:Nat):(bJ n 0).getD t 0=0:=by
 by_cases h:t<n
 ·simp[dW,h]
 simp[dW,Nat.le_of_not_lt h]
set_option maxRecDepth 100000 in
theorem Fv (va:aq) (xs:List Nat) (z:Int) (w:ag) (hx:Sl w .u32 va xs) (dx:eV aG xs) (lx:xs.length<=1000000) :
  aW aj 187 #[va,.int .i64 z] w fun e w'=>∃ v,e=.returned v/\Sl w' .u32 v (fJ aG (val aG xs*2 ^ gj z))/\aA w.heap.size w w':=by
 obtain⟨i0,hi,hz0,gV,pJ⟩:=pS vS;obtain⟨ao,ac,rfl⟩:=bZ hx;have nx:=gT xs;have hx':=hx.take (nz xs) nx;have Cn:=dx.take (nz xs);have VX:=ck (B:=aG) (by decide) dx;have ex:(xs.take (nz xs)).length=nz xs:=by simp;omega
 have Ag:=aa hx;have Dx:=aa (fun w=>eA ao xs.length ac xs w);have cz:=Bc z;have SH:=aa (fun w=>AK z w)
 have KL:2 ^ gj z=2 ^ (gj z % 32)*aG ^ (gj z / 32):=by
  rw[show aG=2 ^ 32 from rfl,<-Nat.pow_mul,<-jR]
  congr 1;omega
 clear hx;rw[<-VX,KL];have hr:gj z % 32<32:=dZ _ (by decide);have hm:gj z / 32<=128:=by omega
 clear VX dx KL cz;generalize gj z % 32=r at *;generalize gj z / 32=m at *;generalize xs.take (nz xs)=X at *;generalize nz xs=n at *
 have SX:Hid (∀ w1,aA w.heap.size w w1->∀ k,k<n->∃ a,ao=some a/\w1.cell? (a.add k)=some (.int .u32 (nth X k))):=by
  intro w1 hb k hk;obtain⟨QU,cap',e,_,_,_,q⟩:=hx'.below hb;injection e with e1 e2 e3;subst e1;exact q k (by omega)
 have EX:=aa ex;clear ex;go_enter Tryz.func187,Tryz.ntmps187
 go_wp2_with fail
 refine (Dx.out _ Ag.out).mono ?_;rintro e w' ⟨rfl,rfl⟩;go_wp2_with fail
 refine (SH.out _).mono ?_;rintro e w' ⟨rfl,rfl⟩;go_wp2_with (at_make;refine iO _ rfl _ _ 24 rfl 153 i0 .u32 mF hi hz0 gV _ _ _ _ (n+m+1) rfl rfl (by omega) (by omega) (by omega) (by omega) ?_;intro w1 FX eH hs1)
 go_loopw [26] (fun j wr=>∃ (i:Nat) (P:List Nat),j=.int .i64 i/\i<=n/\pR wr w.heap.size .u32 153 P/\aA w.heap.size w wr/\eV aG P/\Hid (P.length=n+m+1)/\Hid (∀ t,i+m<t->P.getD t 0=0)/\Hid (P.getD (i+m) 0<2 ^ r)/\Hid (val aG P=val aG (X.take i)*(2 ^ r*aG ^ m))) (fun j _=>n - (ei j).toNat)
 case atStart=>exact⟨0,_,rfl,au _,FX,eH,eV.replicate (by decide) _,aa (by simp),aa (fun t _=>uv _ _),aa (by rw[uv];exact dj (by decide)),aa (by rw[iK];simp[val])⟩
 case round =>
  clear FX eH hs1;obtain⟨i,P,rfl,hin,hB,hb,ND,HL,HZ,HT,HV⟩:=hrel
  by_cases hlt:i<n
  ·obtain⟨a,rfl,hca⟩:=SX.out wr hb i hlt;have x1:=jq Cn i;have x0:=Cn.getD (by decide) i;obtain⟨q1,q2,q3⟩:=Jz x0 hr;have hc0:wr.cell? ⟨w.heap.size,i+m,none⟩=some (.int .u32 (nth P (i+m))):=hB.cell (by rw[HL.out];omega);have Xv:wr.cell? ⟨w.heap.size,i+m+1,none⟩=some (.int .u32 (nth P (i+m+1))):=hB.cell (by rw[HL.out];omega);have Xo:=hB.frozen (i+m);have lZ:=hB.frozen (i+m+1);have hE:=JA (P:=P) (X:=X) (i:=i) (j:=i+m) x0 hr HT.out;have E1:=aa hE.1;have E2:=aa hE.2;have HS:=aa (Jy (wide:=X.getD i 0*2 ^ r) (by rw[HL.out];omega) HV.out rfl (HZ.out (i+m+1) (by omega)));have Q1:=aa q1;have Q2:=aa q2;have pX:=aa (MJ (P:=P) (x:=X.getD i 0) (j:=i+m) hr HT.out);clear hE q1 q2 q3;go_wp2_with fail
   go_roundw
   case rel =>
    refine⟨i+1,_,by go_num,by omega,pR.set (pR.set hB (i+m) _ _ E1.out) (i+m+1) _ _ E2.out,(hb.setCell (p:=⟨w.heap.size,i+m,none⟩) (ai _) _).setCell (p:=⟨w.heap.size,i+m+1,none⟩) (ai _) _,(ND.set pX.out).set (eG Q1.out),aa (by rw[bY,bY];exact HL.out),aa ?_,aa ?_,HS⟩
    ·intro t ht;rw[eJ,if_neg (by omega),eJ,if_neg (by omega)];exact HZ.out t (by omega)
    rw[eJ,bY,if_pos ⟨by omega,by rw[HL.out];omega⟩];exact Q2.out
   case measure=>simp[ei];omega
  have NB:i=n:=by omega
  subst NB
  have hv:val aG P=val aG X*(2 ^ r*aG ^ m):=by
   have h:=HV.out
   rwa [cw (by rw[EX.out];omega)] at h
  have Pc:=aa hv;clear hv;have FO:=hB.sl 0 (i+m+1) (i+m+1) (by rw[HL.out];omega) (ai _) (by omega);rw[cx,cw (by rw[HL.out];omega)] at FO;go_wp2_with fail
  refine (jC _ P _ FO ND).mono ?_;rintro e w4 ⟨v4,rfl,KC,rfl⟩;go_wp2_with fail
  go_ret
  refine⟨_,rfl,?_,hb⟩;rw[Pc.out] at KC;exact KC
theorem Jv {P Y:List Nat} {i r S:Nat} (hr:r<32) (hi:i<Y.length) (hd:eV aG Y) (hip:i<P.length) (hv:val aG (P.take i)+(val aG (Y.drop i) / 2 ^ r)*aG ^ i=S) :
  val aG ((P.set i ((Y.getD i 0+aG*Y.getD (i+1) 0) / 2 ^ r % aG)).take (i+1))+(val aG (Y.drop (i+1)) / 2 ^ r)*aG ^ (i+1)=S:=by
 have hp:0<2 ^ r:=dj (by decide);have h32:2 ^ r*2 ^ (32 - r)=aG:=by rw[<-jR,show r+(32 - r)=32 by omega]
 have e1:val aG (Y.drop i)=Y.getD i 0+aG*val aG (Y.drop (i+1)):=my hi
 have e2:val aG (Y.drop (i+1))=Y.getD (i+1) 0+aG*val aG (Y.drop (i+2)):=by
  by_cases h:i+1<Y.length
  ·exact my h
  rw[gP (by omega),gP (by omega),u_ (by omega)];simp[val]
 have hq:val aG (Y.drop i) / 2 ^ r % aG=(Y.getD i 0+aG*Y.getD (i+1) 0) / 2 ^ r % aG:=by
  rw[e1,e2,Nat.mul_add,<-Nat.add_assoc]
  have:aG*(aG*val aG (Y.drop (i+2)))=2 ^ r*(2 ^ (32 - r)*(aG*val aG (Y.drop (i+2)))):=by
   rw[<-nQ (2 ^ r),h32]
  rw[this,oN _ _ hp]
  have h3:2 ^ (32 - r)*(aG*val aG (Y.drop (i+2)))=aG*(2 ^ (32 - r)*val aG (Y.drop (i+2))):=by
   rw[<-nQ,fN (2 ^ (32 - r)),nQ]
  rw[h3,DO]
 have hq2:val aG (Y.drop i) / 2 ^ r / aG=val aG (Y.drop (i+1)) / 2 ^ r:=by
  rw[Nat.div_div_eq_div_mul,fN,<-Nat.div_div_eq_div_mul,e1,oN _ _ (by decide),kL (hd.getD (by decide) i),fM]
 have h4:=ju (val aG (Y.drop i) / 2 ^ r) aG;rw[hq,hq2] at h4;rw[dG,eJ,if_pos ⟨rfl,hip⟩,List.take_set_of_le (ai i),<-hv,<-h4,cj];generalize (Y.getD i 0+aG*Y.getD (i+1) 0) / 2 ^ r % aG=p;generalize val aG (Y.drop (i+1)) / 2 ^ r=u;generalize aG ^ i=t;rw[dH,Nat.add_assoc]
 congr 2
 grind
theorem GK {X:List Nat} {m r:Nat} (dx:eV aG X) (hm:m<=X.length):val aG (X.drop m) / 2 ^ r=val aG X / (2 ^ r*aG ^ m):=by
 have h1:=eW (dx.take m);rw[aX,cX hm] at h1;rw[jB aG X m hm,fN (2 ^ r),<-Nat.div_div_eq_div_mul,oN _ _ (dj (by decide)),kL h1,fM]
theorem Jw {y y1 r:Nat} (hy:y<aG) (PX:y1<aG) :
  bits BinOp.or IntKind.u64 (y:Int) ((y1:Int)*4294967296) / 2 ^ r % 4294967296=(((y+aG*y1) / 2 ^ r % aG:Nat):Int):=by
 have e:(y1:Int)*4294967296=((y1*4294967296:Nat):Int):=by simp
 have hy':y<4294967296:=hy;have aJe:y1<4294967296:=PX;rw[e,u64_or_nat _ _ (by omega) (by omega),Nat.or_comm,nat_join 32 _ _ (by omega) hy'];have e2:y1*4294967296+y=y+aG*y1:=by show y1*4294967296+y=y+4294967296*y1;omega
 rw[e2];simp
theorem GM {y r:Nat}:(y:Int) / 2 ^ r % 4294967296=(((y+aG*0) / 2 ^ r % aG:Nat):Int):=by simp
set_option maxRecDepth 100000 in
theorem MI (va:aq) (xs:List Nat) (z:Int) (w:ag) (hx:Sl w .u32 va xs) (dx:eV aG xs) (lx:xs.length<=1000000) :
  aW aj 189 #[va,.int .i64 z] w fun e w'=>∃ v,e=.returned v/\Sl w' .u32 v (fJ aG (val aG xs / 2 ^ gj z))/\aA w.heap.size w w':=by
 obtain⟨i0,hi,hz0,gV,pJ⟩:=pS vS;obtain⟨ao,ac,rfl⟩:=bZ hx;have nx:=gT xs;have hx':=hx.take (nz xs) nx;have Cn:=dx.take (nz xs);have VX:=ck (B:=aG) (by decide) dx;have ex:(xs.take (nz xs)).length=nz xs:=by simp;omega
 have Ag:=aa hx;have Dx:=aa (fun w=>eA ao xs.length ac xs w);have cz:=Bc z;have SH:=aa (fun w=>AK z w)
 have KL:2 ^ gj z=2 ^ (gj z % 32)*aG ^ (gj z / 32):=by
  rw[show aG=2 ^ 32 from rfl,<-Nat.pow_mul,<-jR]
  congr 1;omega
 have hac:xs.length<=ac:=by obtain⟨_,_,e,h,_⟩:=hx;injection e with _ _ e3;omega
 clear hx;rw[<-VX,KL];have hr:gj z % 32<32:=dZ _ (by decide);have hm:gj z / 32<=128:=by omega
 clear VX dx KL cz;generalize gj z % 32=r at *;generalize gj z / 32=m at *;generalize xs.take (nz xs)=X at *;generalize nz xs=n at *
 have SX:Hid (∀ w1,aA w.heap.size w w1->∀ k,k<n->∃ a,ao=some a/\w1.cell? (a.add k)=some (.int .u32 (nth X k))):=by
  intro w1 hb k hk;obtain⟨QU,cap',e,_,_,_,q⟩:=hx'.below hb;injection e with e1 e2 e3;subst e1;exact q k (by omega)
 have EX:=aa ex;clear ex
 by_cases hmn:n<=m
 ·have Zl:val aG X / (2 ^ r*aG ^ m)=0:=by
   apply kL
   have h1:=eW Cn;rw[EX.out] at h1;have h2:aG ^ n<=aG ^ m:=cf (by decide) hmn;have h3:1*aG ^ m<=2 ^ r*aG ^ m:=aV _ (dj (by decide))
   omega
  have HV0:=aa Zl;clear Zl;go_enter Tryz.func189,Tryz.ntmps189
  go_wp2_with fail
  refine (Dx.out _ Ag.out).mono ?_;rintro e w' ⟨rfl,rfl⟩;go_wp2_with fail
  refine (SH.out _).mono ?_;rintro e w' ⟨rfl,rfl⟩;go_wp2_with fail
  go_ret
  refine⟨_,rfl,?_,ax _ _⟩;rw[HV0.out,fD];exact Sl.nil _ _
 obtain⟨a,rfl,_⟩:=SX.out w (ax _ _) 0 (by omega);have hWH:=aa (GK (X:=X) (m:=m) (r:=r) Cn (by rw[EX.out];omega));have dY:=Cn.drop m;have lY:(X.drop m).length=n - m:=by rw[jh,EX.out]
 have LY:=aa lY;clear lY;have NG:¬ ac=m:=by omega
 have SY:Hid (∀ w1,aA w.heap.size w w1->∀ k,k<n - m->w1.cell? ((a.add m).add k)=some (.int .u32 (nth (X.drop m) k))):=by
  intro w1 hb k hk;obtain⟨a',e,hc⟩:=SX.out w1 hb (m+k) (by omega);injection e with e;subst e;rw[vm,hc];unfold nth;simp[dW]
 go_enter Tryz.func189,Tryz.ntmps189
 go_wp2_with fail
 refine (Dx.out _ Ag.out).mono ?_;rintro e w' ⟨rfl,rfl⟩;go_wp2_with fail
 refine (SH.out _).mono ?_;rintro e w' ⟨rfl,rfl⟩;go_wp2_with (at_make;refine iO _ rfl _ _ 24 rfl 153 i0 .u32 mF hi hz0 gV _ _ _ _ (n - m) rfl rfl (by omega) (by omega) (by omega) (by omega) ?_;intro w1 FX eH hs1)
 generalize a.add m=b at *;generalize X.drop m=Y at *;generalize hN:n - m=N at *;have hN1:0<N/\N<=1000000:=by omega
 clear hN
 go_loopw [29] (fun j wr=>∃ (i:Nat) (P:List Nat),j=.int .i64 i/\i<=N/\pR wr w.heap.size .u32 153 P/\aA w.heap.size w wr/\eV aG P/\Hid (P.length=N)/\Hid (val aG (P.take i)+(val aG (Y.drop i) / 2 ^ r)*aG ^ i=val aG Y / 2 ^ r)) (fun j _=>N - (ei j).toNat)
 case atStart=>exact⟨0,_,rfl,au _,FX,eH,eV.replicate (by decide) _,aa (by simp),aa (by simp[val])⟩
 case round =>
  clear FX eH hs1;obtain⟨i,P,rfl,hin,hB,hb,ND,HL,HV⟩:=hrel
  by_cases hlt:i<N
  ·have hc0:=SY.out wr hb i hlt;have x1:=jq dY i;have y0:=dY.getD (by decide) i;have y1:=dY.getD (by decide) (i+1);have hcp:wr.cell? ⟨w.heap.size,i,none⟩=some (.int .u32 (nth P i)):=hB.cell (by rw[HL.out];omega);have hf:=hB.frozen i;have HS:=aa (Jv (P:=P) (Y:=Y) (i:=i) hr (by rw[LY.out];exact hlt) dY (by rw[HL.out];exact hlt) HV.out);have HD1:=aa (ND.set (i:=i) (v:=(Y.getD i 0+aG*Y.getD (i+1) 0) / 2 ^ r % aG) (dZ _ (by decide)));have Gr:=aa (show (P.set i ((Y.getD i 0+aG*Y.getD (i+1) 0) / 2 ^ r % aG)).length=N by rw[bY];exact HL.out)
   by_cases Hz:i+1<N
   ·have Xv:wr.cell? ⟨b.block,b.off+(i+1),none⟩=some (.int .u32 (nth Y (i+1))):=by
     have:=SY.out wr hb (i+1) Hz
     simpa [nM] using this
    have x2:=jq dY (i+1);have E1:=aa (Jw (r:=r) y0 y1);clear y0 y1;go_wp2_with fail
    go_roundw
    case rel=>exact⟨i+1,_,by go_num,by omega,pR.set hB i _ _ E1.out,hb.setCell (p:=⟨w.heap.size,i,none⟩) (ai _) _,HD1.out,Gr,HS⟩
    case measure=>simp[ei];omega
   have YR:Y.getD (i+1) 0=0:=u_ (by rw[LY.out];omega);have E1:Hid (nth Y i / 2 ^ r % 4294967296=(((Y.getD i 0+aG*Y.getD (i+1) 0) / 2 ^ r % aG:Nat):Int)):=aa (by rw[YR];exact GM);clear y0 y1 YR;go_wp2_with fail
   go_roundw
   case rel=>exact⟨i+1,_,by go_num,by omega,pR.set hB i _ _ E1.out,hb.setCell (p:=⟨w.heap.size,i,none⟩) (ai _) _,HD1.out,Gr,HS⟩
   case measure=>simp[ei];omega
  have NB:i=N:=by omega
  subst NB
  have hv:val aG P=val aG Y / 2 ^ r:=by
   have h:=HV.out;rw[cw (by rw[HL.out];omega),gP (by rw[LY.out];omega)] at h
   simpa [val] using h
  have Pc:=aa hv;clear hv;have FO:=hB.sl 0 i i (by rw[HL.out];omega) (ai _) (by omega);rw[cx,cw (by rw[HL.out];omega)] at FO;go_wp2_with fail
  refine (jC _ P _ FO ND).mono ?_;rintro e w4 ⟨v4,rfl,KC,rfl⟩;go_wp2_with fail
  go_ret
  refine⟨_,rfl,?_,hb⟩;rw[Pc.out,hWH.out] at KC;exact KC
end Go.Proofs.YtoncclhbdkjhmaaGreatDoor
