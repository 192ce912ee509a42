/-
 Joined texts: KBase,KNat,KRef,Shelf,KText,KMul,Rely,KSh,KDiv,KPar,KWhoA,KWhoF.
-/
import Init
import Derived.WalkKit
import Derived.WalkSpells
import Derived.WalkLawsBesides
import Derived.Lib.Hide
import Derived.Laws.CopyOwn
import Derived.Laws.AppendOwnNone
import Derived.Test.YtoncclhbdkjhmaaGreatDoorRows
import Derived.Deep.QuietTactic
import Derived.BigQuiet
import Derived.Shelf.Strings.Builder1
import Derived.Shelf.Small.Bits
import Derived.Shelf.Small.Wraps
import Derived.Shelf.Strconv.Itoa0
import Derived.Shelf.Strconv.Itoa1
import Derived.Shelf.LaysM
import Derived.Shelf.Strconv.Itoa2
import Derived.Test.YtoncclhbdkjhmaaGreatDoorProg
import Derived.Lib.Builder
import Derived.Lib.ItoaNum
import Derived.Lib.AppendStr
import Derived.RegionTactic
import Derived.StillTailTactics
import Derived.Deep.RegionHeld3
import Derived.Lib.ItoaMem
import Derived.Deep.DeepCutAuto
set_option maxHeartbeats 32000000
namespace Go.Proofs.YtoncclhbdkjhmaaGreatDoor
set_option maxRecDepth 100000
theorem gsa {α:Type _} {xs:List α} {i:Nat}:xs.toArray[i]?=xs[i]?:=List.getElem?_toArray
theorem gsc {α:Type _} {a:α} {xs:List α} {i:Nat}:(a::xs)[i+1]?=xs[i]?:=List.getElem?_cons_succ
theorem gsz {α:Type _} {a:α} {l:List α}:(a::l)[0]?=some a:=List.getElem?_cons_zero
theorem lsa {α:Type _} {xs ys:List α}:(xs++ys).length=xs.length+ys.length:=List.length_append
theorem lsc {α:Type _} {a:α} {xs:List α}:(a::xs).length=xs.length+1:=List.length_cons
theorem lsn {α:Type _}:([]:List α).length=0:=List.length_nil
theorem t1_ {α:Type _} {a:α} {xs:List α} {i:Nat}:(a::xs).take (i+1)=a::xs.take i:=List.take_succ_cons
theorem t2_ {α:Type _} {l:List α}:l.take 0=[]:=List.take_zero
theorem t3_ {α:Type _} {a:α} {l:List α} {i:Nat}:(a::l).drop (i+1)=l.drop i:=List.drop_succ_cons
theorem t4_ {α:Type _} {l:List α}:l.drop 0=l:=List.drop_zero
theorem t5_ {α:Type _} {l:List α} {i:Nat} {a:α}:l.toArray.setIfInBounds i a=(l.set i a).toArray:=List.setIfInBounds_toArray _ _ _
theorem t6_ {α:Type _} {x:α} {xs:List α} {a:α}:(x::xs).set 0 a=a::xs:=List.set_cons_zero
theorem t7_ {α:Type _} {x:α} {xs:List α} {n:Nat} {a:α}:(x::xs).set (n+1) a=x::xs.set n a:=List.set_cons_succ

def val (B:Nat):List Nat->Nat
 | []=>0
 | x::xs=>x+B*val B xs

def Dig (B:Nat) (xs:List Nat):Prop:=∀ x ∈ xs,x<B

theorem val_append (B:Nat) (xs ys:List Nat):val B (xs++ys)=val B xs+B ^ xs.length*val B ys:=by
 induction xs with
 | nil=>simp[val]
 | cons x xs ih=>simp only[List.cons_append,val,ih,lsc,Nat.pow_succ];grind
theorem val_lt {B:Nat} {xs:List Nat} (h:Dig B xs):val B xs<B ^ xs.length:=by
 induction xs with
 | nil=>simp[val]
 | cons x xs ih =>
  have h1:x<B:=h x (by simp);have h2:=ih (fun y hy=>h y (by simp[hy]));simp only[val,lsc,Nat.pow_succ];have:B*(val B xs+1)<=B*B ^ xs.length:=Nat.mul_le_mul_left _ h2
  grind
theorem val_set (B:Nat) (xs:List Nat) (i v:Nat) (h:i<xs.length):val B (xs.set i v)+xs.getD i 0*B ^ i=val B xs+v*B ^ i:=by
 induction xs generalizing i with
 | nil=>simp at h
 | cons x xs ih =>
  cases i with
  | zero=>simp[val];omega
  | succ i =>
   have:=ih i (by simpa using h);simp only[List.set_cons_succ,val,List.getD_cons_succ,Nat.pow_succ]
   grind
theorem val_take_succ (B:Nat) (xs:List Nat) (k:Nat) (h:k<xs.length):val B (xs.take (k+1))=val B (xs.take k)+xs.getD k 0*B ^ k:=by
 rw[List.take_succ_eq_append_getElem h,val_append];have e:(xs.take k).length=k:=by simp;omega
 simp[val,e,List.getD,h,Nat.mul_comm]
theorem val_replicate_zero (B n:Nat):val B (List.replicate n 0)=0:=by
 induction n with
 | zero=>rfl
 | succ n ih=>simp[List.replicate_succ,val,ih]
theorem Dig.set {B:Nat} {xs:List Nat} (h:Dig B xs) {i v:Nat} (hv:v<B):Dig B (xs.set i v):=by
 intro x hx;rcases List.mem_or_eq_of_mem_set hx with h' | h'
 ·exact h x h'
 omega
theorem Dig.append {B:Nat} {xs ys:List Nat} (h:Dig B xs) (k:Dig B ys):Dig B (xs++ys):=by
 intro x hx;rcases List.mem_append.1 hx with h' | h'
 ·exact h x h'
 exact k x h'
theorem Dig.take {B:Nat} {xs:List Nat} (h:Dig B xs) (n:Nat):Dig B (xs.take n):=fun x hx=>h x (List.mem_of_mem_take hx)
theorem Dig.drop {B:Nat} {xs:List Nat} (h:Dig B xs) (n:Nat):Dig B (xs.drop n):=fun x hx=>h x (List.mem_of_mem_drop hx)
theorem Dig.getD {B:Nat} {xs:List Nat} (h:Dig B xs) (hB:0<B) (i:Nat):xs.getD i 0<B:=by
 by_cases hi:i<xs.length
 ·have:=h xs[i] (List.getElem_mem hi);simpa [List.getD,hi] using this
 simpa [List.getD,Nat.le_of_not_lt hi] using hB
theorem Dig.replicate {B:Nat} (hB:0<B) (n:Nat):Dig B (List.replicate n 0):=fun x hx=>by rw[List.eq_of_mem_replicate hx];exact hB
theorem Dig.nil (B:Nat):Dig B []:=fun x hx=>by cases hx
def nz (xs:List Nat):Nat:=(xs.reverse.dropWhile (· == 0)).length
theorem nz_le (xs:List Nat):nz xs<=xs.length:=by
 unfold nz;have:=(List.dropWhile_suffix (p:=(· == 0)) (l:=xs.reverse)).length_le
 simpa using this
theorem nz_zero {xs:List Nat} {k:Nat} (h:k<xs.length) (h0:xs.getD k 0=0):nz (xs.take (k+1))=nz (xs.take k):=by
 unfold nz;rw[List.take_succ_eq_append_getElem h]
 simp[List.getD,h] at h0
 simp[h0]
theorem nz_pos {xs:List Nat} {k:Nat} (h:k<xs.length) (h0:xs.getD k 0≠0):nz (xs.take (k+1))=k+1:=by
 unfold nz;rw[List.take_succ_eq_append_getElem h]
 simp[List.getD,h] at h0
 have e:(xs[k]==0)=false:=by simpa using h0
 rw[List.reverse_append,List.reverse_singleton,List.singleton_append,List.dropWhile_cons,e]
 simp;omega
def dig (B:Nat) (n:Nat):List Nat:=
 if _h:2<=B/\0<n then n % B::dig B (n / B) else []
termination_by n
decreasing_by exact Nat.div_lt_self _h.2 (by omega)
theorem dig_zero (B:Nat):dig B 0=[]:=by unfold dig;simp
theorem dig_pos {B n:Nat} (hB:2<=B) (h:0<n):dig B n=n % B::dig B (n / B):=by rw[dig];simp[hB,h]
theorem val_dig {B:Nat} (hB:2<=B) (n:Nat):val B (dig B n)=n:=by
 induction n using Nat.strongRecOn with
 | ind n ih =>
  by_cases h:0<n
  ·rw[dig_pos hB h];simp only[val];rw[ih _ (Nat.div_lt_self h (by omega))];have:=Nat.mod_add_div n B;omega
  have:n=0:=by omega
  subst this;simp[dig_zero,val]
theorem Dig_dig {B:Nat} (hB:2<=B) (n:Nat):Dig B (dig B n):=by
 induction n using Nat.strongRecOn with
 | ind n ih =>
  by_cases h:0<n
  ·rw[dig_pos hB h];intro x hx;rcases List.mem_cons.1 hx with rfl | hx
   ·exact Nat.mod_lt _ (by omega)
   exact ih _ (Nat.div_lt_self h (by omega)) x hx
  have:n=0:=by omega
  subst this;simp[dig_zero,Dig]
theorem take_nz {B:Nat} (hB:2<=B) {xs:List Nat} (h:Dig B xs):xs.take (nz xs)=dig B (val B xs):=by
 induction xs with
 | nil=>simp[nz,val,dig_zero]
 | cons x xs ih =>
  have hx:x<B:=h x (by simp);have hd:Dig B xs:=fun y hy=>h y (by simp[hy])
  have ih':=ih hd
  by_cases hz:nz xs=0
  ·have hv:val B xs=0:=by
    have:dig B (val B xs)=[]:=by rw[<-ih',hz];rfl
    by_cases h0:0<val B xs
    ·rw[dig_pos hB h0] at this;cases this
    omega
   have hall:xs.reverse.dropWhile (· == 0)=[]:=List.eq_nil_of_length_eq_zero hz;simp only[val,hv,Nat.mul_zero,Nat.add_zero]
   have e:nz (x::xs)=if x=0 then 0 else 1:=by
    unfold nz;rw[List.reverse_cons,List.dropWhile_append,hall]
    by_cases hx0:x=0
    ·simp[hx0]
    simp[hx0,List.dropWhile]
    have:(x==0)=false:=by simpa using hx0
    simp[this]
   by_cases hx0:x=0
   ·rw[e,if_pos hx0,hx0,dig_zero];rfl
   rw[e,if_neg hx0,dig_pos hB (by omega),Nat.mod_eq_of_lt hx,Nat.div_eq_of_lt hx,dig_zero];rfl
  have hne:xs.reverse.dropWhile (· == 0) ≠ []:=fun e=>hz (by unfold nz;rw[e];rfl)
  have e:nz (x::xs)=nz xs+1:=by
   unfold nz;rw[List.reverse_cons,List.dropWhile_append,if_neg (by simpa using hne)]
   simp
  have hv:0<val B xs:=by
   rcases Nat.eq_zero_or_pos (val B xs) with h0 | h0
   ·rw[h0,dig_zero] at ih';have:=congrArg List.length ih'
    simp at this
    have hl:=nz_le xs;rcases this with h1 | h1
    ·omega
    subst h1;simp[nz] at hz
   exact h0
  have hv':0<x+B*val B xs:=by
   have h1:1<=B:=by omega
   have:=Nat.mul_le_mul h1 hv;omega
  rw[e,List.take_succ_cons,ih',val,dig_pos (n:=x+B*val B xs) hB hv'];rw[Nat.add_mul_mod_self_left,Nat.mod_eq_of_lt hx,Nat.add_mul_div_left _ _ (by omega),Nat.div_eq_of_lt hx,Nat.zero_add]
theorem dig_val_take {B:Nat} (hB:2<=B) {xs:List Nat} (h:Dig B xs):dig B (val B xs)=xs.take (nz xs):=(take_nz hB h).symm
theorem length_dig_val {B:Nat} (hB:2<=B) {xs:List Nat} (h:Dig B xs):(dig B (val B xs)).length=nz xs:=by
 rw[dig_val_take hB h,List.length_take];have:=nz_le xs;omega
theorem val_take_nz {B:Nat} (hB:2<=B) {xs:List Nat} (h:Dig B xs):val B (xs.take (nz xs))=val B xs:=by rw[take_nz hB h,val_dig hB]
theorem length_dig_le {B:Nat} (hB:2<=B) {n k:Nat} (h:n<B ^ k):(dig B n).length<=k:=by
 induction k generalizing n with
 | zero=>simp at h;subst h;simp[dig_zero]
 | succ k ih =>
  by_cases h0:0<n
  ·rw[dig_pos hB h0,lsc];have:n / B<B ^ k:=Nat.div_lt_of_lt_mul (by rw[Nat.pow_succ] at h;rw[Nat.mul_comm];exact h);have:=ih this;omega
  have:n=0:=by omega
  subst this;simp[dig_zero]
theorem lt_pow_of_length {B:Nat} (hB:2<=B) {n k:Nat} (h:(dig B n).length<=k):n<B ^ k:=by
 have h1:=val_lt (Dig_dig hB n);rw[val_dig hB] at h1;exact Nat.lt_of_lt_of_le h1 (Nat.pow_le_pow_right (by omega) h)
theorem le_of_length {B:Nat} (hB:2<=B) {n k:Nat} (h:k<(dig B n).length):B ^ k<=n:=by
 rcases Nat.lt_or_ge n (B ^ k) with h1 | h1
 ·have:=length_dig_le hB h1;omega
 exact h1
end Go.Proofs.YtoncclhbdkjhmaaGreatDoor
namespace Go.Proofs.YtoncclhbdkjhmaaGreatDoor
open Go.RowKit
set_option maxRecDepth 100000
def nth (xs:List Nat) (i:Nat):Int:=((xs.getD i 0:Nat):Int)
theorem nth_eq {xs:List Nat} {i:Nat} (h:i<xs.length):nth xs i=((xs[i]:Nat):Int):=by
 unfold nth;simp[List.getD,h]
def Sl (w:World) (k:IntKind) (v:Value) (xs:List Nat):Prop:=
 ∃ (ao:Option Addr) (cap:Nat),v=.slice ao xs.length cap/\xs.length<=cap/\cap<=9223372036854775807/\(ao=none->cap=0) /\
  ∀ i,i<xs.length->∃ a,ao=some a/\w.cell? (a.add i)=some (.int k (nth xs i))
theorem addr_add_add (a:Addr) (i j:Nat):(a.add i).add j=a.add (i+j):=by
 unfold Addr.add
 by_cases hi:i=0
 ·simp[hi]
 by_cases hj:j=0
 ·simp[hj]
 simp[hi,hj];omega
theorem cell_lt {w:World} {a:Addr} {v:Value} (h:w.cell? a=some v):a.block<w.heap.size:=World.block_lt_of_cell? w a h
theorem Sl.nil (w:World) (k:IntKind):Sl w k (.slice none 0 0) []:=
 ⟨none,0,rfl,by simp,by omega,fun _=>rfl,fun i hi=>by simp at hi⟩
theorem Sl.below {w w':World} {k:IntKind} {v:Value} {xs:List Nat} (h:Sl w k v xs) (hb:Below w.heap.size w w'):Sl w' k v xs:=by
 obtain⟨ao,cap,rfl,h1,h2,h3,h4⟩:=h;refine⟨ao,cap,rfl,h1,h2,h3,fun i hi=>?_⟩;obtain⟨a,ha,hc⟩:=h4 i hi;exact⟨a,ha,by rw[hb.cell (cell_lt hc)];exact hc⟩
theorem Sl.take {w:World} {k:IntKind} {ao:Option Addr} {n cap:Nat} {xs:List Nat} (h:Sl w k (.slice ao n cap) xs) (m:Nat) (hm:m<=xs.length):Sl w k (.slice ao m cap) (xs.take m):=by
 obtain⟨ao',cap',e,h1,h2,h3,h4⟩:=h;injection e with e1 e2 e3;subst e1;subst e3;have hl:(xs.take m).length=m:=by simp;omega
 refine⟨ao,cap,by rw[hl],by rw[hl];omega,h2,h3,fun i hi=>?_⟩;rw[hl] at hi;obtain⟨a,ha,hc⟩:=h4 i (by omega);refine⟨a,ha,?_⟩;rw[hc];unfold nth
 simp[List.getD,hi]
def Blk (w:World) (g:Nat) (k:IntKind) (T:TypeId) (l:List Nat):Prop:=
 w.heap[g]?=some (.cells ((l.map fun (n:Nat)=>Value.int k ((n:Nat):Int)).toArray) T (0,0))
theorem Blk.lt {w:World} {g:Nat} {k:IntKind} {T:TypeId} {l:List Nat} (h:Blk w g k T l):g<w.heap.size:=lt_of_block h
theorem Blk.cell {w:World} {g:Nat} {k:IntKind} {T:TypeId} {l:List Nat} (h:Blk w g k T l) {i:Nat} (hi:i<l.length):w.cell? ⟨g,i,none⟩=some (.int k (nth l i)):=by
 rw[cell_of_row w g i _ T (0,0) h]
 simp[hi,nth_eq hi]
theorem Blk.frozen {w:World} {g:Nat} {k:IntKind} {T:TypeId} {l:List Nat} (h:Blk w g k T l) (i:Nat):w.frozen? ⟨g,i,none⟩=false:=frozen_of_row w g i _ T h
theorem Blk.set {w:World} {g:Nat} {k:IntKind} {T:TypeId} {l:List Nat} (h:Blk w g k T l) (i:Nat) (n:Nat) (z:Int) (hz:z=(n:Int)):Blk (w.setCell ⟨g,i,none⟩ (.int k z)) g k T (l.set i n):=by
 subst hz;unfold Blk;rw[heap_setCell_same w g i _ T _ h]
 simp[List.map_set]
theorem Blk.below {w w':World} {B g:Nat} {k:IntKind} {T:TypeId} {l:List Nat} (h:Blk w g k T l) (hg:Below B w w') (hB:g<B):Blk w' g k T l:=by
 unfold Blk at *;rw[hg.block g hB];exact h
theorem addr_at (g off i:Nat):(⟨g,off,none⟩:Addr).add i=⟨g,off+i,none⟩:=by simp[Addr.add]
theorem Blk.sl {w:World} {g:Nat} {k:IntKind} {T:TypeId} {l:List Nat} (h:Blk w g k T l) (off n cap:Nat) (hn:off+n<=l.length) (hc:n<=cap) (hm:cap<=9223372036854775807) :
  Sl w k (.slice (some ⟨g,off,none⟩) n cap) ((l.drop off).take n):=by
 have hl:((l.drop off).take n).length=n:=by simp;omega
 refine⟨some ⟨g,off,none⟩,cap,by rw[hl],by rw[hl];exact hc,hm,(fun e=>by cases e),fun i hi=>⟨_,rfl,?_⟩⟩;rw[hl] at hi;rw[addr_at,h.cell (i:=off+i) (by omega)];unfold nth
 simp[List.getD,hi]
theorem grown_setCell {w0 w:World} {g i:Nat} (h:w0.grownBy w (some g)) (v:Value):w0.grownBy (w.setCell ⟨g,i,none⟩ v) (some g):=
 ⟨h.os,h.tape,h.output,by simpa [World.setCell] using h.size,fun k hk hne=>by
  rw[Below.heap_setCell _ _ _ _ (fun e=>hne (by rw[e]))];exact h.block k hk hne⟩
def Apart (g:Nat) (v:Value):Prop:=∀ a n c,v=.slice (some a) n c->a.block=g->n=0
theorem Sl.grown {w w':World} {k:IntKind} {v:Value} {xs:List Nat} {g:Nat} (h:Sl w k v xs) (hg:w.grownBy w' (some g)) (ha:Apart g v):Sl w' k v xs:=by
 obtain⟨ao,cap,rfl,h1,h2,h3,h4⟩:=h;refine⟨ao,cap,rfl,h1,h2,h3,fun i hi=>?_⟩;obtain⟨a,rfl,hc⟩:=h4 i hi;refine⟨a,rfl,?_⟩;have hb:(a.add i).block=a.block:=by unfold Addr.add;split<;>rfl
 refine hg.cell hc (fun e=>?_);injection e with e;have:=ha a _ _ rfl (by rw[<-e,hb])
 omega
def Ws (w:World) (k:IntKind) (T:TypeId) (v:Value) (g:Nat) (pre s post:List Nat):Prop:=
 ∃ (ao:Option Addr) (cap:Nat),v=.slice ao s.length cap/\s.length<=cap/\cap<=9223372036854775807/\(ao=none->cap=0) /\
  (s.length≠0->ao=some ⟨g,pre.length,none⟩/\Blk w g k T (pre++s++post))
def WsAt (w:World) (k:IntKind) (T:TypeId) (ao:Option Addr) (g:Nat) (pre s post:List Nat) (n:Nat):Prop:=
 n≠0->ao=some ⟨g,pre.length,none⟩/\Blk w g k T (pre++s++post)
theorem u32_wf {xs:List Nat} (h:Dig 4294967296 xs) (i:Nat):0<=nth xs i/\nth xs i<4294967296:=by
 have h1:=h.getD (by omega) i;unfold nth;omega
theorem Sl.at {w:World} {k:IntKind} {b:Addr} {n c:Nat} {xs:List Nat} (h:Sl w k (.slice (some b) n c) xs) {i:Nat} (hi:i<xs.length):w.cell? (b.add i)=some (.int k (nth xs i)):=by
 obtain⟨_,_,e,_,_,_,q⟩:=h;injection e with e1 e2 e3;subst e1;obtain⟨b',e,q⟩:=q i hi;injection e with e;subst e;exact q
theorem Ws.sl {w:World} {k:IntKind} {T:TypeId} {v:Value} {g:Nat} {pre s post:List Nat} (h:Ws w k T v g pre s post):Sl w k v s:=by
 obtain⟨ao,cap,rfl,h1,h2,h3,h4⟩:=h;refine⟨ao,cap,rfl,h1,h2,h3,fun i hi=>?_⟩;obtain⟨rfl,hb⟩:=h4 (by omega);refine⟨_,rfl,?_⟩;rw[addr_at,hb.cell (by simp;omega)];unfold nth
 simp[List.getD,List.getElem?_append_left,List.getElem?_append_right,hi]
theorem nth_mid (pre s post:List Nat) (i:Nat) (h:i<s.length):nth (pre++s++post) (pre.length+i)=nth s i:=by
 unfold nth
 simp[List.getD,List.getElem?_append_left,List.getElem?_append_right,h]
theorem set_mid (pre s post:List Nat) (i n:Nat) (h:i<s.length):(pre++s++post).set (pre.length+i) n=pre++s.set i n++post:=by
 rw[List.append_assoc,List.set_append_right _ _ (by omega),List.set_append_left _ _ (by omega),List.append_assoc]
 simp
theorem heap_of_owns {w:World} {base:Nat} {e:TypeId} {g n cap:Nat} {xs:List Value} (h:w.ownsRow base e 1 (.slice (some ⟨g,0,none⟩) n cap) n xs) (hn:n=cap):w.heap[g]?=some (.cells xs.toArray e (0,0)):=by
 obtain⟨hl,h2⟩:=h;rcases h2 with ⟨e1,_⟩ | ⟨g',cap',cur,e1,_,hg,_,_,hs,ht⟩
 ·cases e1
 injection e1 with e1 e2 e3;injection e1 with e1;injection e1 with e1;subst e1;subst e3;subst hn;rw[hg,<-ht,Nat.mul_one]
 congr 2
 rw[List.take_of_length_le (by simp[hs])]
theorem wpList_make_blk {P:Program} (w:World) {ops:Array Oper} {rest:List Oper} {o:Oper} {a:Act} {Q:Exit->Act->World->Prop}
  (hg:o.guard=none) (l c:Operand) (t:TypeId) (hop:o.op=Op.makeSlice t l c)
  (e:TypeId) (i:TypeInfo) (k:IntKind) (h1:P.underlying t=some (.slice e)) (h2:P.info? e=some i) (h3:i.zero=some (.int k 0)) (h4:i.size=1)
  (kl kc:IntKind) (L C:Int) (n:Nat) (hl:a.eval l=.int kl L) (hc:a.eval c=.int kc C) (hL:L=(n:Int)) (hC:C=(n:Int)) (b2:i.bytes<=8) (b3:n<=35184372088832)
  (hK:∀ w',Blk w' w.heap.size k e (List.replicate n 0)->Below w.heap.size w w'->w.heap.size<w'.heap.size->wpList P ops Q rest (a.put o.dst (.slice (some ⟨w.heap.size,0,none⟩) n n)) w') :
  wpList P ops Q (o::rest) a w:=by
 have hb:i.bytes*n<=281474976710656:=Nat.le_trans (Nat.mul_le_mul b2 b3) (by omega);refine wpList_make_full w hg l c t hop w.heap.size e i (.int k 0) 1 h1 h2 h3 h4 kl kc L C n hl hc hL hC hb (by unfold maxLen;omega) (Nat.le_refl _) ?_;intro w' ho hgr;have hh:=heap_of_owns ho rfl
 have hB:Blk w' w.heap.size k e (List.replicate n 0):=by
  unfold Blk;rw[hh]
  have:(madeCells (Value.cells (.int k 0)) (n*1)).toList=List.replicate n (.int k 0):=by
   rw[Nat.mul_one];exact toList_madeCells_one _ _
  rw[this]
  simp
 exact hK w' hB ⟨hgr.os,hgr.tape,hgr.output,hgr.size,fun j hj=>hgr.block j hj (by simp)⟩ hB.lt
theorem cells_of_sl {w:World} {k:IntKind} {sp:Option Addr} {n c:Nat} {xs:List Nat} (h:Sl w k (.slice sp n c) xs) (m:Nat) (hm:m<=xs.length) (h0:0<m) :
  ∃ ad,sp=some ad/\∀ j v,((xs.take m).map fun (x:Nat)=>Value.int k ((x:Nat):Int))[j]?=some v->w.cell? (ad.add j)=some v:=by
 obtain⟨ao,cap,e,h1,h2,h3,h4⟩:=h;injection e with e1 e2 e3;subst e1;obtain⟨a,rfl,_⟩:=h4 0 (by omega);refine⟨a,rfl,fun j v hj=>?_⟩
 have hjl:j<m:=by
  have:=(List.getElem?_eq_some_iff.1 hj).1
  simp at this;omega
 obtain⟨b,e,q⟩:=h4 j (by omega);injection e with e;subst e;rw[q,<-hj]
 simp[hjl,nth_eq (show j<xs.length by omega),show j<xs.length by omega]
theorem sl_len {w:World} {k:IntKind} {sp:Option Addr} {n c:Nat} {xs:List Nat} (h:Sl w k (.slice sp n c) xs):n=xs.length:=by
 obtain⟨ao,cap,e,_⟩:=h;injection e
theorem ints_one (k:IntKind) (xs:List Nat):∀ u ∈ (xs.map fun (x:Nat)=>Value.int k ((x:Nat):Int)),u.oneCell'=true:=by
 intro u hu;obtain⟨x,_,rfl⟩:=List.mem_map.1 hu
 rfl
theorem wpList_copy_blk {P:Program} {w:World} {ops:Array Oper} {rest:List Oper} {o:Oper} {a:Act} {Q:Exit->Act->World->Prop} (hgd:o.guard=none) (d s:Operand) (dT sT:TypeId)
  (ho:o.op=.call { callee:=.builtin .copy,args:=#[d,s],argTypes:=#[dT,sT] }) (elem:TypeId) (hu:P.underlying dT=some (.slice elem)) (hsz:(P.info? elem).map (·.size)=some 1)
  (g n dCap:Nat) (sp:Option Addr) (sLen sCap:Nat) (hd:a.eval d=.slice (some ⟨g,0,none⟩) n dCap) (hs:a.eval s=.slice sp sLen sCap)
  (k:IntKind) (T:TypeId) (l xs:List Nat) (hB:Blk w g k T l) (hn:n=l.length) (hx:Sl w k (.slice sp sLen sCap) xs) (hle:xs.length<=n)
  (B:Nat) (w0:World) (hb:Below B w0 w) (hBg:B<=g)
  (h:∀ w',Blk w' g k T (xs++l.drop xs.length)->Below B w0 w'->wpList P ops Q rest (a.put o.dst (.int .i64 xs.length)) w') :
  wpList P ops Q (o::rest) a w:=by
 have hsl:=sl_len hx;have hmin:Nat.min sLen n=xs.length:=by rw[hsl];exact Nat.min_eq_left hle
 refine wpList_copy_splice hgd d s dT sT ho elem hu hsz (some ⟨g,0,none⟩) sp n dCap sLen sCap hd hs g 0 (l.map fun (x:Nat)=>Value.int k ((x:Nat):Int)) T hB (xs.map fun (x:Nat)=>Value.int k ((x:Nat):Int)) (by rw[hmin];simp) ?_ (by simp;omega) (ints_one k xs) B w0 hb hBg ?_
 ·intro h0;refine⟨rfl,?_⟩;have:=cells_of_sl hx xs.length (Nat.le_refl _) (by simpa using h0)
  rwa [List.take_length] at this
 intro w' hh hb'
 have:=h w' (by
  unfold Blk;rw[hh.out]
  congr 2
  simp[splice]) hb'
 simpa [goInt] using this
def Ow (w:World) (base:Nat) (k:IntKind) (T:TypeId) (v:Value) (xs:List Nat):Prop:=
 w.ownsRow base T 1 v xs.length (xs.map fun (x:Nat)=>Value.int k ((x:Nat):Int))
theorem Ow.nil (w:World) (base:Nat) (k:IntKind) (T:TypeId):Ow w base k T (.slice none 0 0) []:=World.ownsRow_nil w base T 1
theorem Ow.alloc {w:World} {base:Nat} {k:IntKind} {T:TypeId} {v:Value} {xs:List Nat} (h:Ow w base k T v xs) (o:Obj):Ow (w.alloc o) base k T v xs:=World.ownsRow.alloc h o
theorem Ow.sl {w:World} {base:Nat} {k:IntKind} {T:TypeId} {v:Value} {xs:List Nat} (h:Ow w base k T v xs):Sl w k v xs:=by
 have h':=h;obtain⟨h1,h2⟩:=h;rcases h2 with ⟨rfl,h2⟩ | ⟨g,cap,cur,rfl,hb,hg,hn,hm,hs,ht⟩
 ·have:xs=[]:=List.eq_nil_of_length_eq_zero h2;subst this;exact Sl.nil _ _
 refine⟨some ⟨g,0,none⟩,cap,rfl,hn,by unfold maxLen at hm;omega,(fun e=>by cases e),fun i hi=>⟨_,rfl,?_⟩⟩;rw[addr_at,Nat.zero_add,World.ownsRow.cellAt h' i (by omega)]
 simp[hi,nth_eq hi]
theorem Ow.base_le {w:World} {base:Nat} {k:IntKind} {T:TypeId} {v:Value} {xs:List Nat} (h:Ow w base k T v xs):∀ j,v.ownBlock=some j->base<=j:=fun j hj=>(World.ownsRow.lt h j hj).1
theorem wpList_append_one {P:Program} (w:World) {ops:Array Oper} {rest:List Oper} {o:Oper} {a:Act} {Q:Exit->Act->World->Prop} (hgd:o.guard=none) (s x:Operand) (t:TypeId)
  (ho:o.op=.call { callee:=.builtin .append,args:=#[s,x],argTypes:=#[t,t] })
  (e:TypeId) (i:TypeInfo) (k:IntKind) (ht:P.underlying t=some (.slice e)) (hi:P.info? e=some i) (hz:i.zero=some (.int k 0)) (hsize:i.size=1) (hby:i.bytes<=8)
  (base:Nat) (v:Value) (xs:List Nat) (hs:a.eval s=v) (hown:Ow w base k e v xs)
  (h:Nat) (z:Int) (n:Nat) (hx:a.eval x=.slice (some ⟨h,0,none⟩) 1 1) (hc:w.cell? ⟨h,0,none⟩=some (.int k z)) (hzn:z=(n:Int))
  (hlen:xs.length<=1000000000) (hbase:base<=w.heap.size)
  (hK:∀ v' w',Ow w' base k e v' (xs++[n])->Below base w w'->wpList P ops Q rest (a.put o.dst v') w'):wpList P ops Q (o::rest) a w:=by
 have hb2:(xs.length+1)*i.bytes<=140737488355328:=Nat.le_trans (Nat.mul_le_mul (show xs.length+1<=1000000001 by omega) hby) (by omega);refine wpList_append_own w hgd s x t ho base e i (.int k 0) 1 i.bytes ht hi hz hsize rfl rfl (by decide) v xs.length _ hs hown ⟨h,0,none⟩ 1 1 [.int k z] hx rfl ?_ ?_ (by unfold maxLen;omega) hb2 hbase ?_
 ·intro j u hj
  match j,hj with
  | 0,hj=>simp at hj;subst hj;simpa [Addr.add] using hc
 ·intro u hu;simp at hu;subst hu;rfl
 intro v' w' h1 h2 _;refine hK v' w' ?_ ⟨h2.os,h2.tape,h2.output,h2.size,fun j hj=>h2.block j (by omega) (fun e'=>?_)⟩
 ·unfold Ow;have:(xs++[n]).map (fun (x:Nat)=>Value.int k ((x:Nat):Int))=xs.map (fun (x:Nat)=>Value.int k ((x:Nat):Int))++[.int k z]:=by rw[hzn];simp
  rw[this,lsa];exact h1
 have:=hown.base_le j e'.symm
 omega
def bor32 (x y c:Int):Int:=if x<y+c then 1 else 0
theorem testBit31 (n:Nat) (h:n<4294967296):n / 2147483648=(n.testBit 31).toNat:=by
 rw[Nat.testBit_eq_decide_div_mod_eq];have:n / 2 ^ 31<2:=by omega
 rcases (show n / 2 ^ 31=0\/n / 2 ^ 31=1 by omega) with h | h<;>simp[h]<;>omega
theorem top31 (n:Nat) (h:n<4294967296):n.testBit 31=decide (2147483648<=n):=by
 have:=testBit31 n h
 cases hb:n.testBit 31
 ·rw[hb] at this;simp at this ⊢;omega
 rw[hb] at this;simp at this ⊢;omega
theorem borrow_bits (x y d:Nat) (hx:x<4294967296) (hy:y<4294967296) (hd:d<4294967296) :
  (((4294967295 ^^^ x) &&& y) ||| ((4294967295 ^^^ (x ^^^ y)) &&& d)) / 2147483648 =
   if (x<2147483648/\2147483648<=y)\/((x<2147483648 ↔ y<2147483648)/\2147483648<=d) then 1 else 0:=by
 have l1:(4294967295 ^^^ x)<2 ^ 32:=Nat.xor_lt_two_pow (by omega) (by omega);have l2:(x ^^^ y)<2 ^ 32:=Nat.xor_lt_two_pow (by omega) (by omega);have l3:(4294967295 ^^^ (x ^^^ y))<2 ^ 32:=Nat.xor_lt_two_pow (by omega) l2;have l4:(4294967295 ^^^ x) &&& y<2 ^ 32:=Nat.and_lt_two_pow _ (by omega);have l5:(4294967295 ^^^ (x ^^^ y)) &&& d<2 ^ 32:=Nat.and_lt_two_pow _ (by omega);rw[testBit31 _ (Nat.or_lt_two_pow l4 l5)];simp only[Nat.testBit_or,Nat.testBit_and,Nat.testBit_xor];rw[top31 x hx,top31 y hy,top31 d hd,top31 4294967295 (by omega)]
 by_cases a:x<2147483648<;>by_cases b:y<2147483648<;>by_cases c:2147483648<=d<;>simp[a,b,c,Nat.not_le.2,Nat.not_lt.1]<;>omega
theorem borrow_u32 (x y c:Int) (hx:0<=x/\x<4294967296) (hy:0<=y/\y<4294967296) (hc:0<=c/\c<=1) :
  bits BinOp.or IntKind.u32 (bits BinOp.and IntKind.u32 (bits BinOp.xor IntKind.u32 IntKind.u32.max x) y)
        (bits BinOp.and IntKind.u32 (bits BinOp.xor IntKind.u32 IntKind.u32.max (bits BinOp.xor IntKind.u32 x y)) ((x - y - c) % 4294967296)) / 2147483648=bor32 x y c:=by
 obtain⟨X,rfl⟩:=Int.eq_ofNat_of_zero_le hx.1;obtain⟨Y,rfl⟩:=Int.eq_ofNat_of_zero_le hy.1;obtain⟨D,hD⟩:=Int.eq_ofNat_of_zero_le (show 0<=((X:Int) - Y - c) % 4294967296 by omega);have hX:X<4294967296:=by omega
 have hY:Y<4294967296:=by omega
 have hD':D<4294967296:=by omega
 have em:IntKind.u32.max=((4294967295:Nat):Int):=by decide
 have l1:(4294967295 ^^^ X)<2 ^ 32:=Nat.xor_lt_two_pow (by omega) (by omega);have l2:(X ^^^ Y)<2 ^ 32:=Nat.xor_lt_two_pow (by omega) (by omega);have l3:(4294967295 ^^^ (X ^^^ Y))<2 ^ 32:=Nat.xor_lt_two_pow (by omega) l2;have l4:(4294967295 ^^^ X) &&& Y<2 ^ 32:=Nat.and_lt_two_pow _ (by omega);have l5:(4294967295 ^^^ (X ^^^ Y)) &&& D<2 ^ 32:=Nat.and_lt_two_pow _ (by omega);rw[hD,em,u32_xor_nat _ _ (by omega) hX,u32_xor_nat X Y hX hY,u32_xor_nat _ _ (by omega) (by omega),u32_and_nat _ _ (by omega) hY,u32_and_nat _ _ (by omega) hD',u32_or_nat _ _ (by omega) (by omega)];have hb:=borrow_bits X Y D hX hY hD';have e:((((4294967295 ^^^ X) &&& Y ||| (4294967295 ^^^ (X ^^^ Y)) &&& D:Nat):Int)) / 2147483648=(((((4294967295 ^^^ X) &&& Y) ||| ((4294967295 ^^^ (X ^^^ Y)) &&& D)) / 2147483648:Nat):Int):=by omega
 rw[e,hb];unfold bor32
 by_cases h:(X:Int)<Y+c
 ·rw[if_pos h,if_pos (by omega)];rfl
 rw[if_neg h,if_neg (by omega)];rfl
theorem add32_any (x y c:Int) (w:World) (hx:0<=x/\x<4294967296)  (hy:0<=y/\y<4294967296) (hc:0<=c/\c<=1) :
  Calls Tryz.prog 180 #[.int .u32 x,.int .u32 y,.int .u32 c] w fun e w'=>e=.returned (.tuple #[.int .u32 ((x+y+c) % 4294967296),.int .u32 ((x+y+c) / 4294967296)])/\w=w':=by
 go_enter Tryz.func180,Tryz.ntmps180
 go_wp2
 go_ret2
 exact⟨rfl,rfl⟩
theorem sub32_any (x y c:Int) (w:World) (hx:0<=x/\x<4294967296)  (hy:0<=y/\y<4294967296) (hc:0<=c/\c<=1) :
  Calls Tryz.prog 181 #[.int .u32 x,.int .u32 y,.int .u32 c] w fun e w'=>e=.returned (.tuple #[.int .u32 ((x - y - c) % 4294967296),.int .u32 (bor32 x y c)])/\w=w':=by
 have hb:=Lib.hid (borrow_u32 x y c hx hy hc);go_enter Tryz.func181,Tryz.ntmps181
 go_wp2
 all_goals first
  | (go_ret2;exact⟨by rw[<-hb.out];rfl,rfl⟩)
  | (exfalso;rename_i h;exact h rfl)
theorem sig_any (ao:Option Addr) (n cap:Nat) (xs:List Nat) (w:World) (h:Sl w .u32 (.slice ao n cap) xs) :
  Calls Tryz.prog 144 #[.slice ao n cap] w fun e w'=>e=.returned (.slice ao (nz xs) cap)/\w=w':=by
 have H:=Lib.hid h;obtain⟨ao',cap',e,h1,h2,h3,h4⟩:=h;injection e with e1 e2 e3;subst e1;subst e2;subst e3;go_enter Tryz.func144,Tryz.ntmps144
 go_wp2
 go_loop [3] (fun n=>∃ k:Nat,k<=xs.length/\n=.int .i64 k/\Hid (nz (xs.take k)=nz xs)) (fun n=>(intOf n).toNat)
 case atStart=>exact⟨xs.length,Nat.le_refl _,rfl,Lib.hid (by rw[List.take_length])⟩
 case round =>
  obtain⟨k,hk,rfl,Hn⟩:=hrel
  by_cases h0:0<k
  ·obtain⟨a,rfl,g⟩:=h4 (k-1) (by omega);clear h4
   go_wp2
   ·have hz:(nth xs (k - 1)==0)=true:=by assumption
    go_round
    case rel=>exact⟨k - 1,by omega,by go_num,Lib.hid (by rw[<-Hn.out,<-nz_zero (k:=k - 1) (by omega) (by have:=nth_eq (xs:=xs) (i:=k - 1) (by omega);simp at hz;unfold nth at hz;omega),show k - 1+1=k by omega])⟩
    case measure=>simp[intOf];omega
   have hz:(nth xs (k - 1)==0)=false:=by assumption
   have hk':k=nz xs:=by
    rw[<-Hn.out,show k=(k - 1)+1 by omega,nz_pos (by omega) (by simp at hz;unfold nth at hz;omega)]
   subst hk';go_ret
   exact⟨rfl,rfl⟩
  have hk':k=nz xs:=by
   rw[<-Hn.out,show k=0 by omega];rfl
  have HK:=Lib.hid hk';clear hk';have hk0:k=0:=by omega
  subst hk0
  go_wp2
  go_ret
  exact⟨by rw[<-HK.out];rfl,rfl⟩
def trimmedOf (ao:Option Addr) (cap:Nat) (xs:List Nat):Value:=if nz xs=0 then .slice none 0 0 else .slice ao (nz xs) cap
theorem trimmed_any (ao:Option Addr) (n cap:Nat) (xs:List Nat) (w:World) (h:Sl w .u32 (.slice ao n cap) xs) :
  Calls Tryz.prog 138 #[.slice ao n cap] w fun e w'=>e=.returned (trimmedOf ao cap xs)/\w=w':=by
 by_cases h0:nz xs=0
 ·have H0:=Lib.hid h0;clear h0;have hz:(((nz xs:Nat):Int)==0)=true:=by rw[H0.out];rfl
  go_enter Tryz.func138,Tryz.ntmps138
  go_wp2_with (go_at_call 144;refine (sig_any _ _ _ _ _ h).mono ?_;rintro e w' ⟨rfl,rfl⟩)
  go_ret
  exact⟨by unfold trimmedOf;rw[if_pos H0.out];rfl,rfl⟩
 have hz:(((nz xs:Nat):Int)==0)=false:=by simp;omega
 go_enter Tryz.func138,Tryz.ntmps138
 go_wp2_with (go_at_call 144;refine (sig_any _ _ _ _ _ h).mono ?_;rintro e w' ⟨rfl,rfl⟩)
 go_ret
 exact⟨by unfold trimmedOf;rw[if_neg h0];rfl,rfl⟩
theorem info51:(Tryz.prog.info? 153).map (fun i=>(i.zero,i.size,i.bytes))=some (some (.int .u32 0),1,4):=by kernel_rfl
theorem size51:(Tryz.prog.info? 153).map (·.size)=some 1:=by kernel_rfl
theorem padded_any (ao:Option Addr) (m cap:Nat) (xs:List Nat) (n:Nat) (z:Int) (w:World) (h:Sl w .u32 (.slice ao m cap) xs) (hn:xs.length<=n) (hb:n<=1073741824) (hzn:z=(n:Int)) :
  Calls Tryz.prog 146 #[.slice ao m cap,.int .i64 z] w fun e w'=>∃ v,e=.returned v/\Ws w' .u32 153 v w.heap.size [] (xs++List.replicate (n - xs.length) 0) []/\Below w.heap.size w w'/\(n≠0->w.heap.size<w'.heap.size):=by
 subst hzn
 by_cases h0:n=0
 ·subst h0;have hx:xs=[]:=List.eq_nil_of_length_eq_zero (by omega);subst hx;go_enter Tryz.func146,Tryz.ntmps146
  go_wp2
  go_ret
  exact⟨_,rfl,⟨none,0,rfl,by simp,by omega,fun _=>rfl,fun e=>by simp at e⟩,Below.refl _ _,fun e=>absurd rfl e⟩
 obtain⟨i0,hi,hz0,hz1,hz2⟩:=info_parts info51;have hz:(((n:Nat):Int)==0)=false:=by simp;omega
 go_enter Tryz.func146,Tryz.ntmps146
 go_wp2_with (at_make;refine wpList_make_blk _ rfl _ _ 24 rfl 153 i0 .u32 Tryz.underlying24 hi hz0 hz1 _ _ _ _ n rfl rfl rfl rfl ?b2 ?b3 ?_)
 case b2=>omega
 case b3=>omega
 intro w1 hB1 hb1 hs1;go_wp2_with (with_reducible refine wpList_copy_blk rfl (.tmp 10) (.tmp 11) 24 24 rfl 153 Tryz.underlying24 size51 w.heap.size n n ao m cap rfl rfl .u32 153 _ xs hB1 ?c1 (h.below hb1) hn w.heap.size w hb1 (Nat.le_refl _) ?_)
 case c1=>simp
 intro w2 hB2 hb2
 go_wp2
 go_ret
 refine⟨_,rfl,?_,hb2,fun _=>hB2.lt⟩;refine⟨some ⟨w.heap.size,0,none⟩,n,?_,?_,by omega,(fun e=>by cases e),fun _=>⟨rfl,?_⟩⟩
 ·simp;omega
 ·simp;omega
 simpa using hB2
theorem step_add {B:Nat} (t ys:List Nat) (S k cc:Nat) (hy:k<ys.length) (ht:k<t.length) (h:val B t+cc*B ^ k=S+val B (ys.take k)) :
  val B (t.set k ((t.getD k 0+ys.getD k 0+cc) % B))+((t.getD k 0+ys.getD k 0+cc) / B)*B ^ (k+1)=S+val B (ys.take (k+1)):=by
 have h1:=val_set B t k ((t.getD k 0+ys.getD k 0+cc) % B) ht;rw[val_take_succ B ys k hy];have h2:=Nat.mod_add_div (t.getD k 0+ys.getD k 0+cc) B;generalize (t.getD k 0+ys.getD k 0+cc) % B=r at *;generalize (t.getD k 0+ys.getD k 0+cc) / B=q at *;rw[Nat.pow_succ]
 grind
theorem step_carry {B:Nat} (t:List Nat) (S k cc:Nat) (ht:k<t.length) (h:val B t+cc*B ^ k=S) :
  val B (t.set k ((t.getD k 0+cc) % B))+((t.getD k 0+cc) / B)*B ^ (k+1)=S:=by
 have h1:=val_set B t k ((t.getD k 0+cc) % B) ht;have h2:=Nat.mod_add_div (t.getD k 0+cc) B;generalize (t.getD k 0+cc) % B=r at *;generalize (t.getD k 0+cc) / B=q at *;rw[Nat.pow_succ]
 grind
theorem end_carry {B:Nat} {t:List Nat} {S n cc:Nat} (hd:Dig B t) (hn:t.length=n) (h:val B t+cc*B ^ n=S):val B t=S % B ^ n:=by
 have h1:=val_lt hd;rw[hn] at h1;rw[<-h,Nat.add_mul_mod_self_right,Nat.mod_eq_of_lt h1]
theorem addTo_any (g:Nat) (pre s post ys:List Nat) (vs vb:Value) (w:World) (hw:Ws w .u32 153 vs g pre s post) (hb:Sl w .u32 vb ys) (ha:Apart g vb) (hl:ys.length<=s.length)
  (hs:Dig 4294967296 s) (hy:Dig 4294967296 ys) :
  Calls Tryz.prog 147 #[vs,vb] w fun e w'=>∃ s',e=.returned (.tuple #[])/\Ws w' .u32 153 vs g pre s' post/\w.grownBy w' (some g)/\s'.length=s.length/\Dig 4294967296 s' /\
   val 4294967296 s'=(val 4294967296 s+val 4294967296 ys) % 4294967296 ^ s.length:=by
 obtain⟨ao,cap,rfl,h1,h2,h3,h4⟩:=hw;have HB:=Lib.hid hb;obtain⟨bo,bcap,rfl,k1,k2,k3,k4⟩:=hb;go_enter Tryz.func147,Tryz.ntmps147
 go_wp2
 go_loopw [4,10] (fun c i wr=>∃ (k:Nat) (t:List Nat) (cc:Nat),i=.int .i64 k/\c=.int .u32 (cc:Int)/\cc<=1/\k<=ys.length/\w.grownBy wr (some g)/\Hid (t.length=s.length)/\Dig 4294967296 t /\
   WsAt wr .u32 153 ao g pre t post s.length /\
   Hid (val 4294967296 t+cc*4294967296 ^ k=val 4294967296 s+val 4294967296 (ys.take k)))
  (fun _ i _=>ys.length - (intOf i).toNat)
 case atStart=>exact⟨0,s,0,rfl,rfl,by omega,by omega,World.grownBy.refl _ _,Lib.hid rfl,hs,h4,Lib.hid (by simp[val])⟩
 case round =>
  obtain⟨k,t,cc,rfl,rfl,hcc,hk,hg,Ht,hdt,hB,HV⟩:=hrel
  by_cases hlt:k<ys.length
  ·obtain⟨b,rfl,hcb⟩:=k4 k hlt;obtain⟨rfl,hB'⟩:=hB (by omega);have hkt:k<t.length:=by have:=Ht.out;omega
   have hcb':=(HB.out.grown hg ha).at hlt
   have hct:wr.cell? ⟨g,pre.length+k,none⟩=some (.int .u32 (nth t k)):=by
    rw[hB'.cell (by simp;omega),nth_mid _ _ _ _ hkt]
   have hft:=hB'.frozen (pre.length+k);have y1:=u32_wf hy k;have t1:=u32_wf hdt k;clear hcb hB h4 k4;go_wp2_with (go_at_call 180;refine (add32_any _ _ _ _ (by omega) (by omega) (by omega)).mono ?_;rintro e w' ⟨rfl,rfl⟩)
   go_roundw
   case rel =>
    refine⟨k+1,t.set k ((t.getD k 0+ys.getD k 0+cc) % 4294967296),(t.getD k 0+ys.getD k 0+cc) / 4294967296,by go_num,?_,?_,by omega,grown_setCell hg _,Lib.hid (by rw[List.length_set];exact Ht.out),hdt.set (by omega),fun _=>⟨rfl,?_⟩,Lib.hid (step_add t ys _ k cc hlt hkt HV.out)⟩
    ·congr 1
    ·unfold nth at y1 t1;omega
    rw[<-set_mid _ _ _ _ _ hkt];exact hB'.set _ _ _ (by unfold nth;omega)
   case measure=>simp[intOf];omega
  have hkk:k=ys.length:=by omega
  subst hkk
  go_wp2
  clear hk hlt
  go_loopw [4,7] (fun c i w2=>∃ (j:Nat) (t:List Nat) (cc:Nat),i=.int .i64 j/\c=.int .u32 (cc:Int)/\cc<=1/\j<=s.length/\w.grownBy w2 (some g)/\Hid (t.length=s.length)/\Dig 4294967296 t /\
    WsAt w2 .u32 153 ao g pre t post s.length /\
    Hid (val 4294967296 t+cc*4294967296 ^ j=val 4294967296 s+val 4294967296 ys))
   (fun _ i _=>s.length - (intOf i).toNat)
  case atStart=>exact⟨ys.length,t,cc,rfl,rfl,hcc,hl,hg,Ht,hdt,hB,Lib.hid (by rw[HV.out,List.take_length])⟩
  case round =>
   clear hB HV hdt Ht hg hcc k4;obtain⟨k,t,cc,rfl,rfl,hcc,hk,hg,Ht,hdt,hB,HV⟩:=hrel
   by_cases hlt:0<cc/\k<s.length
   ·obtain⟨hc0,hlt⟩:=hlt;obtain⟨rfl,hB'⟩:=hB (by omega);have hkt:k<t.length:=by have:=Ht.out;omega
    have hct:wr.cell? ⟨g,pre.length+k,none⟩=some (.int .u32 (nth t k)):=by
     rw[hB'.cell (by simp;omega),nth_mid _ _ _ _ hkt]
    have hft:=hB'.frozen (pre.length+k);have t1:=u32_wf hdt k;clear hB h4;go_wp2_with (go_at_call 180;refine (add32_any _ _ _ _ (by omega) (by omega) (by omega)).mono ?_;rintro e w' ⟨rfl,rfl⟩)
    go_roundw
    case rel =>
     refine⟨k+1,t.set k ((t.getD k 0+cc) % 4294967296),(t.getD k 0+cc) / 4294967296,by go_num,?_,?_,by omega,grown_setCell hg _,Lib.hid (by rw[List.length_set];exact Ht.out),hdt.set (by omega),fun _=>⟨rfl,?_⟩,Lib.hid (step_carry t _ k cc hkt HV.out)⟩
     ·congr 1
     ·unfold nth at t1;omega
     rw[<-set_mid _ _ _ _ _ hkt];exact hB'.set _ _ _ (by unfold nth;omega)
    case measure=>simp[intOf];omega
   have hend:val 4294967296 t=(val 4294967296 s+val 4294967296 ys) % 4294967296 ^ s.length:=by
    by_cases h0:cc=0
    ·have hv:=HV.out;subst h0;rw[Nat.zero_mul,Nat.add_zero] at hv;rw[<-hv,Nat.mod_eq_of_lt (by rw[<-Ht.out];exact val_lt hdt)]
    have:k=s.length:=by omega
    subst this;exact end_carry hdt Ht.out HV.out
   have Hend:=Lib.hid hend;clear hend;have hfin:Ws wr .u32 153 (.slice ao s.length cap) g pre t post:=⟨ao,cap,by rw[Ht.out],by rw[Ht.out];exact h1,h2,h3,by rw[Ht.out];exact hB⟩
   clear h4
   by_cases hc0:0<cc
   ·go_wp2
    go_end0
    exact⟨t,rfl,hfin,hg,Ht.out,hdt,Hend.out⟩
   go_wp2
   go_end0
   exact⟨t,rfl,hfin,hg,Ht.out,hdt,Hend.out⟩
abbrev L32:Nat:=4294967296
theorem step_sub {B:Nat} (t ys:List Nat) (S k cc v b:Nat) (hy:k<ys.length) (ht:k<t.length) (h:val B t+val B (ys.take k)=S+cc*B ^ k) (hv:v+ys.getD k 0+cc=t.getD k 0+b*B) :
  val B (t.set k v)+val B (ys.take (k+1))=S+b*B ^ (k+1):=by
 have h1:=val_set B t k v ht;rw[val_take_succ B ys k hy,Nat.pow_succ];generalize B ^ k=P at *;have h3:v*P+ys.getD k 0*P+cc*P=t.getD k 0*P+b*B*P:=by rw[<-Nat.add_mul,<-Nat.add_mul,hv,Nat.add_mul]
 grind
theorem step_borrow {B:Nat} (t:List Nat) (S Y k cc v b:Nat) (ht:k<t.length) (h:val B t+Y=S+cc*B ^ k) (hv:v+cc=t.getD k 0+b*B) :
  val B (t.set k v)+Y=S+b*B ^ (k+1):=by
 have h1:=val_set B t k v ht;rw[Nat.pow_succ];generalize B ^ k=P at *;have h3:v*P+cc*P=t.getD k 0*P+b*B*P:=by rw[<-Nat.add_mul,hv,Nat.add_mul]
 grind
theorem bor32_nat (x y c:Nat) (hx:x<4294967296) (hy:y<4294967296) (hc:c<=1) :
  ∃ b:Nat,bor32 x y c=(b:Int)/\b<=1/\∃ v:Nat,((x:Int) - y - c) % 4294967296=(v:Int)/\v<4294967296/\v+y+c=x+b*4294967296:=by
 unfold bor32
 by_cases h:(x:Int)<y+c
 ·rw[if_pos h];exact⟨1,rfl,by omega,(((x:Int) - y - c) % 4294967296).toNat,by omega,by omega,by omega⟩
 rw[if_neg h];exact⟨0,rfl,by omega,(((x:Int) - y - c) % 4294967296).toNat,by omega,by omega,by omega⟩
theorem subFrom_any (g:Nat) (pre s post ys:List Nat) (vs vb:Value) (w:World) (hw:Ws w .u32 153 vs g pre s post) (hb:Sl w .u32 vb ys) (ha:Apart g vb) (hl:ys.length<=s.length)
  (hs:Dig 4294967296 s) (hy:Dig 4294967296 ys) (hle:val 4294967296 ys<=val 4294967296 s) :
  Calls Tryz.prog 148 #[vs,vb] w fun e w'=>∃ s',e=.returned (.tuple #[])/\Ws w' .u32 153 vs g pre s' post/\w.grownBy w' (some g)/\s'.length=s.length/\Dig 4294967296 s' /\
   val 4294967296 s'=val 4294967296 s - val 4294967296 ys:=by
 have HLE:=Lib.hid hle;clear hle;obtain⟨ao,cap,rfl,h1,h2,h3,h4⟩:=hw;have HB:=Lib.hid hb;obtain⟨bo,bcap,rfl,k1,k2,k3,k4⟩:=hb;go_enter Tryz.func148,Tryz.ntmps148
 go_wp2
 go_loopw [4,10] (fun c i wr=>∃ (k:Nat) (t:List Nat) (cc:Nat),i=.int .i64 k/\c=.int .u32 (cc:Int)/\cc<=1/\k<=ys.length/\w.grownBy wr (some g)/\Hid (t.length=s.length)/\Dig 4294967296 t /\
   WsAt wr .u32 153 ao g pre t post s.length /\
   Hid (val 4294967296 t+val 4294967296 (ys.take k)=val 4294967296 s+cc*4294967296 ^ k))
  (fun _ i _=>ys.length - (intOf i).toNat)
 case atStart=>exact⟨0,s,0,rfl,rfl,by omega,by omega,World.grownBy.refl _ _,Lib.hid rfl,hs,h4,Lib.hid (by simp[val])⟩
 case round =>
  obtain⟨k,t,cc,rfl,rfl,hcc,hk,hg,Ht,hdt,hB,HV⟩:=hrel
  by_cases hlt:k<ys.length
  ·obtain⟨b,rfl,hcb⟩:=k4 k hlt;obtain⟨rfl,hB'⟩:=hB (by omega);have hkt:k<t.length:=by have:=Ht.out;omega
   have hcb':=(HB.out.grown hg ha).at hlt
   have hct:wr.cell? ⟨g,pre.length+k,none⟩=some (.int .u32 (nth t k)):=by
    rw[hB'.cell (by simp;omega),nth_mid _ _ _ _ hkt]
   have hft:=hB'.frozen (pre.length+k);have y1:=u32_wf hy k;have t1:=u32_wf hdt k;clear hcb hB h4 k4;go_wp2_with (go_at_call 181;refine (sub32_any _ _ _ _ (by omega) (by omega) (by omega)).mono ?_;rintro e w' ⟨rfl,rfl⟩)
   go_roundw
   case rel =>
    obtain⟨b',e1,e2,v',e3,e4,e5⟩:=bor32_nat (t.getD k 0) (ys.getD k 0) cc (by unfold nth at t1;omega) (by unfold nth at y1;omega) hcc;refine⟨k+1,t.set k v',b',by go_num,?_,e2,by omega,grown_setCell hg _,Lib.hid (by rw[List.length_set];exact Ht.out),hdt.set e4,fun _=>⟨rfl,?_⟩,Lib.hid (step_sub t ys _ k cc v' b' hlt hkt HV.out e5)⟩
    ·rw[<-e1];rfl
    rw[<-set_mid _ _ _ _ _ hkt];exact hB'.set _ _ _ e3
   case measure=>simp[intOf];omega
  have hkk:k=ys.length:=by omega
  subst hkk
  go_wp2
  clear hk hlt
  go_loopw [4,7] (fun c i w2=>∃ (j:Nat) (t:List Nat) (cc:Nat),i=.int .i64 j/\c=.int .u32 (cc:Int)/\cc<=1/\j<=s.length/\w.grownBy w2 (some g)/\Hid (t.length=s.length)/\Dig 4294967296 t /\
    WsAt w2 .u32 153 ao g pre t post s.length /\
    Hid (val 4294967296 t+val 4294967296 ys=val 4294967296 s+cc*4294967296 ^ j))
   (fun _ i _=>s.length - (intOf i).toNat)
  case atStart=>exact⟨ys.length,t,cc,rfl,rfl,hcc,hl,hg,Ht,hdt,hB,Lib.hid (by rw[<-HV.out,List.take_length])⟩
  case round =>
   clear hB HV hdt Ht hg hcc k4;obtain⟨k,t,cc,rfl,rfl,hcc,hk,hg,Ht,hdt,hB,HV⟩:=hrel
   by_cases hc0:0<cc
   ·have hlt:k<s.length:=by
     rcases Nat.lt_or_ge k s.length with h | h
     ·exact h
     exfalso
     have hk':k=s.length:=by omega
     have hv:=HV.out;have hv2:=val_lt hdt;have hle:=HLE.out;rw[Ht.out] at hv2;rw[hk',show cc=1 by omega] at hv
     omega
    obtain⟨rfl,hB'⟩:=hB (by omega);have hkt:k<t.length:=by have:=Ht.out;omega
    have hct:wr.cell? ⟨g,pre.length+k,none⟩=some (.int .u32 (nth t k)):=by
     rw[hB'.cell (by simp;omega),nth_mid _ _ _ _ hkt]
    have hft:=hB'.frozen (pre.length+k);have t1:=u32_wf hdt k;clear hB h4;go_wp2_with (go_at_call 181;refine (sub32_any _ _ _ _ (by omega) (by omega) (by omega)).mono ?_;rintro e w' ⟨rfl,rfl⟩)
    go_roundw
    case rel =>
     obtain⟨b',e1,e2,v',e3,e4,e5⟩:=bor32_nat (t.getD k 0) 0 cc (by unfold nth at t1;omega) (by omega) hcc;refine⟨k+1,t.set k v',b',by go_num,?_,e2,by omega,grown_setCell hg _,Lib.hid (by rw[List.length_set];exact Ht.out),hdt.set e4,fun _=>⟨rfl,?_⟩,Lib.hid (step_borrow t _ _ k cc v' b' hkt HV.out (by omega))⟩
     ·rw[<-e1];rfl
     rw[<-set_mid _ _ _ _ _ hkt];exact hB'.set _ _ _ (by rw[<-e3];unfold nth;omega)
    case measure=>simp[intOf];omega
   have hend:val 4294967296 t=val 4294967296 s - val 4294967296 ys:=by
    have hv:=HV.out;rw[show cc=0 by omega,Nat.zero_mul,Nat.add_zero] at hv
    omega
   have Hend:=Lib.hid hend;clear hend;have hfin:Ws wr .u32 153 (.slice ao s.length cap) g pre t post:=⟨ao,cap,by rw[Ht.out],by rw[Ht.out];exact h1,h2,h3,by rw[Ht.out];exact hB⟩
   clear h4
   go_wp2
   go_end0
   exact⟨t,rfl,hfin,hg,Ht.out,hdt,Hend.out⟩
def cmpN (a b:Nat):Int:=if a<b then -1 else if a=b then 0 else 1
theorem cmp_len {xs ys:List Nat} (hx:Dig L32 xs) (hy:Dig L32 ys) (h:nz xs<nz ys):val L32 xs<val L32 ys:=by
 have h1:=length_dig_val (B:=L32) (by decide) hx;have h2:=length_dig_val (B:=L32) (by decide) hy;exact Nat.lt_of_lt_of_le (lt_pow_of_length (B:=L32) (k:=nz xs) (by decide) (by omega)) (le_of_length (by decide) (by omega))
theorem val_split (B:Nat) (xs:List Nat) (k:Nat) (h:k<=xs.length):val B xs=val B (xs.take k)+B ^ k*val B (xs.drop k):=by
 have:=val_append B (xs.take k) (xs.drop k);rw[List.take_append_drop] at this;rw[this,List.length_take,Nat.min_eq_left h]
theorem cmp_top {B:Nat} {xs ys:List Nat} {k:Nat} (hx:Dig B xs) (hk:k<xs.length) (hk':k<ys.length) (he:xs.drop (k+1)=ys.drop (k+1)) (h:xs.getD k 0<ys.getD k 0):val B xs<val B ys:=by
 rw[val_split B xs (k+1) (by omega),val_split B ys (k+1) (by omega),he,val_take_succ B xs k hk,val_take_succ B ys k hk'];have h1:=val_lt (hx.take k);rw[List.length_take,Nat.min_eq_left (by omega)] at h1;have h2:(xs.getD k 0+1)*B ^ k<=ys.getD k 0*B ^ k:=Nat.mul_le_mul_right _ h;rw[Nat.add_mul,Nat.one_mul] at h2
 omega
theorem drop_step {xs ys:List Nat} {k:Nat} (hk:k<xs.length) (hk':k<ys.length) (he:xs.drop (k+1)=ys.drop (k+1)) (h:xs.getD k 0=ys.getD k 0):xs.drop k=ys.drop k:=by
 rw[List.drop_eq_getElem_cons hk,List.drop_eq_getElem_cons hk',he]
 congr 1
 simpa [List.getD,hk,hk'] using h
theorem cmpN_lt {a b:Nat} (h:a<b):cmpN a b = -1:=by unfold cmpN;rw[if_pos h]
theorem cmpN_gt {a b:Nat} (h:b<a):cmpN a b=1:=by unfold cmpN;rw[if_neg (by omega),if_neg (by omega)]
theorem cmpN_eq {a b:Nat} (h:a=b):cmpN a b=0:=by unfold cmpN;rw[if_neg (by omega),if_pos h]
theorem below_drewN' (w:World) (n:Nat) (B:Nat):Below B w (w.drewN n):=⟨rfl,rfl,rfl,Nat.le_refl _,fun _ _=>rfl⟩
theorem calm_behind {P:Program} {f:FuncId} {args:Array Value} {w:World} {a b:Nat} {v:Value} (h:∀ W:World,Calls P f args W fun e w'=>e=.returned v/\w'=W) :
  Calls P f args (w.drewN (a+b)) fun e w'=>e=.returned v/\∃ m,w'=w.drewN (a+m):=
 (h (w.drewN (a+b))).mono fun _ _ hh=>⟨hh.1,b,hh.2⟩
theorem order_t (w:World):Calls Tryz.prog 145 #[.bool true] w fun e w'=>e=.returned (.int .i64 (-1))/\w'=w:=by
 go_enter Tryz.func145,Tryz.ntmps145
 go_wp2
 go_ret
 exact⟨rfl,rfl⟩
theorem order_f (w:World):Calls Tryz.prog 145 #[.bool false] w fun e w'=>e=.returned (.int .i64 1)/\w'=w:=by
 go_enter Tryz.func145,Tryz.ntmps145
 go_wp2
 go_ret
 exact⟨rfl,rfl⟩
theorem cmp_any (va vb:Value) (xs ys:List Nat) (w:World) (hx:Sl w .u32 va xs) (hy:Sl w .u32 vb ys) (dx:Dig L32 xs) (dy:Dig L32 ys) :
  Calls Tryz.prog 96 #[va,vb] w fun e w'=>e=.returned (.int .i64 (cmpN (val L32 xs) (val L32 ys)))/\Below w.heap.size w w':=by
 have HX:=Lib.hid hx;have HY:=Lib.hid hy;obtain⟨ao,ac,rfl,a1,a2,a3,a4⟩:=hx;obtain⟨bo,bc,rfl,b1,b2,b3,b4⟩:=hy;have nx:=nz_le xs;have ny:=nz_le ys
 by_cases hne:nz xs=nz ys
 ·have hne':(((nz xs:Nat):Int) != ((nz ys:Nat):Int))=false:=by simp[hne]
  have HN:=Lib.hid hne;clear hne;have hny:nz xs<=nz ys/\nz ys<=nz xs:=by have:=HN.out;omega
  go_enter Tryz.func96,Tryz.ntmps96
  go_wp2_with fail
  refine (sig_any _ _ _ xs _ HX.out).mono ?_;rintro e w' ⟨rfl,rfl⟩;go_wp2_with fail
  refine (sig_any _ _ _ ys _ HY.out).mono ?_;rintro e w' ⟨rfl,rfl⟩;go_wp2_with fail
  go_loopw [5] (fun i wr=>∃ k:Nat,k<=nz xs/\i=.int .i64 ((k:Int) - 1)/\Hid ((xs.take (nz xs)).drop k=(ys.take (nz ys)).drop k)/\Below w.heap.size w wr) (fun i _=>(intOf i+1).toNat)
  case atStart=>exact⟨nz xs,Nat.le_refl _,rfl,Lib.hid (by rw[HN.out,List.drop_eq_nil_of_le (by simp;omega),List.drop_eq_nil_of_le (by simp;omega)]),Below.refl _ _⟩
  case round =>
   obtain⟨k,hk,rfl,HD,hb⟩:=hrel
   by_cases h0:0<k
   ·obtain⟨a,rfl,hca⟩:=a4 (k - 1) (by omega);obtain⟨b,rfl,hcb⟩:=b4 (k - 1) (by omega);have hca':wr.cell? (a.add (k - 1))=some (.int .u32 (nth xs (k - 1))):=by rw[hb.cell (cell_lt hca)];exact hca
    have hcb':wr.cell? (b.add (k - 1))=some (.int .u32 (nth ys (k - 1))):=by rw[hb.cell (cell_lt hcb)];exact hcb
    have gx:(xs.take (nz xs)).getD (k - 1) 0=xs.getD (k - 1) 0:=by simp[List.getD,show k - 1<nz xs by omega]
    have gy:(ys.take (nz ys)).getD (k - 1) 0=ys.getD (k - 1) 0:=by simp[List.getD,show k - 1<nz ys by omega]
    have lx:(xs.take (nz xs)).length=nz xs:=by simp;omega
    have ly:(ys.take (nz ys)).length=nz ys:=by simp;omega
    have HD':Hid ((xs.take (nz xs)).drop (k - 1+1)=(ys.take (nz ys)).drop (k - 1+1)):=Lib.hid (by rw[show k - 1+1=k by omega];exact HD.out);have GX:=Lib.hid gx;have GY:=Lib.hid gy;have LX:=Lib.hid lx;have LY:=Lib.hid ly;clear gx gy lx ly hca hcb a4 b4
    by_cases he:xs.getD (k - 1) 0=ys.getD (k - 1) 0
    ·have he':(nth xs (k - 1) != nth ys (k - 1))=false:=by simp only[nth,he];exact bne_self_eq_false _
     have HE:=Lib.hid he;clear he;go_wp2_with fail
     go_quiet (fail)
     go_wp2_with fail
     go_roundw
     case rel=>exact⟨k - 1,by omega,by go_num,Lib.hid (drop_step (by have:=LX.out;omega) (by have:=LY.out;omega) HD'.out (by rw[GX.out,GY.out,HE.out])),hb.trans (below_drewN' _ _ _)⟩
     case measure=>simp[intOf];omega
    have he':(nth xs (k - 1) != nth ys (k - 1))=true:=by simp only[nth,bne_iff_ne];omega
    rcases Nat.lt_or_gt_of_ne he with hlt | hgt
    ·have hd:nth xs (k - 1)<nth ys (k - 1):=by unfold nth;omega
     have hfin:cmpN (val L32 xs) (val L32 ys) = -1:=by
      have:=cmp_top (B:=L32) (dx.take (nz xs)) (ys:=ys.take (nz ys)) (k:=k - 1) (by have:=LX.out;omega) (by have:=LY.out;omega) HD'.out (by rw[GX.out,GY.out];exact hlt);rw[val_take_nz (by decide) dx,val_take_nz (by decide) dy] at this;exact cmpN_lt this
     have HF:=Lib.hid hfin;clear he hlt hfin;go_wp2_with fail
     go_quiet (fail)
     go_wp2_with fail
     go_quiet ((go_at_call 145;exact calm_behind order_t))
     go_wp2_with fail
     go_ret
     exact⟨by rw[HF.out];rfl,(hb.trans (below_drewN' _ _ _)).trans (below_drewN' _ _ _)⟩
    have hd:nth ys (k - 1)<nth xs (k - 1):=by unfold nth;omega
    have hd':decide (nth xs (k - 1)<nth ys (k - 1))=false:=by simp;omega
    have hfin:cmpN (val L32 xs) (val L32 ys)=1:=by
     have:=cmp_top (B:=L32) (dy.take (nz ys)) (ys:=xs.take (nz xs)) (k:=k - 1) (by have:=LY.out;omega) (by have:=LX.out;omega) HD'.out.symm (by rw[GX.out,GY.out];exact hgt);rw[val_take_nz (by decide) dx,val_take_nz (by decide) dy] at this;exact cmpN_gt this
    have HF:=Lib.hid hfin;clear he hgt hfin;go_wp2_with fail
    go_quiet (fail)
    go_wp2_with fail
    go_quiet ((go_at_call 145;exact (calm_behind order_f)))
    go_wp2_with fail
    go_ret
    exact⟨by rw[HF.out];rfl,(hb.trans (below_drewN' _ _ _)).trans (below_drewN' _ _ _)⟩
   have hfin:cmpN (val L32 xs) (val L32 ys)=0:=by
    have hd:=HD.out;rw[show k=0 by omega,List.drop_zero,List.drop_zero] at hd;exact cmpN_eq (by rw[<-val_take_nz (by decide) dx,hd,val_take_nz (by decide) dy])
   have HF:=Lib.hid hfin;clear hfin;go_wp2_with fail
   go_ret
   exact⟨by rw[HF.out];rfl,hb⟩
 have hne':(((nz xs:Nat):Int) != ((nz ys:Nat):Int))=true:=by rw[bne_iff_ne];omega
 rcases Nat.lt_or_gt_of_ne hne with hlt | hgt
 ·have HF:=Lib.hid (cmpN_lt (cmp_len dx dy hlt));clear hne;go_enter Tryz.func96,Tryz.ntmps96
  go_wp2_with fail
  refine (sig_any _ _ _ xs _ HX.out).mono ?_;rintro e w' ⟨rfl,rfl⟩;go_wp2_with fail
  refine (sig_any _ _ _ ys _ HY.out).mono ?_;rintro e w' ⟨rfl,rfl⟩;go_wp2_with fail
  refine (order_t _).mono ?_;rintro e w' ⟨rfl,rfl⟩;go_wp2_with fail
  go_ret
  exact⟨by rw[HF.out];rfl,Below.refl _ _⟩
 have HF:=Lib.hid (cmpN_gt (cmp_len dy dx hgt));have hd:decide (nz xs<nz ys)=false:=by simp;omega
 clear hne;go_enter Tryz.func96,Tryz.ntmps96
 go_wp2_with fail
 refine (sig_any _ _ _ xs _ HX.out).mono ?_;rintro e w' ⟨rfl,rfl⟩;go_wp2_with fail
 refine (sig_any _ _ _ ys _ HY.out).mono ?_;rintro e w' ⟨rfl,rfl⟩;go_wp2_with fail
 refine (order_f _).mono ?_;rintro e w' ⟨rfl,rfl⟩;go_wp2_with fail
 go_ret
 exact⟨by rw[HF.out];rfl,Below.refl _ _⟩
theorem sl_apart {w:World} {k:IntKind} {v:Value} {xs:List Nat} (h:Sl w k v xs) {g:Nat} (hg:w.heap.size<=g):Apart g v:=by
 obtain⟨ao,cap,rfl,h1,h2,h3,h4⟩:=h;intro a n c e hb;injection e with e1 e2 e3;subst e2;rcases Nat.eq_zero_or_pos xs.length with h0 | h0
 ·exact h0
 obtain⟨a',e,hc⟩:=h4 0 h0;have:=cell_lt hc;rw[e1] at e;injection e with e;subst e;have hb':(a.add 0).block=a.block:=by unfold Addr.add;split<;>rfl
 omega
theorem trimmed_sl {w:World} {ao:Option Addr} {n cap:Nat} {xs:List Nat} (h:Sl w .u32 (.slice ao n cap) xs) (hd:Dig L32 xs):Sl w .u32 (trimmedOf ao cap xs) (dig L32 (val L32 xs)):=by
 rw[<-take_nz (by decide) hd];unfold trimmedOf
 by_cases h0:nz xs=0
 ·rw[if_pos h0,h0];exact Sl.nil _ _
 rw[if_neg h0];exact h.take _ (nz_le xs)
theorem Ws.at {w:World} {k:IntKind} {T:TypeId} {v:Value} {g:Nat} {pre s post:List Nat} (h:Ws w k T v g pre s post):∃ ao cap,v=.slice ao s.length cap:=by
 obtain⟨ao,cap,e,_⟩:=h;exact⟨ao,cap,e⟩
theorem trimmed_v (v:Value) (xs:List Nat) (w:World) (h:Sl w .u32 v xs) (hd:Dig L32 xs) :
  Calls Tryz.prog 138 #[v] w fun e w'=>∃ v',e=.returned v'/\Sl w .u32 v' (dig L32 (val L32 xs))/\w=w':=by
 obtain⟨ao,cap,rfl⟩:∃ ao cap,v=.slice ao xs.length cap:=by obtain⟨ao,cap,e,_⟩:=h;exact⟨ao,cap,e⟩
 exact (trimmed_any _ _ _ xs _ h).mono fun e w' ⟨he,hw⟩=>⟨_,he,trimmed_sl h hd,hw⟩
theorem below_of_grown' {B:Nat} {a b:World} {g:Nat} (h:a.grownBy b (some g)) (hg:B<=g) (hB:B<=a.heap.size:=by omega):Below B a b:=
 ⟨h.os,h.tape,h.output,h.size,fun k hk=>h.block k (by omega) (fun e=>by injection e with e;omega)⟩
theorem append_zeros_val (B:Nat) (xs:List Nat) (n:Nat):val B (xs++List.replicate n 0)=val B xs:=by
 rw[val_append,val_replicate_zero];simp
theorem add_any (va vb:Value) (xs ys:List Nat) (w:World) (hx:Sl w .u32 va xs) (hy:Sl w .u32 vb ys) (dx:Dig L32 xs) (dy:Dig L32 ys) (lx:xs.length<=1000000) (ly:ys.length<=1000000) :
  Calls Tryz.prog 97 #[va,vb] w fun e w'=>∃ v,e=.returned v/\Sl w' .u32 v (dig L32 (val L32 xs+val L32 ys))/\Below w.heap.size w w':=by
 obtain⟨ao,ac,rfl⟩:∃ ao cap,va=.slice ao xs.length cap:=by obtain⟨ao,cap,e,_⟩:=hx;exact⟨ao,cap,e⟩
 obtain⟨bo,bc,rfl⟩:∃ ao cap,vb=.slice ao ys.length cap:=by obtain⟨ao,cap,e,_⟩:=hy;exact⟨ao,cap,e⟩
 have nx:=nz_le xs;have ny:=nz_le ys;have hx':=hx.take (nz xs) nx;have hy':=hy.take (nz ys) ny;have dx':=dx.take (nz xs);have dy':=dy.take (nz ys);have ex:(xs.take (nz xs)).length=nz xs:=by simp;omega
 have ey:(ys.take (nz ys)).length=nz ys:=by simp;omega
 have EX:=Lib.hid ex;have EY:=Lib.hid ey;clear ex ey
 -- what stands behind the two cuts, for the longer one first
 have fin:∀ (s s' zs:List Nat),Dig L32 s->Dig L32 zs->zs.length<=s.length->s'.length=s.length+1->Dig L32 s'->val L32 s'=(val L32 (s++List.replicate 1 0)+val L32 zs) % L32 ^ (s.length+1)->val L32 s+val L32 zs=val L32 xs+val L32 ys ->
   dig L32 (val L32 s')=dig L32 (val L32 xs+val L32 ys):=by
  intro s s' zs h1 h2 h3 h4 h5 h6 h7;rw[h6,append_zeros_val,h7];rw[Nat.mod_eq_of_lt];rw[<-h7];have a1:=val_lt h1;have a2:=val_lt h2;have a3:L32 ^ zs.length<=L32 ^ s.length:=Nat.pow_le_pow_right (by decide) h3;rw[Nat.pow_succ];have:L32 ^ s.length*2<=L32 ^ s.length*L32:=Nat.mul_le_mul_left _ (by decide)
  omega
 have vx:=val_take_nz (B:=L32) (by decide) dx;have vy:=val_take_nz (B:=L32) (by decide) dy;have VX:=Lib.hid vx;have VY:=Lib.hid vy;clear vx vy;have FIN:=Lib.hid fin;clear fin
 by_cases hlt:nz xs<nz ys
 ·go_enter Tryz.func97,Tryz.ntmps97
  go_wp2_with fail
  refine (sig_any _ _ _ xs _ hx).mono ?_;rintro e w' ⟨rfl,rfl⟩;go_wp2_with fail
  refine (sig_any _ _ _ ys _ hy).mono ?_;rintro e w' ⟨rfl,rfl⟩;go_wp2_with fail
  refine (padded_any bo _ bc _ (nz ys+1) _ w hy' (by rw[EY.out];omega) (by omega) (by omega)).mono ?_;rintro e w1 ⟨v1,rfl,hs1,hb1,hz1⟩;have hsz:=hz1 (by omega);go_wp2_with fail
  refine (addTo_any w.heap.size [] _ [] _ _ _ w1 hs1 (hx'.below hb1) (sl_apart hx' (Nat.le_refl _)) ?_ (dy'.append (Dig.replicate (by decide) _)) dx').mono ?_
  ·rw[EX.out,lsa,EY.out];simp;omega
  rintro e w2 ⟨s',rfl,hs2,hg2,hl2,hd2,hv2⟩;have hb2:Below w.heap.size w w2:=hb1.trans (below_of_grown' hg2 (Nat.le_refl _));have HL2:=Lib.hid hl2;have HV2:=Lib.hid hv2;clear hl2 hv2;have hss:=hs2.sl;go_wp2_with fail
  refine (trimmed_v _ s' _ hss hd2).mono ?_;rintro e w3 ⟨v3,rfl,ht,rfl⟩;go_wp2_with fail
  go_ret
  refine⟨_,rfl,?_,hb2⟩;have hl:=HL2.out;have hv:=HV2.out;rw[lsa,EY.out] at hl hv;rw[show nz ys+1 - nz ys=1 by omega] at hl hv;simp only[List.length_replicate] at hl hv;rw[FIN.out (ys.take (nz ys)) s' (xs.take (nz xs)) dy' dx' (by rw[EX.out,EY.out];omega) (by rw[EY.out];exact hl) hd2 (by rw[EY.out];exact hv) (by have h1:=VX.out;have h2:=VY.out;omega)] at ht;exact ht
 go_enter Tryz.func97,Tryz.ntmps97
 go_wp2_with fail
 refine (sig_any _ _ _ xs _ hx).mono ?_;rintro e w' ⟨rfl,rfl⟩;go_wp2_with fail
 refine (sig_any _ _ _ ys _ hy).mono ?_;rintro e w' ⟨rfl,rfl⟩;go_wp2_with fail
 refine (padded_any ao _ ac _ (nz xs+1) _ w hx' (by rw[EX.out];omega) (by omega) (by omega)).mono ?_;rintro e w1 ⟨v1,rfl,hs1,hb1,hz1⟩;have hsz:=hz1 (by omega);go_wp2_with fail
 refine (addTo_any w.heap.size [] _ [] _ _ _ w1 hs1 (hy'.below hb1) (sl_apart hy' (Nat.le_refl _)) ?_ (dx'.append (Dig.replicate (by decide) _)) dy').mono ?_
 ·rw[EY.out,lsa,EX.out];simp;omega
 rintro e w2 ⟨s',rfl,hs2,hg2,hl2,hd2,hv2⟩;have hb2:Below w.heap.size w w2:=hb1.trans (below_of_grown' hg2 (Nat.le_refl _));have HL2:=Lib.hid hl2;have HV2:=Lib.hid hv2;clear hl2 hv2;have hss:=hs2.sl;go_wp2_with fail
 refine (trimmed_v _ s' _ hss hd2).mono ?_;rintro e w3 ⟨v3,rfl,ht,rfl⟩;go_wp2_with fail
 go_ret
 refine⟨_,rfl,?_,hb2⟩;have hl:=HL2.out;have hv:=HV2.out;rw[lsa,EX.out] at hl hv;rw[show nz xs+1 - nz xs=1 by omega] at hl hv;simp only[List.length_replicate] at hl hv;rw[FIN.out (xs.take (nz xs)) s' (ys.take (nz ys)) dx' dy' (by rw[EX.out,EY.out];omega) (by rw[EX.out];exact hl) hd2 (by rw[EX.out];exact hv) (by have h1:=VX.out;have h2:=VY.out;omega)] at ht;exact ht
theorem sl_shape {w:World} {k:IntKind} {v:Value} {xs:List Nat} (h:Sl w k v xs):∃ ao cap,v=.slice ao xs.length cap:=by
 obtain⟨ao,cap,e,_⟩:=h;exact⟨ao,cap,e⟩
theorem sub_lt (va vb:Value) (xs ys:List Nat) (w:World) (hx:Sl w .u32 va xs) (hy:Sl w .u32 vb ys) (dx:Dig L32 xs) (dy:Dig L32 ys) (hlt:val L32 xs<val L32 ys) :
  Calls Tryz.prog 98 #[va,vb] w fun e w'=>e=.returned (.tuple #[.slice none 0 0,.bool false])/\Below w.heap.size w w':=by
 obtain⟨ao,ac,rfl⟩:=sl_shape hx;obtain⟨bo,bc,rfl⟩:=sl_shape hy;have hx':=hx.take (nz xs) (nz_le xs);have hy':=hy.take (nz ys) (nz_le ys);have HC:=Lib.hid (show cmpN (val L32 (xs.take (nz xs))) (val L32 (ys.take (nz ys))) = -1 by rw[val_take_nz (by decide) dx,val_take_nz (by decide) dy];exact cmpN_lt hlt);go_enter Tryz.func98,Tryz.ntmps98
 go_wp2_with fail
 refine (sig_any _ _ _ xs _ hx).mono ?_;rintro e w' ⟨rfl,rfl⟩;go_wp2_with fail
 refine (sig_any _ _ _ ys _ hy).mono ?_;rintro e w' ⟨rfl,rfl⟩;go_wp2_with fail
 refine (cmp_any _ _ _ _ _ hx' hy' (dx.take _) (dy.take _)).mono ?_;rintro e w' ⟨rfl,hb⟩;rw[HC.out];go_wp2_with fail
 go_ret2
 exact⟨rfl,hb⟩
theorem sub_ge (va vb:Value) (xs ys:List Nat) (w:World) (hx:Sl w .u32 va xs) (hy:Sl w .u32 vb ys) (dx:Dig L32 xs) (dy:Dig L32 ys) (lx:xs.length<=1000000) (hge:val L32 ys<=val L32 xs) :
  Calls Tryz.prog 98 #[va,vb] w fun e w'=>∃ v,e=.returned (.tuple #[v,.bool true])/\Sl w' .u32 v (dig L32 (val L32 xs - val L32 ys))/\Below w.heap.size w w':=by
 obtain⟨ao,ac,rfl⟩:=sl_shape hx;obtain⟨bo,bc,rfl⟩:=sl_shape hy;have nx:=nz_le xs;have hx':=hx.take (nz xs) nx;have hy':=hy.take (nz ys) (nz_le ys);have dx':=dx.take (nz xs);have dy':=dy.take (nz ys);have EX:=Lib.hid (show (xs.take (nz xs)).length=nz xs by simp;omega);have VX:=Lib.hid (val_take_nz (B:=L32) (by decide) dx);have VY:=Lib.hid (val_take_nz (B:=L32) (by decide) dy)
 have hc:0<=cmpN (val L32 (xs.take (nz xs))) (val L32 (ys.take (nz ys))):=by
  rw[VX.out,VY.out];unfold cmpN;rw[if_neg (by omega)];split<;>omega
 have hlen:(ys.take (nz ys)).length<=nz xs:=by
  rw[<-length_dig_val (B:=L32) (by decide) dx,<-dig_val_take (by decide) dy]
  exact length_dig_le (by decide) (by
   have h1:=val_lt (Dig_dig (B:=L32) (by decide) (val L32 xs));rw[val_dig (by decide)] at h1
   omega)
 go_enter Tryz.func98,Tryz.ntmps98
 go_wp2_with fail
 refine (sig_any _ _ _ xs _ hx).mono ?_;rintro e w' ⟨rfl,rfl⟩;go_wp2_with fail
 refine (sig_any _ _ _ ys _ hy).mono ?_;rintro e w' ⟨rfl,rfl⟩;go_wp2_with fail
 refine (cmp_any _ _ _ _ _ hx' hy' dx' dy').mono ?_;rintro e w0 ⟨rfl,hb0⟩;go_wp2_with fail
 refine (padded_any ao _ ac _ (nz xs) _ w0 (hx'.below hb0) (by rw[EX.out];omega) (by omega) (by omega)).mono ?_;rintro e w1 ⟨v1,rfl,hs1,hb1,hz1⟩;have hb1':Below w.heap.size w w1:=hb0.trans (hb1.mono hb0.size);go_wp2_with fail
 have HV:=Lib.hid (show val L32 (xs.take (nz xs)++List.replicate (nz xs - (xs.take (nz xs)).length) 0)=val L32 xs by rw[append_zeros_val,VX.out]);refine (subFrom_any w0.heap.size [] _ [] _ _ _ w1 hs1 (hy'.below hb1') (sl_apart (hy'.below hb0) (Nat.le_refl _)) (by rw[lsa,List.length_replicate,EX.out];omega) (dx'.append (Dig.replicate (by decide) _)) dy' (by rw[HV.out,VY.out];exact hge)).mono ?_;rintro e w2 ⟨s',rfl,hs2,hg2,hl2,hd2,hv2⟩;have hb2:Below w.heap.size w w2:=hb1'.trans (below_of_grown' hg2 hb0.size hb1'.size);have HV2:=Lib.hid (show val L32 s'=val L32 xs - val L32 ys by rw[hv2,HV.out,VY.out]);clear hl2 hv2;go_wp2_with fail
 refine (trimmed_v _ s' _ hs2.sl hd2).mono ?_;rintro e w3 ⟨v3,rfl,ht,rfl⟩;go_wp2_with fail
 go_ret2
 refine⟨_,rfl,?_,hb2⟩;rw[HV2.out] at ht;exact ht
theorem trim_any (va:Value) (xs:List Nat) (w:World) (hx:Sl w .u32 va xs) (dx:Dig L32 xs) (lx:xs.length<=1000000) :
  Calls Tryz.prog 110 #[va] w fun e w'=>∃ v,e=.returned v/\Ws w' .u32 153 v w.heap.size [] (dig L32 (val L32 xs)) []/\Below w.heap.size w w':=by
 obtain⟨ao,ac,rfl⟩:=sl_shape hx;have nx:=nz_le xs;have hx':=hx.take (nz xs) nx;have EX:=Lib.hid (show (xs.take (nz xs)).length=nz xs by simp;omega);go_enter Tryz.func110,Tryz.ntmps110
 go_wp2_with fail
 refine (sig_any _ _ _ xs _ hx).mono ?_;rintro e w' ⟨rfl,rfl⟩;go_wp2_with fail
 refine (padded_any ao _ ac _ (nz xs) _ w hx' (by rw[EX.out];omega) (by omega) (by omega)).mono ?_;rintro e w1 ⟨v1,rfl,hs1,hb1,hz1⟩;go_wp2_with fail
 go_ret
 refine⟨_,rfl,?_,hb1⟩;rw[EX.out,Nat.sub_self,List.replicate_zero,List.append_nil,take_nz (by decide) dx] at hs1;exact hs1
theorem of_any (n:Nat) (z:Int) (w:World) (hz:z=(n:Int)) (hn:n<18446744073709551616) :
  Calls Tryz.prog 91 #[.int .u64 z] w fun e w'=>∃ v,e=.returned v/\Sl w' .u32 v (dig L32 n)/\Below w.heap.size w w':=by
 have h0:0<=z/\z<18446744073709551616:=by omega
 have hB:Blk (w.alloc (.cells #[.int .u32 (z % 4294967296),.int .u32 (z / 4294967296)] 153)) w.heap.size .u32 153 [n % L32,n / L32]:=by
  unfold Blk;rw[heap_alloc_new,hz]
  rfl
 have hS:=hB.sl 0 2 2 (by simp) (by omega) (by omega)
 have hD:Dig L32 [n % L32,n / L32]:=by
  intro x hx;rcases List.mem_cons.1 hx with rfl | hx
  ·exact Nat.mod_lt _ (by decide)
  obtain rfl:=List.mem_singleton.1 hx;exact Nat.div_lt_of_lt_mul (by omega)
 have hV:val L32 [n % L32,n / L32]=n:=by
  have h:=Nat.mod_add_div n L32;simp only[val,Nat.mul_zero,Nat.add_zero];exact h
 have HV:=Lib.hid hV;clear hV hz;go_enter Tryz.func91,Tryz.ntmps91
 go_wp2_with fail
 refine (trimmed_v _ [n % L32,n / L32] _ hS hD).mono ?_;rintro e w3 ⟨v3,rfl,ht,rfl⟩;go_wp2_with fail
 go_ret
 refine⟨_,rfl,?_,(Below.refl _ _).alloc (Nat.le_refl _) _⟩;rw[HV.out] at ht;exact ht
def lenOfV:Value->Nat | .slice _ n _=>n | _=>0
theorem getD_out {xs:List Nat} {i:Nat} (h:xs.length<=i):xs.getD i 0=0:=by simp[List.getD,h]
theorem val_take_succ' (B:Nat) (xs:List Nat) (k:Nat):val B (xs.take (k+1))=val B (xs.take k)+xs.getD k 0*B ^ k:=by
 by_cases h:k<xs.length
 ·exact val_take_succ B xs k h
 rw[getD_out (by omega),List.take_of_length_le (by omega),List.take_of_length_le (by omega)];simp
theorem dig_last {B n:Nat} (hB:2<=B) (h:0<(dig B n).length):(dig B n).getD ((dig B n).length - 1) 0≠0:=by
 intro h0;have h1:=take_nz hB (Dig_dig hB n);rw[val_dig hB] at h1;have h2:=congrArg List.length h1;rw[List.length_take] at h2;have h3:=nz_zero (xs:=dig B n) (k:=(dig B n).length - 1) (by omega) h0;rw[show (dig B n).length - 1+1=(dig B n).length by omega,List.take_length] at h3;have h4:=nz_le ((dig B n).take ((dig B n).length - 1));rw[List.length_take] at h4
 omega
end Go.Proofs.YtoncclhbdkjhmaaGreatDoor
namespace Go.Proofs
open Go.Shelf
def Tryz.lays169_ren:Go.Shelf.Ren:=⟨fun | 169=>68 | n=>n,fun | 70=>107 | 9=>9 | 0=>0 | 72=>109 | 37=>99 | 127=>159 | 3=>3 | 5=>5 | n=>n,fun | n=>n⟩
theorem Tryz.lays169:Go.Proofs.Lays.n169 Tryz.prog Tryz.lays169_ren:={
 mixed:=by kernel_rfl
 f169:=Tryz.func68.trans (congrArg some (by kernel_rfl))
 t0:=Tryz.underlying0
 a0:=Tryz.isAgg0
 z0:=Tryz.sizeOf0
 v0:=Tryz.zeroValue0
 t3:=Tryz.underlying3
 a3:=Tryz.isAgg3
 z3:=Tryz.sizeOf3
 v3:=Tryz.zeroValue3
 t9:=Tryz.underlying9
 a9:=Tryz.isAgg9
 z9:=Tryz.sizeOf9
 v9:=Tryz.zeroValue9
 t37:=Tryz.underlying99
 a37:=Tryz.isAgg99
 z37:=Tryz.sizeOf99
 v37:=Tryz.zeroValue99
 t70:=Tryz.underlying107
 a70:=Tryz.isAgg107
 z70:=Tryz.sizeOf107
 v70:=Tryz.zeroValue107
 t72:=Tryz.underlying109
 a72:=Tryz.isAgg109
 z72:=Tryz.sizeOf109
 v72:=Tryz.zeroValue109
 t127:=Tryz.underlying159
 a127:=Tryz.isAgg159
 z127:=Tryz.sizeOf159
 v127:=Tryz.zeroValue159 }
theorem Tryz.Builder_Extra_169:Builder.Extra Tryz.prog Tryz.lays169_ren:={
 sizeBuilder:=by kernel_rfl
 liesBuilder:=by kernel_rfl
 t5:=Tryz.underlying5
 a5:=Tryz.isAgg5
 z5:=Tryz.sizeOf5
 v5:=Tryz.zeroValue5
 infoByte:=by kernel_rfl
 cellsByte:=by kernel_rfl
 sizeByte:=by kernel_rfl
 neB5:=by decide }
open Go.RowKit in
theorem Tryz.Builder_String_any (B b:Nat) (l:List UInt8) (w:World) (h:Lib.IsBuilder 109 5 B b (Lib.byteCells l) w) (hBw:B<=w.heap.size) :
  Calls Tryz.prog 68 #[.pointer (some ⟨b,0,none⟩)] w fun e w'=>e=.returned (.string ⟨l.toArray⟩)/\Below B w w':=Any.Builder_String_any Tryz.lays169 Tryz.Builder_Extra_169 B b l w h hBw
def Tryz.lays128_ren:Go.Shelf.Ren:=⟨fun | 128=>154 | n=>n,fun | 51=>153 | 3=>3 | 4=>4 | 46=>183 | 5=>5 | 9=>9 | n=>n,fun | n=>n⟩
theorem Tryz.lays128:Go.Proofs.Lays.n128 Tryz.prog Tryz.lays128_ren:={
 mixed:=by kernel_rfl
 f128:=Tryz.func154.trans (congrArg some (by kernel_rfl))
 t3:=Tryz.underlying3
 a3:=Tryz.isAgg3
 z3:=Tryz.sizeOf3
 v3:=Tryz.zeroValue3
 t4:=Tryz.underlying4
 a4:=Tryz.isAgg4
 z4:=Tryz.sizeOf4
 v4:=Tryz.zeroValue4
 t5:=Tryz.underlying5
 a5:=Tryz.isAgg5
 z5:=Tryz.sizeOf5
 v5:=Tryz.zeroValue5
 t9:=Tryz.underlying9
 a9:=Tryz.isAgg9
 z9:=Tryz.sizeOf9
 v9:=Tryz.zeroValue9
 t46:=Tryz.underlying183
 a46:=Tryz.isAgg183
 z46:=Tryz.sizeOf183
 v46:=Tryz.zeroValue183
 t51:=Tryz.underlying153
 a51:=Tryz.isAgg153
 z51:=Tryz.sizeOf153
 v51:=Tryz.zeroValue153 }
theorem Tryz.bits_Len32 (x:Int) (w:World) (h0:0<=x) (h1:x<=4294967295) :
  Calls Tryz.prog 154 #[.int .u32 x] w fun e w'=>e=.returned (.int .i64 (Lib.bitLen x.toNat))/\w'=w:=Any.bits_Len32 Tryz.lays128 x w h0 h1
def Tryz.lays283_ren:Go.Shelf.Ren:=⟨fun | 283=>198 | n=>n,fun | 3=>3 | 9=>9 | 4=>4 | n=>n,fun | n=>n⟩
theorem Tryz.lays283:Go.Proofs.Lays.n283 Tryz.prog Tryz.lays283_ren:={
 mixed:=by kernel_rfl
 f283:=Tryz.func198.trans (congrArg some (by kernel_rfl))
 t3:=Tryz.underlying3
 a3:=Tryz.isAgg3
 z3:=Tryz.sizeOf3
 v3:=Tryz.zeroValue3
 t4:=Tryz.underlying4
 a4:=Tryz.isAgg4
 z4:=Tryz.sizeOf4
 v4:=Tryz.zeroValue4
 t9:=Tryz.underlying9
 a9:=Tryz.isAgg9
 z9:=Tryz.sizeOf9
 v9:=Tryz.zeroValue9 }
open Go.Lib in
theorem Tryz.internal_strconv_small (i:Nat) (h:i<100) (w:World) :
  Calls Tryz.prog 198 #[.int .i64 i] w fun e w'=>e=.returned (.string ⟨(Lib.decDigits i).toArray⟩)/\w'=w:=Any.internal_strconv_small Tryz.lays283 i h w
def Tryz.laysM284_ren:Go.Shelf.Ren:=⟨fun | 284=>199 | 129=>217 | 317=>218 | 318=>219 | n=>n,fun | 53=>130 | 3=>3 | 212=>256 | 0=>0 | 4=>4 | 46=>183 | 5=>5 | 9=>9 | n=>n,fun | 17=>3 | n=>n⟩
theorem Tryz.laysM284:Go.Proofs.LaysM.n284 Tryz.prog Tryz.laysM284_ren:={
 mixed:=by kernel_rfl
 f129:=Tryz.func217.trans (congrArg some (by kernel_rfl))
 f284:=Tryz.func199.trans (congrArg some (by kernel_rfl))
 f317:=Tryz.func218.trans (congrArg some (by kernel_rfl))
 f318:=Tryz.func219.trans (congrArg some (by kernel_rfl))
 t0:=Tryz.underlying0
 a0:=Tryz.isAgg0
 z0:=Tryz.sizeOf0
 v0:=Tryz.zeroValue0
 t3:=Tryz.underlying3
 a3:=Tryz.isAgg3
 z3:=Tryz.sizeOf3
 v3:=Tryz.zeroValue3
 t4:=Tryz.underlying4
 a4:=Tryz.isAgg4
 z4:=Tryz.sizeOf4
 v4:=Tryz.zeroValue4
 t5:=Tryz.underlying5
 a5:=Tryz.isAgg5
 z5:=Tryz.sizeOf5
 v5:=Tryz.zeroValue5
 t9:=Tryz.underlying9
 a9:=Tryz.isAgg9
 z9:=Tryz.sizeOf9
 v9:=Tryz.zeroValue9
 t46:=Tryz.underlying183
 a46:=Tryz.isAgg183
 z46:=Tryz.sizeOf183
 v46:=Tryz.zeroValue183
 t53:=Tryz.underlying130
 a53:=Tryz.isAgg130
 z53:=Tryz.sizeOf130
 v53:=Tryz.zeroValue130
 t212:=Tryz.underlying256
 a212:=Tryz.isAgg256
 z212:=Tryz.sizeOf256
 v212:=Tryz.zeroValue256
 g17:=by kernel_rfl
 i0:=by kernel_rfl
 i3:=by kernel_rfl
 i4:=by kernel_rfl
 i5:=by kernel_rfl
 i9:=by kernel_rfl
 i46:=by kernel_rfl
 i53:=by kernel_rfl
 i212:=by kernel_rfl
 m17:=by kernel_rfl }
open Go.Lib in
theorem Tryz.internal_strconv_numDigits (u : Nat) (h1 : 1 ≤ u) (h2 : u < 18446744073709551616) (w : World) (htab : Lib.TabIs Tryz.prog w "internal/strconv.uint64pow10" .u64 Lib.pow10Tab) :
  Calls Tryz.prog 199 #[.int .u64 u] w fun e w'=>e=.returned (.int .i64 (Lib.nDigits u))/\w'=w:=Any.internal_strconv_numDigits Tryz.laysM284 u h1 h2 w htab
def Tryz.lays285_ren:Go.Shelf.Ren:=⟨fun | 285=>200 | n=>n,fun | 37=>99 | 53=>130 | 3=>3 | 4=>4 | 51=>153 | 9=>9 | 5=>5 | 0=>0 | n=>n,fun | n=>n⟩
theorem Tryz.lays285:Go.Proofs.Lays.n285 Tryz.prog Tryz.lays285_ren:={
 mixed:=by kernel_rfl
 f285:=Tryz.func200.trans (congrArg some (by kernel_rfl))
 t0:=Tryz.underlying0
 a0:=Tryz.isAgg0
 z0:=Tryz.sizeOf0
 v0:=Tryz.zeroValue0
 t3:=Tryz.underlying3
 a3:=Tryz.isAgg3
 z3:=Tryz.sizeOf3
 v3:=Tryz.zeroValue3
 t4:=Tryz.underlying4
 a4:=Tryz.isAgg4
 z4:=Tryz.sizeOf4
 v4:=Tryz.zeroValue4
 t5:=Tryz.underlying5
 a5:=Tryz.isAgg5
 z5:=Tryz.sizeOf5
 v5:=Tryz.zeroValue5
 t9:=Tryz.underlying9
 a9:=Tryz.isAgg9
 z9:=Tryz.sizeOf9
 v9:=Tryz.zeroValue9
 t37:=Tryz.underlying99
 a37:=Tryz.isAgg99
 z37:=Tryz.sizeOf99
 v37:=Tryz.zeroValue99
 t51:=Tryz.underlying153
 a51:=Tryz.isAgg153
 z51:=Tryz.sizeOf153
 v51:=Tryz.zeroValue153
 t53:=Tryz.underlying130
 a53:=Tryz.isAgg130
 z53:=Tryz.sizeOf130
 v53:=Tryz.zeroValue130 }
open Go.RowKit Go.Sort Go.Lib in
theorem Tryz.internal_strconv_formatBase10 (blk off cap:Nat) (u:Nat) (d:Array UInt8) (w:World) (hH:Holds (fun (b:UInt8)=>Value.int .u8 (b.toNat:Int)) w blk off d) (hu:u<10 ^ d.size) (hu64:u<18446744073709551616) (hsz:d.size<4611686018427387904) :
  Calls Tryz.prog 200 #[.slice (some ⟨blk,off,none⟩) d.size cap,.int .u64 u] w fun e w' =>
   e=.returned (.tuple #[])/\∃ (n v':Nat) (dk:Array UInt8),w'=(putRow (fun (b:UInt8)=>Value.int .u8 (b.toNat:Int)) w blk off dk).drewN n/\FmtInv d.size u 0 v' dk:=Any.internal_strconv_formatBase10 Tryz.lays285 blk off cap u d w hH hu hu64 hsz
end Go.Proofs
namespace Go.Proofs.YtoncclhbdkjhmaaGreatDoor
open Go.RowKit
set_option maxRecDepth 100000
def joinN (r x:Nat):Nat:=r*4294967296+x
def joinI (r x:Nat):Int:=((joinN r x:Nat):Int)
theorem or_join {r x:Nat} (hr:r<4294967296) (hx:x<4294967296):bits BinOp.or IntKind.u64 ((r:Int)*4294967296) (x:Int)=joinI r x:=by
 have h1:(r:Int)*4294967296=((r*4294967296:Nat):Int):=by simp
 rw[h1,u64_or_nat _ _ (by omega) (by omega),nat_join 32 _ _ (by omega) (by omega)];rfl
theorem joinI_bound {r x:Nat} (hr:r<4294967296) (hx:x<4294967296):0<=joinI r x/\joinI r x<18446744073709551616:=by unfold joinI joinN;omega
theorem join_div {r x d:Nat} (hr:r<d) (hx:x<4294967296):joinN r x / d<4294967296:=by
 apply Nat.div_lt_of_lt_mul
 unfold joinN;have:(r+1)*4294967296<=d*4294967296:=Nat.mul_le_mul_right _ hr
 omega
theorem divLimb_step {t s:List Nat} {k r d:Nat} (hk:k<t.length) (hl:t.length=s.length) (ht:t.take (k+1)=s.take (k+1)) (hv:val L32 (t.drop (k+1))*d+r=val L32 (s.drop (k+1))) :
  (t.set k (joinN r (t.getD k 0) / d)).take k=s.take k/\val L32 ((t.set k (joinN r (t.getD k 0) / d)).drop k)*d+joinN r (t.getD k 0) % d=val L32 (s.drop k):=by
 have hks:k<s.length:=by omega
 have e1:t.getD k 0=s.getD k 0:=by
  have:=congrArg (fun l=>l.getD k 0) ht
  simpa [List.getD] using this
 refine⟨?_,?_⟩
 ·rw[List.take_set_of_le (Nat.le_refl k)];have:=congrArg (List.take k) ht;rw[List.take_take,List.take_take,Nat.min_eq_left (by omega)] at this;exact this
 rw[List.drop_eq_getElem_cons (by simpa using hk),List.drop_set_of_lt (by omega),List.drop_eq_getElem_cons hks];simp only[val,List.getElem_set_self];rw[<-hv];have e2:s[k]=s.getD k 0:=by simp[List.getD,hks]
 rw[e2,<-e1];have h:=Nat.div_add_mod (joinN r (t.getD k 0)) d;have hj:joinN r (t.getD k 0)=r*L32+t.getD k 0:=rfl;generalize joinN r (t.getD k 0) / d=q at *;generalize joinN r (t.getD k 0) % d=m at *;rw[hj] at h
 grind
theorem divLimb_any (g:Nat) (pre s post:List Nat) (vs:Value) (d:Nat) (z:Int) (w:World) (hw:Ws w .u32 153 vs g pre s post) (hs:Dig L32 s) (hz:z=(d:Int)) (hd0:0<d) (hd1:d<4294967296) :
  Calls Tryz.prog 156 #[vs,.int .u32 z] w fun e w'=>∃ s',e=.returned (.int .u32 ((val L32 s % d:Nat):Int))/\Ws w' .u32 153 vs g pre s' post/\w.grownBy w' (some g)/\s'.length=s.length/\Dig L32 s' /\
   val L32 s'=val L32 s / d:=by
 subst hz;obtain⟨ao,cap,rfl,h1,h2,h3,h4⟩:=hw;go_enter Tryz.func156,Tryz.ntmps156
 go_wp2
 go_loopw [5,6] (fun c i wr=>∃ (k:Nat) (t:List Nat) (r:Nat),i=.int .i64 ((k:Int) - 1)/\c=.int .u64 (r:Int)/\r<d/\k<=s.length/\w.grownBy wr (some g)/\Hid (t.length=s.length)/\Dig 4294967296 t /\
   WsAt wr .u32 153 ao g pre t post s.length/\Hid (t.take k=s.take k)/\Hid (val L32 (t.drop k)*d+r=val L32 (s.drop k)))
  (fun _ i _=>(intOf i+1).toNat)
 case atStart=>exact⟨s.length,s,0,rfl,rfl,hd0,by omega,World.grownBy.refl _ _,Lib.hid rfl,hs,h4,Lib.hid rfl,Lib.hid (by simp[val])⟩
 case round =>
  obtain⟨k,t,r,rfl,rfl,hr,hk,hg,Ht,hdt,hB,HT,HV⟩:=hrel
  by_cases h0:0<k
  ·obtain⟨rfl,hB'⟩:=hB (by omega);have hkt:k - 1<t.length:=by have:=Ht.out;omega
   have hct:wr.cell? ⟨g,pre.length+(k - 1),none⟩=some (.int .u32 (nth t (k - 1))):=by
    rw[hB'.cell (by simp;omega),nth_mid _ _ _ _ hkt]
   have hft:=hB'.frozen (pre.length+(k - 1));have t1:=hdt.getD (by omega) (k - 1);obtain⟨x,hx⟩:∃ x,x=t.getD (k - 1) 0:=⟨_,rfl⟩
   have hnx:nth t (k - 1)=(x:Int):=by rw[hx];rfl
   rw[<-hx] at t1;have hor:=or_join (r:=r) (x:=x) (by omega) t1;have hjb:=joinI_bound (r:=r) (x:=x) (by omega) t1;have hq0:=join_div hr t1
   have hq:0<=joinI r x / (d:Int)/\joinI r x / (d:Int)<4294967296:=by
    have:joinI r x / (d:Int)=((joinN r x / d:Nat):Int):=by unfold joinI;simp
    rw[this];exact⟨Int.natCast_nonneg _,Int.ofNat_lt.2 hq0⟩
   have HS:=Lib.hid (divLimb_step (t:=t) (s:=s) (k:=k - 1) (r:=r) (d:=d) hkt Ht.out (by rw[show k - 1+1=k by omega];exact HT.out) (by rw[show k - 1+1=k by omega];exact HV.out));rw[<-hx] at HS;have HQ:=Lib.hid hq0;have hm0:joinI r x % (d:Int)=((joinN r x % d:Nat):Int):=by unfold joinI;simp
   have hd0':joinI r x / (d:Int)=((joinN r x / d:Nat):Int):=by unfold joinI;simp
   have HM:=Lib.hid hm0;have HD:=Lib.hid hd0';rw[hnx] at hct;clear hB h4 hq0 hm0 hd0' hx hnx
   go_wp2
   go_roundw
   case rel =>
    refine⟨k - 1,t.set (k - 1) (joinN r x / d),joinN r x % d,by go_num,by rw[<-HM.out],Nat.mod_lt _ hd0,by omega,grown_setCell hg _,Lib.hid (by rw[List.length_set];exact Ht.out),hdt.set HQ.out,fun _=>⟨rfl,?_⟩,Lib.hid HS.out.1,Lib.hid HS.out.2⟩;rw[<-set_mid _ _ _ _ _ hkt];exact hB'.set _ _ _ HD.out
   case measure=>simp[intOf];omega
  have hk0:k=0:=by omega
  subst hk0;have hv:=HV.out;simp only[List.drop_zero] at hv;have e1:val L32 s % d=r:=by rw[<-hv,Nat.mul_add_mod_self_right,Nat.mod_eq_of_lt hr]
  have e2:val L32 t=val L32 s / d:=by rw[<-hv,Nat.add_comm,Nat.add_mul_div_right _ _ hd0,Nat.div_eq_of_lt hr,Nat.zero_add]
  have E1:=Lib.hid e1;have E2:=Lib.hid e2;have hfin:Ws wr .u32 153 (.slice ao s.length cap) g pre t post:=⟨ao,cap,by rw[Ht.out],by rw[Ht.out];exact h1,h2,h3,by rw[Ht.out];exact hB⟩
  clear e1 e2 hv h4
  go_wp2
  go_ret
  exact⟨t,by rw[E1.out];rfl,hfin,hg,Ht.out,hdt,E2.out⟩
theorem infoByte:(Tryz.prog.info? 5).map (fun i=>(i.zero,i.size,i.bytes))=some (some (.int .u8 0),1,1):=by kernel_rfl
theorem infoBld:(Tryz.prog.info? 109).map (·.size)=some 2:=by kernel_rfl
theorem liesBld:liesAt Tryz.prog Tryz.prog.depth 109 (2 / Tryz.prog.cellsOf 109) 0 109 1=true:=by kernel_rfl
set_option maxRecDepth 100000 in
theorem copyCheck_used (b:Nat) (w:World) (h0:w.cell? ⟨b,0,none⟩=some (.pointer (some ⟨b,0,none⟩))) :
  Calls Tryz.prog 150 #[.pointer (some ⟨b,0,none⟩)] w fun e w'=>e=.returned (.tuple #[])/\w=w':=by
 obtain⟨j,hj,_⟩:=Option.map_eq_some_iff.1 infoBld;have hne:=Lib.run_neq_ptr_same (P:=Tryz.prog) w ⟨b,0,none⟩ Tryz.underlying107 hj;go_enter Tryz.func150,Tryz.ntmps150
 go_wp2
 go_end0
 exact⟨rfl,rfl⟩
set_option maxRecDepth 100000 in
theorem copyCheck_fresh (b:Nat) (w:World) (h0:w.cell? ⟨b,0,none⟩=some (.pointer none)) (hsh:w.shape? b=some (109,2)) (hfz:w.frozen? ⟨b,0,none⟩=false) :
  Calls Tryz.prog 150 #[.pointer (some ⟨b,0,none⟩)] w fun e w'=>e=.returned (.tuple #[])/\w.setCell ⟨b,0,none⟩ (.pointer (some ⟨b,0,none⟩))=w':=by
 obtain⟨j,hj,hjs⟩:=Option.map_eq_some_iff.1 infoBld;have h1:=Lib.run_to_unsafe (P:=Tryz.prog) w ⟨b,0,none⟩ Tryz.underlying107 Tryz.underlying220 hj (by rw[hjs];decide) hsh (Nat.zero_lt_succ 1);have h2:=run_callFunc_extern (P:=Tryz.prog) (w:=w) (args:=#[.pointer (some ⟨b,0,none⟩)]) Tryz.func182 (by kernel_rfl) (by kernel_rfl) (by kernel_rfl) (e:=Extern.AbiNoEscape.same) (by kernel_rfl);have h3:=Lib.run_noEscape (P:=Tryz.prog) w (.pointer (some ⟨b,0,none⟩));have h4:=Lib.run_from_unsafe (P:=Tryz.prog) w ⟨b,0,none⟩ Tryz.underlying220 Tryz.underlying107 hj hsh liesBld;go_enter Tryz.func150,Tryz.ntmps150
 go_wp2
 go_end0
 exact⟨rfl,rfl⟩
def Bld (B b:Nat) (l:List UInt8) (w:World):Prop:=Lib.IsBuilder 109 5 B b (Lib.byteCells l) w
theorem Bld.at {B b:Nat} {l:List UInt8} {w:World} (h:Bld B b l w):∃ p v,w.heap[b]?=some (.cells #[p,v] 109 (0,0))/\w.ownsRow B 5 1 v l.length (Lib.byteCells l)/\v.ownBlock≠some b/\B<=b/\(p=.pointer none\/p=.pointer (some ⟨b,0,none⟩)):=by
 rcases h with ⟨hB,v,h1,h2,h3⟩ | ⟨hB,v,h1,h2,h3⟩
 ·exact⟨_,v,h1,by simpa [Lib.byteCells_length] using h2,h3,hB,.inl rfl⟩
 exact⟨_,v,h1,by simpa [Lib.byteCells_length] using h2,h3,hB,.inr rfl⟩
theorem Bld.below {B b:Nat} {l:List UInt8} {w w':World} (h:Bld B b l w) (hb:Below w.heap.size w w'):Bld B b l w':=by
 have go:∀ p,Lib.BuilderAt 109 5 B b p (Lib.byteCells l) w->Lib.BuilderAt 109 5 B b p (Lib.byteCells l) w':=by
  intro p ⟨hB,v,h1,h2,h3⟩;have hlt:=lt_of_block h1;exact⟨hB,v,by rw[hb.block b hlt];exact h1,World.ownsRow.kept h2 ⟨hb.os,hb.tape,hb.output,hb.size,fun j hj _=>hb.block j hj⟩ (by cases hv:v.ownBlock with | none=>exact .inl rfl | some g=>exact .inr (show some g≠none by simp)),h3⟩
 rcases h with h | h
 ·exact .inl (go _ h)
 exact .inr (go _ h)
theorem strCells_bytes (l m:List UInt8):Lib.byteCells l++Lib.strCells ⟨m.toArray⟩=Lib.byteCells (l++m):=by
 simp[Lib.byteCells,Lib.strCells]
set_option maxRecDepth 100000 in
theorem writeString_any (B b:Nat) (l m:List UInt8) (sv:ByteArray) (w:World) (h:Bld B b l w) (hs:sv=⟨m.toArray⟩) (hlen:l.length+m.length<=1000000) (hBw:B<=w.heap.size) :
  Calls Tryz.prog 100 #[.pointer (some ⟨b,0,none⟩),.string sv] w fun e w'=>∃ v,e=.returned v/\Bld B b (l++m) w'/\Below B w w':=by
 obtain⟨i0,hi,hz0,hz1,hz2⟩:=info_parts infoByte;have hsz:sv.size=m.length:=by subst hs;rfl
 obtain⟨p,v,hbk,hown,hne,hBb,hp⟩:=h.at;have hlt:=lt_of_block hbk
 -- behind copyCheck
 have rest:∀ w1:World,w1.heap[b]?=some (.cells #[.pointer (some ⟨b,0,none⟩),v] 109 (0,0))->w1.ownsRow B 5 1 v l.length (Lib.byteCells l)->Below B w w1->True:=fun _ _ _ _=>trivial
 clear rest;have HS:=Lib.hid hs;have HSZ:=Lib.hid hsz;clear hs;have hsz2:sv.size<=m.length:=by omega
 clear hsz
 have cc:Calls Tryz.prog 150 #[.pointer (some ⟨b,0,none⟩)] w fun e w1=>e=.returned (.tuple #[])/\w1.heap[b]?=some (.cells #[.pointer (some ⟨b,0,none⟩),v] 109 (0,0))/\w1.ownsRow B 5 1 v l.length (Lib.byteCells l)/\Below B w w1:=by
  rcases hp with rfl | rfl
  ·refine (copyCheck_fresh b w (by rw[cell_of_row w b 0 _ 109 (0,0) hbk];rfl) (by simp[World.shape?,hbk]) (frozen_of_row w b 0 _ 109 hbk)).mono ?_;rintro e w1 ⟨rfl,rfl⟩;refine⟨rfl,?_,?_,(Below.refl _ _).setCell hBb _⟩
   ·rw[heap_setCell_same w b 0 _ 109 _ hbk];rfl
   exact ownsRow_setCell_other hown (by simpa using hne) _
  refine (copyCheck_used b w (by rw[cell_of_row w b 0 _ 109 (0,0) hbk];rfl)).mono ?_;rintro e w1 ⟨rfl,rfl⟩;exact⟨rfl,hbk,hown,Below.refl _ _⟩
 have CC:=Lib.hid cc;clear cc hbk hown hp;go_enter Tryz.func100,Tryz.ntmps100
 go_wp2_with fail
 refine CC.out.mono ?_;rintro e w1 ⟨rfl,hbk1,hown1,hb1⟩;have c0:w1.cell? ⟨b,0,none⟩=some (.pointer (some ⟨b,0,none⟩)):=by rw[cell_of_row w1 b 0 _ 109 (0,0) hbk1];rfl
 have c1:w1.cell? ⟨b,1,none⟩=some v:=by rw[cell_of_row w1 b 1 _ 109 (0,0) hbk1];rfl
 have HK:=Lib.hid hbk1;clear hbk1;have hsz1:=hb1.size;go_wp2_with (at_builtin;refine Lib.wpList_append_own_string _ rfl (.tmp 12) (.tmp 13) 99 9 rfl B 5 i0 Tryz.underlying99 Tryz.underlying9 hi hz0 hz1 hz2 _ _ _ rfl hown1 sv rfl ?c3 ?c4 ?c5 ?_)
 case c3=>unfold maxLen;omega
 case c4=>omega
 case c5=>omega
 intro v' w2 hown' hgrow _;have hlt1:b<w1.heap.size:=lt_of_block HK.out
 have hb2:w2.heap[b]?=some (.cells #[.pointer (some ⟨b,0,none⟩),v] 109 (0,0)):=by
  rw[hgrow.block b hlt1 (fun e=>hne e.symm)];exact HK.out
 have d0:w2.cell? ⟨b,0,none⟩=some (.pointer (some ⟨b,0,none⟩)):=by rw[cell_of_row w2 b 0 _ 109 (0,0) hb2];rfl
 have d1:w2.cell? ⟨b,1,none⟩=some v:=by rw[cell_of_row w2 b 1 _ 109 (0,0) hb2];rfl
 have f1:w2.frozen? ⟨b,1,none⟩=false:=frozen_of_row w2 b 1 _ 109 hb2
 obtain⟨ao,n',cap,rfl⟩:∃ ao n' cap,v'=.slice ao n' cap:=by
  rcases hown'.2 with ⟨hv,_⟩ | ⟨g,cap,cur,hv,_⟩
  ·exact⟨_,_,_,hv⟩
  exact⟨_,_,_,hv⟩
 have HB2:=Lib.hid hb2;clear hb2
 go_wp2
 go_ret2
 refine⟨_,rfl,?_,?_⟩
 ·refine .inr ?_;rw[<-strCells_bytes,<-HS.out];refine Lib.BuilderAt.put (T:=109) (e:=5) hBb HB2.out (bs':=Lib.byteCells l++Lib.strCells sv) ?_ (by decide);rw[lsa,Lib.byteCells_length,Lib.strCells_length];exact hown'
 exact (hb1.grown hgrow (by omega) (fun k hk=>(hown1.lt k hk).1)).setCell (p:=⟨b,1,none⟩) hBb _
theorem fmt_small (i:Nat) (z:Int) (hz:z=(i:Int)) (h:i<100) (w:World) :
  Calls Tryz.prog 184 #[.int .u64 z,.int .i64 10] w fun e w'=>e=.returned (.string ⟨(Lib.decDigits i).toArray⟩)/\w=w':=by
 subst hz
 have inner:Calls Tryz.prog 197 #[.int .u64 i,.int .i64 10] w fun e w'=>e=.returned (.string ⟨(Lib.decDigits i).toArray⟩)/\w=w':=by
  go_enter Tryz.func197,Tryz.ntmps197
  go_wp2_with fail
  refine (Tryz.internal_strconv_small i h _).mono ?_;rintro e w' ⟨rfl,rfl⟩;go_wp2_with fail
  go_ret
  exact⟨rfl,rfl⟩
 have IN:=Lib.hid inner;clear inner;go_enter Tryz.func184,Tryz.ntmps184
 go_wp2_with fail
 refine IN.out.mono ?_;rintro e w' ⟨rfl,rfl⟩;go_wp2_with fail
 go_ret
 exact⟨rfl,rfl⟩
abbrev G9:Nat:=1000000000
theorem Ow.len {w:World} {base:Nat} {k:IntKind} {T:TypeId} {v:Value} {xs:List Nat} (h:Ow w base k T v xs):lenOfV v=xs.length:=by
 obtain⟨ao,cap,rfl⟩:=sl_shape h.sl;rfl
theorem Ow.grown {w w':World} {base:Nat} {k:IntKind} {T:TypeId} {v:Value} {xs:List Nat} (h:Ow w base k T v xs) {g:Nat} (hg:w.grownBy w' (some g)) (hb:g<base):Ow w' base k T v xs:=
 World.ownsRow.kept h hg (by
  cases hv:v.ownBlock with
  | none=>exact .inl rfl
  | some j=>exact .inr (fun e=>by injection e with e;have:=h.base_le j hv;omega))
theorem ws_trimmed {w:World} {T:TypeId} {ao:Option Addr} {n cap g:Nat} {pre s post:List Nat} (h:Ws w .u32 T (.slice ao n cap) g pre s post) (hd:Dig L32 s) :
  ∃ post',Ws w .u32 T (trimmedOf ao cap s) g pre (dig L32 (val L32 s)) post':=by
 have e:=take_nz (B:=L32) (by decide) hd;obtain⟨ao',cap',e1,h1,h2,h3,h4⟩:=h;injection e1 with e1 e2 e3;subst e1;subst e3;have hl:=nz_le s;have hlen:(s.take (nz s)).length=nz s:=by rw[List.length_take];omega
 refine⟨s.drop (nz s)++post,?_⟩;rw[<-e];unfold trimmedOf
 by_cases h0:nz s=0
 ·rw[if_pos h0,h0];exact⟨none,0,rfl,by simp,by omega,fun _=>rfl,fun h=>by simp at h⟩
 rw[if_neg h0];refine⟨ao,cap,by rw[hlen],by rw[hlen];omega,h2,h3,fun _=>?_⟩;obtain⟨a1,a2⟩:=h4 (by omega);refine⟨a1,?_⟩
 have:pre++s.take (nz s)++(s.drop (nz s)++post)=pre++s++post:=by
  rw[<-List.append_assoc,List.append_assoc pre,List.take_append_drop]
 rw[this];exact a2
theorem trimmed_ws (v:Value) (g:Nat) (pre s post:List Nat) (w:World) (h:Ws w .u32 153 v g pre s post) (hd:Dig L32 s) :
  Calls Tryz.prog 138 #[v] w fun e w'=>∃ v' post',e=.returned v'/\Ws w .u32 153 v' g pre (dig L32 (val L32 s)) post'/\w=w':=by
 obtain⟨ao,cap,rfl⟩:=h.at;refine (trimmed_any _ _ _ s _ h.sl).mono fun e w' ⟨he,hw⟩=>?_
 obtain⟨post',h'⟩:=ws_trimmed h hd;exact⟨_,post',he,h',hw⟩
theorem Ws.len {w:World} {k:IntKind} {T:TypeId} {v:Value} {g:Nat} {pre s post:List Nat} (h:Ws w k T v g pre s post):lenOfV v=s.length:=by
 obtain⟨ao,cap,rfl⟩:=h.at;rfl
theorem Ws.kept {w w':World} {B:Nat} {k:IntKind} {T:TypeId} {v:Value} {g:Nat} {pre s post:List Nat} (h:Ws w k T v g pre s post) (hb:Below B w w') (hg:s.length≠0->g<B):Ws w' k T v g pre s post:=by
 obtain⟨ao,cap,rfl,h1,h2,h3,h4⟩:=h;exact⟨ao,cap,rfl,h1,h2,h3,fun i=>⟨(h4 i).1,(h4 i).2.below hb (hg i)⟩⟩
theorem Ws.in_heap {w:World} {k:IntKind} {T:TypeId} {v:Value} {g:Nat} {pre s post:List Nat} (h:Ws w k T v g pre s post) (h0:s.length≠0):g<w.heap.size:=by
 obtain⟨ao,cap,rfl,h1,h2,h3,h4⟩:=h;exact (h4 h0).2.lt
theorem groups_step {gs:List Nat} {ρ N:Nat} (h0:0<ρ) (h:gs++dig G9 ρ=dig G9 N):(gs++[ρ % G9])++dig G9 (ρ / G9)=dig G9 N:=by
 rw[<-h,dig_pos (B:=G9) (by decide) h0,List.append_assoc];rfl
theorem decimalGroups_any (va:Value) (xs:List Nat) (w:World) (hx:Sl w .u32 va xs) (dx:Dig L32 xs) (lx:xs.length<=100000) :
  Calls Tryz.prog 183 #[va] w fun e w'=>∃ v,e=.returned v/\Sl w' .u32 v (dig G9 (val L32 xs))/\Below w.heap.size w w':=by
 obtain⟨i0,hi,hz0,hz1,hz2⟩:=info_parts info51;obtain⟨ao,ac,rfl⟩:=sl_shape hx;go_enter Tryz.func183,Tryz.ntmps183
 go_wp2_with fail
 refine (trim_any _ xs w hx dx (by omega)).mono ?_;rintro e w1 ⟨v1,rfl,hs1,hb1⟩;have hsz1:=hb1.size;have Hg:Hid ((dig L32 (val L32 xs)).length≠0->w.heap.size<w1.heap.size):=Lib.hid (fun h=>hs1.in_heap h)
 have HK:Hid ((dig G9 (val L32 xs)).length<=1000000):=Lib.hid (Nat.le_trans (length_dig_le (B:=G9) (k:=2*xs.length) (by decide) (by
  have h1:=val_lt dx;have h2:L32 ^ xs.length<=G9 ^ (2*xs.length):=by rw[Nat.pow_mul];exact Nat.pow_le_pow_left (by decide) _
  omega)) (by omega))
 generalize hN:val L32 xs=N at *;have HN:=Lib.hid hN;clear hN;go_wp2_with fail
 go_loopw [3,4] (fun gv rv wr=>∃ (ρ:Nat) (gs post:List Nat),Ow wr w1.heap.size .u32 153 gv gs/\Ws wr .u32 153 rv w.heap.size [] (dig L32 ρ) post/\Hid (gs++dig G9 ρ=dig G9 N)/\Dig L32 gs/\Below w.heap.size w wr/\w1.heap.size<=wr.heap.size/\Hid ((dig L32 ρ).length≠0->w.heap.size<w1.heap.size)) (fun gv _ _=>(dig G9 N).length - lenOfV gv)
 case atStart=>exact⟨N,[],[],Ow.nil _ _ _ _,hs1,Lib.hid rfl,Dig.nil _,hb1,Nat.le_refl _,Hg⟩
 case round =>
  clear hs1 hb1 Hg;obtain⟨ρ,gs,post,how,hws,HG,hdg,hb,hsz,Hg⟩:=hrel;have hlen:=Lib.hid hws.len;obtain⟨ro,rc,rfl⟩:=hws.at
  by_cases h0:0<ρ
  ·have hpos:0<(dig L32 ρ).length:=by rw[dig_pos (by decide) h0];simp
   have hgl:=Hg.out (by omega);have HG':=Lib.hid (groups_step h0 HG.out)
   have hgsl:gs.length<(dig G9 N).length:=by
    have:=congrArg List.length HG.out;rw[lsa,dig_pos (B:=G9) (by decide) h0] at this
    simp at this;omega
   have hk:=HK.out;have hmod:ρ % G9<1000000000:=Nat.mod_lt _ (by decide);have HL:=Lib.hid how.len;go_wp2_with fail
   refine (divLimb_any w.heap.size [] _ post _ G9 _ wr hws (Dig_dig (by decide) _) rfl (by decide) (by decide)).mono ?_;rintro e w3 ⟨s',rfl,hs3,hg3,hl3,hd3,hv3⟩;rw[val_dig (by decide)] at hv3 ⊢;have how3:=how.grown hg3 hgl;have hb3:Below w.heap.size w w3:=hb.trans (below_of_grown' hg3 (Nat.le_refl _) hb.size);have hsz3:=hg3.size;have HV3:=Lib.hid hv3;have HL3:=Lib.hid hl3;clear hv3 hl3;obtain⟨m,hm⟩:∃ m,m=ρ % G9:=⟨_,rfl⟩
   rw[<-hm];rw[<-hm] at HG' hmod;clear hm;go_wp2_with (at_builtin;refine wpList_append_one _ rfl (.tmp 12) (.tmp 15) 23 rfl 153 i0 .u32 Tryz.underlying23 hi hz0 hz1 ?c1 w1.heap.size _ gs rfl (how3.alloc _) w3.heap.size (m:Int) m rfl ?c2 rfl ?c3 ?c4 ?_)
   case c1=>omega
   case c2=>simp
   case c3=>omega
   case c4=>simp;omega
   intro v' w4 how4 hb4;have hb4':Below w1.heap.size w3 w4:=((Below.refl _ _).alloc (by omega) _).trans hb4;have hs4:=hs3.kept hb4' (fun _=>hgl);go_wp2_with fail
   refine (trimmed_ws _ _ _ s' _ w4 hs4 hd3).mono ?_;rintro e w5 ⟨v5,post5,rfl,hs5,rfl⟩;rw[HV3.out] at hs5;go_wp2_with fail
   go_roundw
   case rel=>exact⟨ρ / G9,gs++[m],post5,how4,hs5,HG',hdg.append (by intro x hx;obtain rfl:=List.mem_singleton.1 hx;exact Nat.lt_trans hmod (by decide)),hb3.trans (hb4'.mono (by omega)),Nat.le_trans (by omega) hb4'.size,Lib.hid (fun _=>hgl)⟩
   case measure =>
    have e1:=HL.out;have e2:=how4.len;rw[lsa] at e2
    simp at e2
    simp;omega
  have hr:ρ=0:=by omega
  subst hr;have HE:Hid (gs=dig G9 N):=Lib.hid (by have:=HG.out;rwa [dig_zero,List.append_nil] at this);have hl0:(dig L32 0).length=0:=by rw[dig_zero];rfl
  have HL0:=Lib.hid hl0;have hl1:(dig L32 0).length<=0:=by omega
  clear hl0;go_wp2_with fail
  go_ret
  exact⟨_,rfl,by rw[HN.out,<-HE.out];exact how.sl,hb⟩
def pad:Nat->Nat->List UInt8
 | 0,_=>[]
 | k+1,g=>pad k (g / 10)++[UInt8.ofNat (48+g % 10)]
theorem decDigits_pad (k:Nat):∀ (q g:Nat),0<q->g<10 ^ k->Lib.decDigits (q*10 ^ k+g)=Lib.decDigits q++pad k g:=by
 induction k with
 | zero=>intro q g hq hg;simp at hg;subst hg;simp[pad]
 | succ k ih =>
  intro q g hq hg
  have hbig:¬ q*10 ^ (k+1)+g<10:=by
   have:1*10 ^ (k+1)<=q*10 ^ (k+1):=Nat.mul_le_mul_right _ hq;have h2:10<=10 ^ (k+1):=by rw[Nat.pow_succ];have:=Nat.pow_pos (n:=k) (show 0<10 by omega);omega
   omega
  have e1:(q*10 ^ (k+1)+g) / 10=q*10 ^ k+g / 10:=by
   rw[Nat.pow_succ,<-Nat.mul_assoc,Nat.add_comm,Nat.add_mul_div_right _ _ (by omega),Nat.add_comm]
  have e2:(q*10 ^ (k+1)+g) % 10=g % 10:=by
   rw[Nat.pow_succ,<-Nat.mul_assoc,Nat.add_comm,Nat.add_mul_mod_self_right]
  have hg':g / 10<10 ^ k:=Nat.div_lt_of_lt_mul (by rw[Nat.pow_succ] at hg;omega);rw[Lib.decDigits,dif_neg hbig,e1,e2,ih q (g / 10) hq hg',List.append_assoc]
  rfl
theorem decDigits_group {q g:Nat} (hq:0<q) (hg:g<G9):Lib.decDigits (g+G9*q)=Lib.decDigits q++(Lib.decDigits (G9+g)).drop 1:=by
 have h1:=decDigits_pad 9 q g hq hg;have h2:=decDigits_pad 9 1 g (by decide) hg;have hG:G9=1000000000:=rfl;rw[show q*10 ^ 9+g=g+G9*q by rw[hG];omega] at h1;rw[show 1*10 ^ 9+g=G9+g by rw[hG]] at h2;rw[h1,h2,Lib.decDigits_one (i:=1) (by decide)]
 rfl
theorem len_pad (k g:Nat):(pad k g).length=k:=by
 induction k generalizing g with
 | zero=>rfl
 | succ k ih=>simp[pad,ih]
theorem decDigits_ten {g:Nat} (hg:g<G9):(Lib.decDigits (G9+g)).length=10:=by
 have h2:=decDigits_pad 9 1 g (by decide) hg;rw[show 1*10 ^ 9+g=G9+g from rfl] at h2;rw[h2,lsa,len_pad,Lib.decDigits_one (i:=1) (by decide)];rfl
theorem decDigits_len {n k:Nat} (h:n<10 ^ k) (hk:0<k):(Lib.decDigits n).length<=k:=by
 rw[Lib.decDigits_length];rcases Nat.lt_or_ge n 10 with h1 | h1
 ·rw[Lib.nDigits_small h1];exact hk
 induction k generalizing n with
 | zero=>omega
 | succ k ih =>
  rw[Lib.nDigits_big (by omega)];have h2:n / 10<10 ^ k:=Nat.div_lt_of_lt_mul (by rw[Nat.pow_succ] at h;omega)
  have hk0:0<k:=by
   rcases Nat.eq_zero_or_pos k with h0 | h0
   ·subst h0;simp at h2;omega
   exact h0
  rcases Nat.lt_or_ge (n / 10) 10 with h3 | h3
  ·rw[Lib.nDigits_small h3];omega
  have:=ih h2 hk0 h3;omega
theorem val_drop_step {B:Nat} {gs:List Nat} {k:Nat} (hk:k<gs.length):val B (gs.drop k)=gs.getD k 0+B*val B (gs.drop (k+1)):=by
 rw[List.drop_eq_getElem_cons hk]
 simp[val,List.getD,hk]
theorem extract_one (l:List UInt8):(⟨l.toArray⟩:ByteArray).extract 1 (⟨l.toArray⟩:ByteArray).size=⟨(l.drop 1).toArray⟩:=by
 apply ByteArray.ext
 simp[ByteArray.size]
 rw[List.take_of_length_le (by simp)]
theorem digits_len {gs:List Nat} (hd:Dig G9 gs) (k:Nat) (hl:gs.length<=20000):(Lib.decDigits (val G9 (gs.drop k))).length<=180009:=by
 have h1:=val_lt (hd.drop k)
 have h2:G9 ^ (gs.drop k).length<=10 ^ (9*gs.length+9):=by
  rw[show G9=10 ^ 9 from rfl,<-Nat.pow_mul];exact Nat.pow_le_pow_right (by decide) (by rw[List.length_drop];omega)
 have:=decDigits_len (Nat.lt_of_lt_of_le h1 h2) (by omega)
 omega
theorem digits_round {gs:List Nat} (hd:Dig G9 gs) {k:Nat} (hk:k<gs.length) (hp:0<val G9 (gs.drop (k+1))) :
  Lib.decDigits (val G9 (gs.drop k))=Lib.decDigits (val G9 (gs.drop (k+1)))++(Lib.decDigits (G9+gs.getD k 0)).drop 1/\0<val G9 (gs.drop k):=by
 rw[val_drop_step hk];refine⟨decDigits_group hp (hd.getD (by decide) k),?_⟩;have:1*1<=G9*val G9 (gs.drop (k+1)):=Nat.mul_le_mul (by decide) hp
 omega
def FmtAt (w0:World) (P:Nat->Prop):Prop:=
 ∀ (w:World) (i:Nat) (z:Int),Below w0.heap.size w0 w->z=(i:Int)->P i->Calls Tryz.prog 184 #[.int .u64 z,.int .i64 10] w fun e w'=>e=.returned (.string ⟨(Lib.decDigits i).toArray⟩)/\Below w.heap.size w w'
theorem text_gen (P:Nat->Prop) (va:Value) (xs:List Nat) (w:World) (fmt:FmtAt w P) (hx:Sl w .u32 va xs) (dx:Dig L32 xs) (lx:xs.length<=10000)
  (hP1:∀ g,g<G9->(dig G9 (val L32 xs)).getD ((dig G9 (val L32 xs)).length - 1) 0=g->P g) (hP2:2<=(dig G9 (val L32 xs)).length->∀ g,g<G9->P (G9+g)) :
  Calls Tryz.prog 151 #[va] w fun e w'=>e=.returned (.string ⟨(Lib.decDigits (val L32 xs)).toArray⟩)/\Below w.heap.size w w':=by
 have FMT:=Lib.hid fmt;clear fmt
 have HGL:Hid ((dig G9 (val L32 xs)).length<=20000):=Lib.hid (Nat.le_trans (length_dig_le (B:=G9) (k:=2*xs.length) (by decide) (by
  have h1:=val_lt dx;have h2:L32 ^ xs.length<=G9 ^ (2*xs.length):=by rw[Nat.pow_mul];exact Nat.pow_le_pow_left (by decide) _
  omega)) (by omega))
 have DG:=decimalGroups_any va xs w hx dx (by omega);have DGH:=Lib.hid DG;clear DG;have dg:=Dig_dig (B:=G9) (by decide) (val L32 xs);have HV:=Lib.hid (val_dig (B:=G9) (by decide) (val L32 xs));have HLast:=Lib.hid (@dig_last G9 (val L32 xs) (by decide));have HP1:=Lib.hid hP1;have HP2:=Lib.hid hP2;clear hP1 hP2 dx;generalize dig G9 (val L32 xs)=gs at *;generalize val L32 xs=N at *
 by_cases h0:gs.length=0
 ·have HN:Hid (N=0):=Lib.hid (by have:=HV.out;rw[List.eq_nil_of_length_eq_zero h0] at this;simpa [val] using this.symm);have hz:(((gs.length:Nat):Int)==0)=true:=by rw[h0];rfl
  have H0:=Lib.hid h0;clear h0;go_enter Tryz.func151,Tryz.ntmps151
  go_wp2_with fail
  refine DGH.out.mono ?_;rintro e w1 ⟨v1,rfl,hs1,hb1⟩;obtain⟨ao,ac,rfl⟩:=sl_shape hs1;go_wp2_with fail
  go_ret
  exact⟨by rw[HN.out,Lib.decDigits_one (i:=0) (by decide)];rfl,hb1⟩
 have hz:(((gs.length:Nat):Int)==0)=false:=by rw[beq_eq_false_iff_ne];omega
 have hp:1<=gs.length:=by omega
 clear h0;go_enter Tryz.func151,Tryz.ntmps151
 go_wp2_with fail
 refine DGH.out.mono ?_;rintro e w1 ⟨v1,rfl,hs1,hb1⟩;have HS1:=Lib.hid hs1;obtain⟨ao,ac,rfl,a1,a2,a3,a4⟩:=hs1;obtain⟨a,rfl,hca⟩:=a4 (gs.length - 1) (by omega);clear a4;have g1:0<=nth gs (gs.length - 1)/\nth gs (gs.length - 1)<1000000000:=by have:=dg.getD (by decide) (gs.length - 1);have hG:G9=1000000000:=rfl;unfold nth;omega
 have hgl:=HGL.out
 have hcal:(w1.alloc (.cells #[.pointer none,.slice none 0 0] 109)).cell? (a.add (gs.length - 1))=some (.int .u32 (nth gs (gs.length - 1))):=by
  rw[World.cell?_alloc_lt _ _ _ (cell_lt hca)];exact hca
 have hBld:Bld w1.heap.size w1.heap.size [] (w1.alloc (.cells #[.pointer none,.slice none 0 0] 109)):=Lib.fresh_isBuilder 109 5 w1;have hbW:Below w1.heap.size w1 (w1.alloc (.cells #[.pointer none,.slice none 0 0] 109)):=(Below.refl _ _).alloc (Nat.le_refl _) _;have hsW:w1.heap.size<(w1.alloc (.cells #[.pointer none,.slice none 0 0] 109)).heap.size:=by simp
 have hg0:=dg.getD (by decide) (gs.length - 1);have hlast:=HLast.out (by omega)
 have hdrop:val G9 (gs.drop (gs.length - 1))=gs.getD (gs.length - 1) 0:=by
  rw[val_drop_step (by omega),List.drop_eq_nil_of_le (by omega)];simp[val]
 have HD0:=Lib.hid hdrop;have HLA:=Lib.hid hlast;clear hdrop hlast;go_wp2_with fail
 generalize (w1.alloc (.cells #[.pointer none,.slice none 0 0] 109))=W2 at *;have hbW':Below w.heap.size w W2:=hb1.trans (hbW.mono hb1.size);refine (FMT.out W2 (gs.getD (gs.length - 1) 0) _ hbW' rfl (HP1.out _ hg0 rfl)).mono ?_;rintro e w3 ⟨rfl,hb3⟩;have hbl3:=hBld.below hb3;have hs3:=hb3.size;have hb3w:Below w.heap.size w w3:=hbW'.trans (hb3.mono hbW'.size);have hb3B:Below w1.heap.size w1 w3:=hbW.trans (hb3.mono (by omega));rw[<-HD0.out];have hdl:=digits_len dg (gs.length - 1) hgl;have hpos:0<val G9 (gs.drop (gs.length - 1)):=by rw[HD0.out];have:=HLA.out;omega
 have HPOS:=Lib.hid hpos;clear hpos;generalize hL:Lib.decDigits (val G9 (gs.drop (gs.length - 1)))=L at *;have HL:=Lib.hid hL;clear hL;generalize hS:(⟨L.toArray⟩:ByteArray)=sv at *;have HS:=Lib.hid hS;clear hS;go_wp2_with fail
 refine (writeString_any w1.heap.size w1.heap.size [] L sv w3 hbl3 HS.out.symm (by simp;omega) (by omega)).mono ?_;rintro e w4 ⟨v4,rfl,hbl4,hb4⟩;rw[List.nil_append] at hbl4;have hb4w:Below w.heap.size w w4:=hb3w.trans (hb4.mono hb1.size);have hb4B:Below w1.heap.size w1 w4:=hb3B.trans hb4;have hs4:=hb4.size;go_wp2_with fail
 go_loopw [6] (fun i wr=>∃ k:Nat,k<=gs.length - 1/\i=.int .i64 ((k:Int) - 1)/\Bld w1.heap.size w1.heap.size (Lib.decDigits (val G9 (gs.drop k))) wr/\Hid (0<val G9 (gs.drop k))/\Below w.heap.size w wr/\Below w1.heap.size w1 wr/\w1.heap.size<wr.heap.size) (fun i _=>(intOf i+1).toNat)
 case atStart=>exact⟨gs.length - 1,Nat.le_refl _,by congr 1;omega,by rw[HL.out];exact hbl4,HPOS,hb4w,hb4B,by omega⟩
 case round =>
  clear hbl3 hb3w hb3B hbl4 hb4w hb4B hs4 hs3 hb3 hb4 HPOS HL HS hBld hbW hsW hbW' hcal hdl;obtain⟨k,hk,rfl,hbl,HPOS,hb,hbB,hsz⟩:=hrel
  by_cases h0:0<k
  ·have hc:wr.cell? (a.add (k - 1))=some (.int .u32 (nth gs (k - 1))):=by
    have:=HS1.out.at (i:=k - 1) (by omega);rw[hbB.cell (cell_lt this)];exact this
   have gk:=dg.getD (by decide) (k - 1);have gk':0<=nth gs (k - 1)/\nth gs (k - 1)<1000000000:=by have hG:G9=1000000000:=rfl;unfold nth;omega
   have HR:=Lib.hid (digits_round dg (k:=k - 1) (by omega) (by rw[show k - 1+1=k by omega];exact HPOS.out));have hP:=HP2.out (by omega) _ gk;have hten:=decDigits_ten gk;have hdl:=digits_len dg k hgl;have hex:=extract_one (Lib.decDigits (G9+gs.getD (k - 1) 0));have hsize:(⟨(Lib.decDigits (G9+gs.getD (k - 1) 0)).toArray⟩:ByteArray).size=10:=by simpa [ByteArray.size] using hten
   have hdr:((Lib.decDigits (G9+gs.getD (k - 1) 0)).drop 1).length=9:=by rw[List.length_drop,hten]
   have HTEN:=Lib.hid hten;clear hten;go_wp2_with fail
   refine (FMT.out wr (G9+gs.getD (k - 1) 0) _ hb (by unfold nth;simp) hP).mono ?_;rintro e w5 ⟨rfl,hb5⟩;have hbl5:=hbl.below hb5;have hs5:=hb5.size;have hb5w:Below w.heap.size w w5:=hb.trans (hb5.mono hb.size);have hb5B:Below w1.heap.size w1 w5:=hbB.trans (hb5.mono (by omega));generalize hM:(Lib.decDigits (G9+gs.getD (k - 1) 0)).drop 1=M at *;generalize hS:(⟨(Lib.decDigits (G9+gs.getD (k - 1) 0)).toArray⟩:ByteArray)=sv at *;have HEX:=Lib.hid hex;have hsz1:1<=sv.size/\sv.size<=10:=by omega
   clear hex hS hM hsize;go_wp2_with fail
   refine (writeString_any w1.heap.size w1.heap.size _ M _ w5 hbl5 HEX.out (by omega) (by omega)).mono ?_;rintro e w6 ⟨v6,rfl,hbl6,hb6⟩;have hs6:=hb6.size;go_wp2_with fail
   go_roundw
   case rel =>
    refine⟨k - 1,by omega,by go_num,?_,Lib.hid HR.out.2,hb5w.trans (hb6.mono hb1.size),hb5B.trans hb6,by omega⟩;have h:=HR.out.1;rw[show k - 1+1=k by omega] at h;rw[h];exact hbl6
   case measure=>simp[intOf];omega
  have hk0:k=0:=by omega
  subst hk0;have HN:Hid (val G9 (gs.drop 0)=N):=Lib.hid (by rw[List.drop_zero];exact HV.out);go_wp2_with fail
  refine (Tryz.Builder_String_any w1.heap.size w1.heap.size _ wr hbl (by omega)).mono ?_;rintro e w7 ⟨rfl,hb7⟩;rw[HN.out];go_wp2_with fail
  go_ret
  exact⟨rfl,hb.trans (hb7.mono hb1.size)⟩
theorem times_step {t ys:List Nat} {S x k c z:Nat} (hy:k<ys.length) (ht:k<t.length) (hv:val L32 t+c*L32 ^ k=S+x*val L32 (ys.take k)) (hz:z=c+(x*ys.getD k 0+t.getD k 0)) :
  val L32 (t.set k (z % L32))+(z / L32)*L32 ^ (k+1)=S+x*val L32 (ys.take (k+1)):=by
 have h1:=val_set L32 t k (z % L32) ht;rw[val_take_succ L32 ys k hy,Nat.pow_succ];have h2:=Nat.mod_add_div z L32;generalize z % L32=r at *;generalize z / L32=q at *;generalize L32 ^ k=P at *;have h3:(r+L32*q)*P=(c+(x*ys.getD k 0+t.getD k 0))*P:=by rw[h2,hz]
 grind
theorem mul_bound {x y:Nat} (hx:x<4294967296) (hy:y<4294967296):x*y<=18446744065119617025:=
 Nat.le_trans (Nat.mul_le_mul (show x<=4294967295 by omega) (show y<=4294967295 by omega)) (by decide)
theorem addTimes_any (g:Nat) (pre s post ys:List Nat) (vs vb:Value) (x:Nat) (zx:Int) (w:World) (hw:Ws w .u32 153 vs g pre s post) (hb:Sl w .u32 vb ys) (ha:Apart g vb) (hl:ys.length<s.length)
  (hs:Dig L32 s) (hy:Dig L32 ys) (hzx:zx=(x:Int)) (hx:x<4294967296) (h0:s.getD ys.length 0=0) :
  Calls Tryz.prog 149 #[vs,vb,.int .u32 zx] w fun e w'=>∃ s',e=.returned (.tuple #[])/\Ws w' .u32 153 vs g pre s' post/\w.grownBy w' (some g)/\s'.length=s.length/\Dig L32 s' /\
   val L32 s'=val L32 s+x*val L32 ys:=by
 subst hzx;have H0:=Lib.hid h0;clear h0;obtain⟨ao,cap,rfl,h1,h2,h3,h4⟩:=hw;have HB:=Lib.hid hb;obtain⟨bo,bcap,rfl,k1,k2,k3,k4⟩:=hb;go_enter Tryz.func149,Tryz.ntmps149
 go_wp2
 go_loopw [6,11] (fun c i wr=>∃ (k:Nat) (t:List Nat) (cc:Nat),i=.int .i64 k/\c=.int .u64 (cc:Int)/\cc<4294967296/\k<=ys.length/\w.grownBy wr (some g)/\Hid (t.length=s.length)/\Dig 4294967296 t /\
   WsAt wr .u32 153 ao g pre t post s.length/\Hid (t.drop k=s.drop k)/\Hid (val L32 t+cc*L32 ^ k=val L32 s+x*val L32 (ys.take k)))
  (fun _ i _=>ys.length - (intOf i).toNat)
 case atStart=>exact⟨0,s,0,rfl,rfl,by omega,by omega,World.grownBy.refl _ _,Lib.hid rfl,hs,h4,Lib.hid rfl,Lib.hid (by simp[val])⟩
 case round =>
  obtain⟨k,t,cc,rfl,rfl,hcc,hk,hg,Ht,hdt,hB,HD,HV⟩:=hrel
  by_cases hlt:k<ys.length
  ·obtain⟨b,rfl,hcb⟩:=k4 k hlt;obtain⟨rfl,hB'⟩:=hB (by omega);have hkt:k<t.length:=by have:=Ht.out;omega
   have hcb':=(HB.out.grown hg ha).at hlt
   have hct:wr.cell? ⟨g,pre.length+k,none⟩=some (.int .u32 (nth t k)):=by
    rw[hB'.cell (by simp;omega),nth_mid _ _ _ _ hkt]
   have hft:=hB'.frozen (pre.length+k);have y1:=u32_wf hy k;have t1:=u32_wf hdt k;have y0:=hy.getD (by decide) k;have t0:=hdt.getD (by decide) k
   have hm:0<=(x:Int)*nth ys k/\(x:Int)*nth ys k<=18446744065119617025:=by
    have:=mul_bound hx y0;have e:(x:Int)*nth ys k=((x*ys.getD k 0:Nat):Int):=by unfold nth;simp
    rw[e];omega
   have HE:=Lib.hid (show (cc:Int)+((x:Int)*nth ys k+nth t k)=((cc+(x*ys.getD k 0+t.getD k 0):Nat):Int) by unfold nth;simp);have hzb:cc+(x*ys.getD k 0+t.getD k 0)<18446744073709551616:=by have:=mul_bound hx y0;omega
   have HS:=Lib.hid (times_step (x:=x) (ys:=ys) hlt hkt HV.out rfl);have HZ:=Lib.hid hzb;clear hcb hB h4 k4 y0 t0 hzb
   go_wp2
   go_roundw
   case rel =>
    have hE:=HE.out;have hz:=HZ.out;refine⟨k+1,t.set k ((cc+(x*ys.getD k 0+t.getD k 0)) % L32),(cc+(x*ys.getD k 0+t.getD k 0)) / L32,by go_num,?_,?_,by omega,grown_setCell hg _,Lib.hid (by rw[List.length_set];exact Ht.out),hdt.set (Nat.mod_lt _ (by decide)),fun _=>⟨rfl,?_⟩,Lib.hid ?_,HS⟩
    ·rw[hE];congr 1
    ·exact Nat.div_lt_of_lt_mul (by omega)
    ·rw[<-set_mid _ _ _ _ _ hkt];exact hB'.set _ _ _ (by rw[hE];rfl)
    rw[List.drop_set_of_lt (by omega)];have:=congrArg (List.drop 1) HD.out
    rwa [List.drop_drop,List.drop_drop] at this
   case measure=>simp[intOf];omega
  have hkk:k=ys.length:=by omega
  subst hkk;obtain⟨rfl,hB'⟩:=hB (by omega);have hkt:ys.length<t.length:=by have:=Ht.out;omega
  have hft:=hB'.frozen (pre.length+ys.length)
  have hct:wr.cell? ⟨g,pre.length+ys.length,none⟩=some (.int .u32 (nth t ys.length)):=by
   rw[hB'.cell (by simp;omega),nth_mid _ _ _ _ hkt]
  have ht0:t.getD ys.length 0=0:=by
   have:=congrArg (fun l=>l.getD 0 0) HD.out;simp only[List.getD_eq_getElem?_getD,List.getElem?_drop,Nat.add_zero] at this ⊢;rw[this];have h:=H0.out
   simpa using h
  have hfinv:val L32 (t.set ys.length cc)=val L32 s+x*val L32 ys:=by
   have h1:=val_set L32 t ys.length cc hkt;have h2:=HV.out;rw[List.take_length] at h2;rw[ht0] at h1
   omega
  have HF:=Lib.hid hfinv;clear hfinv ht0 hB h4 k4
  go_wp2
  go_end0
  refine⟨t.set ys.length cc,rfl,⟨some ⟨g,pre.length,none⟩,cap,by rw[List.length_set,Ht.out],by rw[List.length_set,Ht.out];exact h1,h2,h3,fun _=>⟨rfl,?_⟩⟩,grown_setCell hg _,by rw[List.length_set];exact Ht.out,hdt.set hcc,HF.out⟩;rw[<-set_mid _ _ _ _ _ hkt];exact hB'.set _ _ _ (by omega)
theorem high_zero {B:Nat} {xs:List Nat} (hB:2<=B) {m:Nat} (h:val B xs<B ^ m) {j:Nat} (hj:m<=j):xs.getD j 0=0:=by
 by_cases hl:j<xs.length
 ·have h1:=val_split B xs (j+1) (by omega);have h2:=val_take_succ B xs j hl;rw[h2] at h1;have h3:B ^ m<=B ^ j:=Nat.pow_le_pow_right (by omega) hj;rcases Nat.eq_zero_or_pos (xs.getD j 0) with h0 | h0
  ·exact h0
  have:1*B ^ j<=xs.getD j 0*B ^ j:=Nat.mul_le_mul_right _ h0
  omega
 exact getD_out (by omega)
theorem mul_step {P s' xs ys:List Nat} {i:Nat} (hi:i<=P.length) (hv:val L32 P=val L32 (xs.take i)*val L32 ys) (hs:val L32 s'=val L32 (P.drop i)+xs.getD i 0*val L32 ys) :
  val L32 (P.take i++s')=val L32 (xs.take (i+1))*val L32 ys:=by
 rw[val_append,hs,val_take_succ',Nat.add_mul,<-hv,val_split L32 P i hi,List.length_take,Nat.min_eq_left hi]
 grind
theorem mul_high {P xs ys:List Nat} {i:Nat} (dx:Dig L32 xs) (dy:Dig L32 ys) (hi:i<=xs.length) (hv:val L32 P=val L32 (xs.take i)*val L32 ys):(P.drop i).getD ys.length 0=0:=by
 have h1:=val_lt (dx.take i);have h2:=val_lt dy;rw[List.length_take,Nat.min_eq_left hi] at h1
 have h3:val L32 P<L32 ^ (i+ys.length):=by
  rw[hv,Nat.pow_add];exact Nat.mul_lt_mul'' h1 h2
 have:=high_zero (B:=L32) (xs:=P) (by decide) h3 (Nat.le_refl _)
 simpa [List.getD,List.getElem?_drop] using this
theorem ws_part {w:World} {T:TypeId} {g i n:Nat} {P:List Nat} (hB:Blk w g .u32 T P) (hi:i<P.length) (hn:n=P.length - i) (hm:P.length<=9223372036854775807) :
  Ws w .u32 T (.slice (some ⟨g,i,none⟩) n n) g (P.take i) (P.drop i) []:=by
 have e1:(P.drop i).length=n:=by simp;omega
 have e2:(P.take i).length=i:=by simp;omega
 refine⟨some ⟨g,i,none⟩,n,by rw[e1],by rw[e1];omega,by omega,(fun e=>by cases e),fun _=>⟨by rw[e2],?_⟩⟩;rw[List.take_append_drop,List.append_nil];exact hB
theorem ws_whole {w:World} {T:TypeId} {v:Value} {g:Nat} {pre s post:List Nat} (h:Ws w .u32 T v g pre s post) (h0:s.length≠0):Blk w g .u32 T (pre++s++post):=by
 obtain⟨_,_,_,_,_,_,h4⟩:=h;exact (h4 h0).2
theorem mul_any (va vb:Value) (xs ys:List Nat) (w:World) (hx:Sl w .u32 va xs) (hy:Sl w .u32 vb ys) (dx:Dig L32 xs) (dy:Dig L32 ys) (lx:xs.length<=1000000) (ly:ys.length<=1000000) :
  Calls Tryz.prog 99 #[va,vb] w fun e w'=>∃ v,e=.returned v/\Sl w' .u32 v (dig L32 (val L32 xs*val L32 ys))/\Below w.heap.size w w':=by
 obtain⟨i0,hi,hz0,hz1,hz2⟩:=info_parts info51;obtain⟨ao,ac,rfl⟩:=sl_shape hx;obtain⟨bo,bc,rfl⟩:=sl_shape hy;have nx:=nz_le xs;have ny:=nz_le ys;have hx':=hx.take (nz xs) nx;have hy':=hy.take (nz ys) ny;have dx':=dx.take (nz xs);have dy':=dy.take (nz ys);have VX:=val_take_nz (B:=L32) (by decide) dx;have VY:=val_take_nz (B:=L32) (by decide) dy;have ex:(xs.take (nz xs)).length=nz xs:=by simp;omega
 have ey:(ys.take (nz ys)).length=nz ys:=by simp;omega
 have HSX:=Lib.hid hx;have HSY:=Lib.hid hy;have SIGX:=Lib.hid (fun w=>sig_any ao xs.length ac xs w);have SIGY:=Lib.hid (fun w=>sig_any bo ys.length bc ys w);clear hx hy;rw[<-VX,<-VY];clear VX VY dx dy;generalize xs.take (nz xs)=X at *;generalize ys.take (nz ys)=Y at *;generalize nz xs=n at *;generalize nz ys=m at *
 have SX:Hid (∀ w1,Below w.heap.size w w1->∀ k,k<n->∃ a,ao=some a/\w1.cell? (a.add k)=some (.int .u32 (nth X k))):=by
  intro w1 hb k hk;obtain⟨ao',cap',e,_,_,_,q⟩:=hx'.below hb;injection e with e1 e2 e3;subst e1;exact q k (by omega)
 have EX:=Lib.hid ex;have EY:=Lib.hid ey;clear ex ey;go_enter Tryz.func99,Tryz.ntmps99
 go_wp2_with fail
 refine (SIGX.out _ HSX.out).mono ?_;rintro e w' ⟨rfl,rfl⟩;go_wp2_with fail
 refine (SIGY.out _ HSY.out).mono ?_;rintro e w' ⟨rfl,rfl⟩;go_wp2_with (at_make;refine wpList_make_blk _ rfl _ _ 24 rfl 153 i0 .u32 Tryz.underlying24 hi hz0 hz1 _ _ _ _ (n+m) rfl rfl (by omega) (by omega) (by omega) (by omega) ?_;intro w1 hB1 hb1 hs1)
 go_loopw [20] (fun j wr=>∃ (i:Nat) (P:List Nat),j=.int .i64 i/\i<=n/\Blk wr w.heap.size .u32 153 P/\Below w.heap.size w wr/\Dig L32 P/\Hid (P.length=n+m)/\Hid (val L32 P=val L32 (X.take i)*val L32 Y)) (fun j _=>n - (intOf j).toNat)
 case atStart=>exact⟨0,_,rfl,Nat.zero_le _,hB1,hb1,Dig.replicate (by decide) _,Lib.hid (by simp),Lib.hid (by rw[val_replicate_zero];simp[val])⟩
 case round =>
  clear hB1 hb1 hs1;obtain⟨i,P,rfl,hin,hB,hb,hdP,HL,HV⟩:=hrel
  by_cases hlt:i<n
  ·obtain⟨a,rfl,hca⟩:=SX.out wr hb i hlt;have hiP:i<P.length:=by have:=HL.out;omega
   have hx1:=u32_wf dx' i;have hx0:=dx'.getD (by decide) i;have hws:=ws_part (n:=n+m - i) hB hiP (by rw[HL.out]) (by have:=HL.out;omega);have hh0:=Lib.hid (mul_high dx' dy' (by rw[EX.out];exact hin) HV.out);have hap:Apart w.heap.size (.slice bo m bc):=sl_apart hy' (Nat.le_refl _);have hsize:Hid ((P.drop i).length=n+m - i):=Lib.hid (by rw[List.length_drop,HL.out]);have hyr:=hy'.below hb;go_wp2_with fail
   refine (addTimes_any w.heap.size (P.take i) (P.drop i) [] Y _ _ (X.getD i 0) _ wr hws hyr hap (by rw[hsize.out,EY.out];omega) (hdP.drop i) dy' rfl hx0 hh0.out).mono ?_;rintro e w3 ⟨s',rfl,hs3,hg3,hl3,hd3,hv3⟩;have hb3:Below w.heap.size w w3:=hb.trans (below_of_grown' hg3 (Nat.le_refl _) hb.size);have hB3:=ws_whole hs3 (by rw[hl3,hsize.out];omega);rw[List.append_nil] at hB3;have HV3:=Lib.hid (mul_step (by omega) HV.out hv3);have HL3:=Lib.hid hl3;clear hv3 hl3 hs3 hg3 hws hB;go_wp2_with fail
   go_roundw
   case rel=>exact⟨i+1,P.take i++s',by go_num,by omega,hB3,hb3,(hdP.take i).append hd3,Lib.hid (by rw[lsa,HL3.out,hsize.out,List.length_take,HL.out];omega),HV3⟩
   case measure=>simp[intOf];omega
  have hii:i=n:=by omega
  subst hii
  have hv:val L32 P=val L32 X*val L32 Y:=by
   have h:=HV.out
   rwa [List.take_of_length_le (by rw[EX.out];omega)] at h
  have HV':=Lib.hid hv;clear hv;have hsl:=hB.sl 0 (i+m) (i+m) (by rw[HL.out];omega) (Nat.le_refl _) (by omega);rw[List.drop_zero,List.take_of_length_le (by rw[HL.out];omega)] at hsl;go_wp2_with fail
  refine (trimmed_v _ P _ hsl hdP).mono ?_;rintro e w4 ⟨v4,rfl,ht4,rfl⟩;go_wp2_with fail
  go_ret
  refine⟨_,rfl,?_,hb⟩;rw[HV'.out] at ht4;exact ht4
def GN (w:World) (v:Value) (n k:Nat):Prop:=∃ xs,Sl w .u32 v xs/\Dig L32 xs/\val L32 xs=n/\xs.length<=k
theorem GN.below {w w':World} {v:Value} {n k:Nat} (h:GN w v n k) (hb:Below w.heap.size w w'):GN w' v n k:=by
 obtain⟨xs,h1,h2,h3,h4⟩:=h;exact⟨xs,h1.below hb,h2,h3,h4⟩
theorem GN.lt {w:World} {v:Value} {n k:Nat} (h:GN w v n k):n<L32 ^ k:=by
 obtain⟨xs,_,h2,h3,h4⟩:=h;rw[<-h3];exact Nat.lt_of_lt_of_le (val_lt h2) (Nat.pow_le_pow_right (by decide) h4)
theorem gn_dig {w:World} {v:Value} {n k:Nat} (h:Sl w .u32 v (dig L32 n)) (hn:n<L32 ^ k):GN w v n k:=
 ⟨_,h,Dig_dig (by decide) _,val_dig (by decide) _,length_dig_le (by decide) hn⟩
theorem pow_add_lt {m n k1 k2:Nat} (h1:m<L32 ^ k1) (h2:n<L32 ^ k2):m+n<L32 ^ (k1+k2+1):=by
 have a:L32 ^ k1<=L32 ^ (k1+k2):=Nat.pow_le_pow_right (by decide) (by omega);have b:L32 ^ k2<=L32 ^ (k1+k2):=Nat.pow_le_pow_right (by decide) (by omega);rw[Nat.pow_succ];have:L32 ^ (k1+k2)*2<=L32 ^ (k1+k2)*L32:=Nat.mul_le_mul_left _ (by decide)
 omega
theorem cmp_n {va vb:Value} {m n k1 k2:Nat} {w:World} (hx:GN w va m k1) (hy:GN w vb n k2) :
  Calls Tryz.prog 96 #[va,vb] w fun e w'=>e=.returned (.int .i64 (cmpN m n))/\Below w.heap.size w w':=by
 obtain⟨xs,hx,dx,rfl,lx⟩:=hx;obtain⟨ys,hy,dy,rfl,ly⟩:=hy;exact cmp_any _ _ _ _ w hx hy dx dy
def bl (n:Nat):Nat:=(dig 2 n).length
theorem bl_zero:bl 0=0:=by unfold bl;rw[dig_zero];rfl
theorem bl_half {n:Nat} (h:0<n):bl n=1+bl (n / 2):=by unfold bl;rw[dig_pos (by decide) h];simp;omega
theorem bitLen_bl (n:Nat) (h:n<2 ^ 64):Lib.bitLen n=bl n:=by
 induction n using Nat.strongRecOn with
 | ind n ih =>
  by_cases h0:n=0
  ·subst h0;rw[bl_zero];decide
  rw[Lib.bitLen_half n h0 h,bl_half (by omega),ih (n / 2) (by omega) (by omega)]
theorem bl_top (k:Nat):∀ v t:Nat,v<2 ^ k->0<t->bl (v+t*2 ^ k)=k+bl t:=by
 induction k with
 | zero=>intro v t hv ht;simp at hv;subst hv;simp
 | succ k ih =>
  intro v t hv ht;have hp:0<2 ^ (k+1):=Nat.pow_pos (by decide);have hpos:0<v+t*2 ^ (k+1):=by have:=Nat.mul_pos ht hp;omega
  rw[bl_half hpos];have e:(v+t*2 ^ (k+1)) / 2=v / 2+t*2 ^ k:=by rw[Nat.pow_succ,<-Nat.mul_assoc];omega
  rw[e,ih (v / 2) t (by rw[Nat.pow_succ] at hv;omega) ht]
  omega
theorem bl_le {n k:Nat} (h:n<2 ^ k):bl n<=k:=length_dig_le (by decide) h
theorem bits_nat (va:Value) (xs:List Nat) (w:World) (hx:Sl w .u32 va xs) (dx:Dig L32 xs) (lx:xs.length<=1000000) :
  Calls Tryz.prog 105 #[va] w fun e w'=>e=.returned (.int .i64 ((bl (val L32 xs):Nat):Int))/\w=w':=by
 have HX:=Lib.hid hx;obtain⟨ao,ac,rfl,a1,a2,a3,a4⟩:=hx;have nx:=nz_le xs
 by_cases h0:nz xs=0
 ·have hv:val L32 xs=0:=by rw[<-val_take_nz (B:=L32) (by decide) dx,h0];rfl
  have HV:=Lib.hid hv;have hz:(((nz xs:Nat):Int)==0)=true:=by rw[h0];rfl
  clear h0 hv a4;go_enter Tryz.func105,Tryz.ntmps105
  go_wp2_with fail
  refine (sig_any _ _ _ xs _ HX.out).mono ?_;rintro e w' ⟨rfl,rfl⟩;go_wp2_with fail
  go_ret
  exact⟨by rw[HV.out,bl_zero];rfl,rfl⟩
 have hz:(((nz xs:Nat):Int)==0)=false:=by rw[beq_eq_false_iff_ne];omega
 have hp:1<=nz xs:=by omega
 obtain⟨a,rfl,hca⟩:=a4 (nz xs - 1) (by omega);have t1:=dx.getD (by decide) (nz xs - 1);have t2:=u32_wf dx (nz xs - 1);have hl:bl (xs.getD (nz xs - 1) 0)<=32:=bl_le t1
 have hbl:Lib.bitLen (nth xs (nz xs - 1)).toNat=bl (xs.getD (nz xs - 1) 0):=by
  unfold nth;rw[Int.toNat_natCast];exact bitLen_bl _ (Nat.lt_trans t1 (by decide))
 have htop:0<xs.getD (nz xs - 1) 0:=by
  rcases Nat.eq_zero_or_pos (xs.getD (nz xs - 1) 0) with h | h
  ·have h3:=nz_zero (xs:=xs.take (nz xs)) (k:=nz xs - 1) (by rw[List.length_take];omega) (by simpa [List.getD,show nz xs - 1<nz xs by omega] using h);have h5:(dig L32 (val L32 xs)).length=nz xs:=length_dig_val (by decide) dx;have h6:=take_nz (B:=L32) (by decide) (Dig_dig (B:=L32) (by decide) (val L32 xs));rw[val_dig (by decide)] at h6;have h7:=congrArg List.length h6;rw[List.length_take,h5,dig_val_take (by decide) dx] at h7
   have h8:nz ((xs.take (nz xs)).take (nz xs - 1+1))=nz (xs.take (nz xs)):=by
    rw[show nz xs - 1+1=nz xs by omega,List.take_take,Nat.min_self]
   have h9:=nz_le ((xs.take (nz xs)).take (nz xs - 1));rw[List.length_take,List.length_take] at h9
   omega
  exact h
 have hfin:bl (val L32 xs)=(nz xs - 1)*32+bl (xs.getD (nz xs - 1) 0):=by
  have e:=val_take_nz (B:=L32) (by decide) dx;have e2:=val_take_succ' L32 xs (nz xs - 1);rw[show nz xs - 1+1=nz xs by omega] at e2;have e3:L32 ^ (nz xs - 1)=2 ^ ((nz xs - 1)*32):=by rw[Nat.mul_comm,Nat.pow_mul]
  have e4:=val_lt (dx.take (nz xs - 1));rw[List.length_take,Nat.min_eq_left (by omega),e3] at e4;rw[<-e,e2,e3,bl_top _ _ _ e4 htop]
 generalize bl (xs.getD (nz xs - 1) 0)=b at *;have HF:=Lib.hid hfin;have HB:=Lib.hid hbl;clear h0 a4 hbl hfin;go_enter Tryz.func105,Tryz.ntmps105
 go_wp2_with fail
 refine (sig_any _ _ _ xs _ HX.out).mono ?_;rintro e w' ⟨rfl,rfl⟩;go_wp2_with fail
 refine (Tryz.bits_Len32 _ _ (by omega) (by omega)).mono ?_;rintro e w' ⟨rfl,rfl⟩;rw[HB.out];go_wp2_with fail
 go_ret
 refine⟨?_,rfl⟩;rw[HF.out,show (((nz xs - 1)*32+b:Nat):Int)=(((nz xs:Nat):Int) - 1)*32+(b:Int) by omega]
 rfl
theorem bits_n {va:Value} {n k:Nat} {w:World} (hx:GN w va n k) (hk:k<=1000000) :
  Calls Tryz.prog 105 #[va] w fun e w'=>e=.returned (.int .i64 ((bl n:Nat):Int))/\w=w':=by
 obtain⟨xs,hx,dx,rfl,lx⟩:=hx;exact bits_nat _ _ w hx dx (by omega)
theorem getD_set (P:List Nat) (i v t:Nat):(P.set i v).getD t 0=if t=i/\i<P.length then v else P.getD t 0:=by
 by_cases h:t=i
 ·subst h
  by_cases hl:t<P.length
  ·simp[List.getD,hl]
  simp[List.getD,hl]
 rw[List.getD_eq_getElem?_getD,List.getElem?_set_ne (fun e=>h e.symm),<-List.getD_eq_getElem?_getD,if_neg (by simp[h])]
def Keeps (w w':World):Prop:=∀ a k z,w.cell? a=some (.int k z)->w'.cell? a=some (.int k z)
def noInt (c:Array Value):Bool:=c.toList.all fun v=>match v with | .int ..=>false | _=>true
structure Priv (g:Nat) (w w':World):Prop where
 os:w'.os=w.os
 tape:w'.tape=w.tape
 output:w'.output=w.output
 size:w'.heap.size=w.heap.size
 block:∀ k,k≠g->w'.heap[k]?=w.heap[k]?
 keeps:Keeps w w'
 shape:∀ c T,w.heap[g]?=some (.cells c T (0,0))->noInt c=true->∃ c',w'.heap[g]?=some (.cells c' T (0,0))/\c'.size=c.size/\noInt c'=true
theorem cell_at {w:World} {g:Nat} {c:Array Value} {T:TypeId} (h:w.heap[g]?=some (.cells c T (0,0))) (i:Nat) {v:Value} (hv:c[i]?=some v):w.cell? ⟨g,i,none⟩=some v:=by
 rw[cell_of_row w g i _ T (0,0) h];exact hv
theorem froz_at {w:World} {g:Nat} {c:Array Value} {T:TypeId} (h:w.heap[g]?=some (.cells c T (0,0))) (i:Nat):w.frozen? ⟨g,i,none⟩=false:=frozen_of_row w g i _ T h
theorem made_at (W:World) (o:Obj) (g:Nat) (h:W.heap.size=g):(W.alloc o).heap[g]?=some o:=by
 subst h
 show (W.heap.push o)[W.heap.size]?=some o
 simp
theorem made_more {W:World} {g:Nat} {ob:Obj} (h:W.heap[g]?=some ob) (o:Obj):(W.alloc o).heap[g]?=some ob:=by
 rw[Below.heap_alloc W o g (Array.getElem?_eq_some_iff.1 h).1];exact h
namespace Rely
abbrev Fact:=(Nat->Value)->Value->World->Prop
def mask (L:List Nat) (x:Nat->Value):Nat->Value:=fun j=>if L.contains j then x j else undef
def upd (x:Nat->Value) (k:Nat) (v:Value):Nat->Value:=fun j=>if j=k then v else x j
def dstOf (ops:List Oper) (j:Nat):Option Tmp:=(ops[j]?).bind (·.dst)
def dep (D:List (List Nat)) (k:Nat):List Nat:=D.getD k []
def ok (ops:List Oper) (D:List (List Nat)) (m size:Nat):Bool:=
 decide (m<=ops.length) && (List.range ops.length).all fun k =>
  match ops[k]? with
  | none=>false
  | some o =>
   (o.after.all fun e=>!Region.binds .any e || decide (e.on<k)) &&
   ((dep D k).all fun j=>(o.after.any fun e=>Region.binds .any e && (e.on==j || (dep D e.on).contains j)) && ((dep D j).all fun i=>(dep D k).contains i) && decide (j<k)) &&
   (decide (k<m) || (List.range m).all fun j=>(dep D k).contains j) &&
   (match o.dst with | none=>true | some d=>decide (d<size) && (List.range k).all fun j=>dstOf ops j != some d)
def okSt (ops:List Oper) (D:List (List Nat)) (al:List Nat) (st:List (Nat × Nat)) (nq:Nat):Bool:=
 (List.range ops.length).all fun k=>match st.lookup k with
  | none=>true
  | some i=>(if i<1000 then (dep D k).contains i && al.contains i else decide (i - 1000<nq)) && (List.range ops.length).all fun j=>j==k || st.lookup j != some i
def pre (ops:List Oper) (D:List (List Nat)) (k t:Nat):Bool:=
 (List.range ops.length).all fun j=>dstOf ops j != some t || j==k || (dep D j).contains k
def fill:List Oper->(Nat->Value)->Nat->Array Value->Array Value
 | [],_,_,t=>t
 | o::l,x,k,t=>fill l x (k+1) (match o.dst with | some d=>t.setIfInBounds d (x k) | none=>t)
def noQ:Exit->Act->World->Prop:=fun _ _ _=>False
def fact (F:List Fact) (j:Nat):Fact:=(F.reverse[j]?).getD fun _ _ _=>True
section
variable (P:Program) (ops:List Oper) (D:List (List Nat)) (al:List Nat) (st:List (Nat × Nat)) (og:Nat->Nat) (nq:Nat) (t0:Array Value) (ds:List Deferred) (w0:World)
def own (k:Nat):Option Nat:=st.lookup k
def tv (x:Nat->Value) (i:Nat):Value:=if i<1000 then x i else .pointer (some ⟨og (i - 1000),0,none⟩)
structure At (F:Nat->Fact) (k:Nat) (T:Array Value) (x:Nat->Value) (w:World):Prop where
 be:∀ B,B<=w0.heap.size->(∀ q,q<nq->B<=og q)->Below B w0 w
 bl:∀ b,b<w0.heap.size->(∀ q,q<nq->og q≠b)->w.heap[b]?=w0.heap[b]?
 kp:Keeps w0 w
 od:∀ q,q<nq->(∀ k',own st k'=some (1000+q)->k'=k\/(dep D k').contains k=true)->w.heap[og q]?=w0.heap[og q]?
 tm:∀ j d,(dep D k).contains j=true->dstOf ops j=some d->T[d]?=some (x j)
 fa:∀ j,(dep D k).contains j=true->F j (mask (dep D j) x) (x j) w
 pre:∀ t,Rely.pre ops D k t=true->T[t]?=t0[t]?
structure Next (V:Fact) (k:Nat) (x:Nat->Value) (w:World) (v:Value) (w':World):Prop where
 is:V x v w'
 bw:own st k=none->Below w.heap.size w w'
 pv:∀ i,own st k=some i->∃ g,tv og x i=.pointer (some ⟨g,0,none⟩)/\Priv g w w'
 al:al.contains k=true->∃ g,v=.pointer (some ⟨g,0,none⟩)/\w.heap.size<=g/\g<w'.heap.size
def Runs (F:Nat->Fact) (k:Nat) (o:Oper) (V:Fact):Prop:=
 ∀ (T:Array Value) (x:Nat->Value) (w:World),At ops D st og nq t0 w0 F k T x w ->
  ∀ K:Act->World->Prop,Hid (∀ v w',Next al st og V k x w v w'->K ((⟨T,ds⟩:Act).put o.dst v) w') ->
   if Region.wanted o (yielded ops.toArray T)=true then o.wp P ⟨T,ds⟩ w K noQ else K ((⟨T,ds⟩:Act).put o.dst undef) w
def Stays (k:Nat) (V:Fact):Prop:=(∀ x v w w',V x v w->Below w.heap.size w w'->V x v w')/\(st ≠ []->∀ x v w w' g,V x v w->(∀ i,own st k=some i->tv og x i ≠ .pointer (some ⟨g,0,none⟩))->Priv g w w'->V x v w')
def Left (F:Nat->Fact) (m:Nat) (x:Nat->Value) (w:World):Prop:=
 ((∀ B,B<=w0.heap.size->(∀ q,q<nq->B<=og q)->Below B w0 w)/\(∀ b,b<w0.heap.size->(∀ q,q<nq->og q≠b)->w.heap[b]?=w0.heap[b]?)/\Keeps w0 w)/\(∀ j,j<m->F j (mask (dep D j) x) (x j) w) /\
 (∀ i,al.contains i=true->i<m->∃ g,x i=.pointer (some ⟨g,0,none⟩)/\w0.heap.size<=g/\g<w.heap.size) /\
 (∀ i j,al.contains i=true->al.contains j=true->i<m->j<m->i≠j->x i≠x j)
def Chain (m:Nat) (G:(Nat->Value)->World->Prop):List Oper->Nat->List Fact->Prop
 | [],k,F=>k=m/\∀ x w,Left D al og nq w0 (fact F) m x w->G x w
 | o::rest,k,F=>(k=m/\∀ x w,Left D al og nq w0 (fact F) m x w->G x w) \/
  ∃ V,Stays st og k V/\Runs P ops D al st og nq t0 ds w0 (fact F) k o V/\Chain m G rest (k+1) (V::F)
variable {P ops D al st og nq t0 ds w0}
def plain (al:List Nat) (st:List (Nat × Nat)) (k:Nat):Bool:=!al.contains k && (own st k).isNone
theorem wanted_at {o:Oper} {T:Array Value} {g d:Nat} {want b:Bool} (hg:o.guard=some (g,want)) (hd:dstOf ops g=some d) (hT:T[d]?=some (.bool b)):Region.wanted o (yielded ops.toArray T)=(b==want):=by
 have hy:yielded ops.toArray T g=some b:=by
  have hd':(ops.toArray[g]?).bind (·.dst)=some d:=by simpa [dstOf] using hd
  unfold yielded;rw[hd'];simp only[Option.bind_some,hT]
 unfold Region.wanted;rw[hg];simp only[hy]
 cases b<;>cases want<;>rfl
structure Inv (H:Nat->Fact) (m:Nat) (listed:Array Bool) (a:Act) (w:World) (x:Nat->Value):Prop where
 tm:∀ j d,listed.getD j false=true->dstOf ops j=some d->a.tmps[d]?=some (x j)
 pre:∀ t,(∀ j,listed.getD j false=true->dstOf ops j≠some t)->a.tmps[t]?=t0[t]?
 sz:a.tmps.size=t0.size
 df:a.defers=ds
 be:∀ B,B<=w0.heap.size->(∀ q,q<nq->B<=og q)->Below B w0 w
 bl:∀ b,b<w0.heap.size->(∀ q,q<nq->og q≠b)->w.heap[b]?=w0.heap[b]?
 kp:Keeps w0 w
 od:∀ q,q<nq->(∀ k',listed.getD k' false=true->own st k'≠some (1000+q))->w.heap[og q]?=w0.heap[og q]?
 sw:w0.heap.size<=w.heap.size
 ls:listed.size=ops.length
 dn:∀ j,listed.getD j false=true->∀ i,(dep D j).contains i=true->listed.getD i false=true
 lt:∀ j,listed.getD j false=true->j<m
 fa:∀ j,listed.getD j false=true->H j (mask (dep D j) x) (x j) w
 pt:∀ i,al.contains i=true->listed.getD i false=true->∃ g,x i=.pointer (some ⟨g,0,none⟩)/\w0.heap.size<=g/\g<w.heap.size
 ne:∀ i j,al.contains i=true->al.contains j=true->listed.getD i false=true->listed.getD j false=true->i≠j->x i≠x j
section
variable {m size:Nat} (hok:ok ops D m size=true)
include hok
end
section
variable {m:Nat} {Q:Exit->Act->World->Prop} {H:Nat->Fact}
def Rest (P:Program) (ops:List Oper) (Q:Exit->Act->World->Prop) (t0:Array Value) (ds:List Deferred) (m:Nat) (x:Nat->Value) (w:World):Prop:=
 wpAny P .any ops.toArray Q (ops.length - m) (List.replicate m true++List.replicate (ops.length - m) false).toArray ⟨fill (ops.take m) x 0 t0,ds⟩ w
end
end
end Rely
open Classical in
theorem bl_pos {n:Nat} (h:0<n):0<bl n:=by rw[bl_half h];omega
def dn (l:List UInt8):Nat:=l.foldl (fun n c=>10*n+(c.toNat - 48)) 0
def AllD (l:List UInt8):Prop:=∀ c ∈ l,48<=c.toNat/\c.toNat<=57
theorem dn_snoc (l:List UInt8) (c:UInt8):dn (l++[c])=10*dn l+(c.toNat - 48):=by
 unfold dn;rw[List.foldl_append];rfl
theorem digit_of {d:Nat} (h:d<10):(UInt8.ofNat (48+d)).toNat=48+d:=by
 rw[UInt8.toNat_ofNat'];omega
theorem dn_dec (n:Nat):AllD (Lib.decDigits n)/\dn (Lib.decDigits n)=n/\Lib.decDigits n ≠ []/\(0<n->(Lib.decDigits n).getD 0 48≠48):=by
 induction n using Nat.strongRecOn with
 | ind n ih =>
  by_cases h:n<10
  ·rw[Lib.decDigits_one h];refine⟨?_,?_,by simp,?_⟩
   ·intro c hc;obtain rfl:=List.mem_singleton.1 hc;rw[digit_of h];omega
   ·show 10*0+((UInt8.ofNat (48+n)).toNat - 48)=n
    rw[digit_of h];omega
   intro h0 e;have e1:UInt8.ofNat (48+n)=48:=e;have e2:=congrArg UInt8.toNat e1;rw[digit_of h] at e2;have e3:(48:UInt8).toNat=48:=rfl
   omega
  obtain⟨h1,h2,h3,h4⟩:=ih (n / 10) (by omega);have hd:n % 10<10:=by omega
  rw[Lib.decDigits,dif_neg h];refine⟨?_,?_,by simp,?_⟩
  ·intro c hc;rcases List.mem_append.1 hc with hc | hc
   ·exact h1 c hc
   obtain rfl:=List.mem_singleton.1 hc;rw[digit_of hd];omega
  ·rw[dn_snoc,h2,digit_of hd];omega
  intro _;have h5:=h4 (by omega)
  cases hl:Lib.decDigits (n / 10) with
  | nil=>exact absurd hl h3
  | cons a m=>rw[hl] at h5;simpa using h5
end Go.Proofs.YtoncclhbdkjhmaaGreatDoor
namespace Go.Proofs.YtoncclhbdkjhmaaGreatDoor
open Go.RowKit Go.Sort Go.Lib
set_option maxRecDepth 100000
theorem holds_zero0 (w:World) (T:TypeId) (nd:Nat) (hs:nd<=24):Holds (fun (b:UInt8)=>Value.int .u8 (b.toNat:Int)) (w.alloc (.cells Lib.zeros24 T)) w.heap.size 0 (Array.replicate nd (0:UInt8)):=fun j hj=>by
 have hj':j<nd:=by simpa using hj
 refine⟨?_,World.frozen?_alloc_new _ _ _ _⟩;rw[World.cell?_alloc_new,Lib.zeros24_at _ (by omega),getElem!_pos _ j hj]
 simp
theorem below_putRow (w:World) (o:Obj) (dk:Array UInt8) (k:Nat):Below w.heap.size w ((putRow (fun (b:UInt8)=>Value.int .u8 (b.toNat:Int)) (w.alloc o) w.heap.size 0 dk).drewN k):=by
 rw[alloc_eq_grow];obtain⟨os',_,e⟩:=putRow_grow_new (fun (b:UInt8)=>Value.int .u8 (b.toNat:Int)) w #[o] w.heap.size 0 dk (Nat.le_refl _);rw[e];exact⟨rfl,rfl,rfl,by show w.heap.size<=(w.heap++os').size;rw[Array.size_append];omega,fun i hi=>heap_grow_old w os' hi⟩
set_option maxRecDepth 100000 in
theorem fmt65 (u : Nat) (h1 : 100 ≤ u) (hu64 : u < 18446744073709551616) (w : World) (htab : Lib.TabIs Tryz.prog w "internal/strconv.uint64pow10" .u64 Lib.pow10Tab) :
  Calls Tryz.prog 197 #[.int .u64 u,.int .i64 10] w fun e w'=>e=.returned (.string ⟨(Lib.decDigits u).toArray⟩)/\Below w.heap.size w w':=by
 have hnd20:Lib.nDigits u<=20:=by have:=Lib.numDigits_eq u (by omega) hu64;split at this<;>omega
 have hal:Tryz.prog.arrayLen 233=24:=by simp[Program.arrayLen,Tryz.underlying233]
 have hsl1:∀ W,(Instr.sliceAt 233 (.pointer (some ⟨w.heap.size,0,none⟩)) none (some (.int .i64 (Lib.nDigits u:Int))) none).run Tryz.prog W=.ok (.slice (some ⟨w.heap.size,0,none⟩) (Lib.nDigits u) 24) W:=fun W=>by
  rw[run_sliceAt_array_h W 233 ⟨w.heap.size,0,none⟩ (by simp[Program.arrayLen,Program.elem,Tryz.underlying233]) .i64 (Lib.nDigits u:Int) (by omega) (by rw[hal];omega)];go_simp
  try omega
 have hH0:=holds_zero0 w 233 (Lib.nDigits u) (by omega);have hfmt:=Tryz.internal_strconv_formatBase10 w.heap.size 0 24 u (Array.replicate (Lib.nDigits u) 0) (w.alloc (.cells Lib.zeros24 233)) hH0 (by rw[Array.size_replicate];exact Lib.lt_pow_nDigits u) hu64 (by rw[Array.size_replicate];omega);rw[Array.size_replicate] at hfmt;have HH0:=Lib.hid hH0;have HFMT:=Lib.hid hfmt;clear hH0 hal hfmt;go_enter Tryz.func197,Tryz.ntmps197
 go_wp2_with fail
 refine (Tryz.internal_strconv_numDigits u (by omega) hu64 _ (Lib.tabIs_alloc htab _)).mono ?_;rintro e w' ⟨rfl,rfl⟩;go_wp2_with fail
 refine HFMT.out.mono ?_;rintro e w' ⟨rfl,k,v',dk,rfl,hF⟩
 have hcv:(convert 99 9 (.slice (some ⟨w.heap.size,0,none⟩) (Lib.nDigits u) 24)).run Tryz.prog ((putRow (fun (b:UInt8)=>Value.int .u8 (b.toNat:Int)) (w.alloc (.cells Lib.zeros24 233)) w.heap.size 0 dk).drewN k)=.ok (.string ⟨(Lib.decDigits u).toArray⟩) ((putRow (fun (b:UInt8)=>Value.int .u8 (b.toNat:Int)) (w.alloc (.cells Lib.zeros24 233)) w.heap.size 0 dk).drewN k):=by
  have h:=run_convert_bytes_back (P:=Tryz.prog) ((putRow (fun (b:UInt8)=>Value.int .u8 (b.toNat:Int)) (w.alloc (.cells Lib.zeros24 233)) w.heap.size 0 dk).drewN k) 99 9 5 ⟨w.heap.size,0,none⟩ 24 (Lib.decDigits u) Tryz.underlying99 Tryz.underlying5 Tryz.underlying9 (fun j hj=>by
   rw[Lib.row_is_numeral hF j hj,Lib.add_plain,World.cell?_drewN]
   exact cell?_putRow (fun (b:UInt8)=>Value.int .u8 (b.toNat:Int)) _ w.heap.size 0 _ dk HH0.out (by rw[hF.size,Array.size_replicate]) j (by rw[hF.size];rw[Lib.decDigits_length] at hj;exact hj))
  rw[Lib.decDigits_length] at h;exact h
 have HB:=Lib.hid (below_putRow w (.cells Lib.zeros24 233) dk k);go_wp2_with fail
 go_ret
 exact⟨rfl,HB.out⟩
theorem tab_below {w w':World} {name:String} {k:IntKind} {zs:List Int} (h:Lib.TabIs Tryz.prog w name k zs) (hb:Below w.heap.size w w'):Lib.TabIs Tryz.prog w' name k zs:=by
 unfold Lib.TabIs World.var? at *
 cases hg:Tryz.prog.globalNamed name with
 | none=>simp[hg] at h
 | some g =>
  simp only[hg,Option.bind_some] at h ⊢
  have hlt:g<w.heap.size:=by
   rcases Nat.lt_or_ge g w.heap.size with h' | h'
   ·exact h'
   rw[Array.getElem?_eq_none h'] at h;simp at h
  rw[hb.block g hlt];exact h
theorem fmt55 (u : Nat) (hu64 : u < 18446744073709551616) (w : World) (htab : Lib.TabIs Tryz.prog w "internal/strconv.uint64pow10" .u64 Lib.pow10Tab) :
  Calls Tryz.prog 184 #[.int .u64 u,.int .i64 10] w fun e w'=>e=.returned (.string ⟨(Lib.decDigits u).toArray⟩)/\Below w.heap.size w w':=by
 by_cases h:u<100
 ·refine (fmt_small u _ rfl h w).mono ?_;rintro e w' ⟨rfl,rfl⟩;exact⟨rfl,Below.refl _ _⟩
 have HF:=Lib.hid (fmt65 u (by omega) hu64 w htab);clear h htab;go_enter Tryz.func184,Tryz.ntmps184
 go_wp2_with fail
 refine HF.out.mono ?_;rintro e w' ⟨rfl,hb⟩;go_wp2_with fail
 go_ret
 exact⟨rfl,hb⟩
theorem fmtAt {w : World} (htab : Lib.TabIs Tryz.prog w "internal/strconv.uint64pow10" .u64 Lib.pow10Tab) : FmtAt w (fun i => i < 18446744073709551616) :=
 fun w' i z hb hz hi=>by
  subst hz;exact fmt55 i hi w' (tab_below htab hb)
theorem text_any (va : Value) (xs : List Nat) (w : World) (htab : Lib.TabIs Tryz.prog w "internal/strconv.uint64pow10" .u64 Lib.pow10Tab) (hx : Sl w .u32 va xs) (dx : Dig L32 xs) (lx : xs.length ≤ 10000) :
  Calls Tryz.prog 151 #[va] w fun e w'=>e=.returned (.string ⟨(Lib.decDigits (val L32 xs)).toArray⟩)/\Below w.heap.size w w':=
 text_gen _ va xs w (fmtAt htab) hx dx lx (fun g hg _=>by have hG:G9=1000000000:=rfl;show g<18446744073709551616;omega) (fun _ g hg=>by have hG:G9=1000000000:=rfl;show G9+g<18446744073709551616;omega)
end Go.Proofs.YtoncclhbdkjhmaaGreatDoor
namespace Go.Proofs.YtoncclhbdkjhmaaGreatDoor
open Go.RowKit
set_option maxRecDepth 100000
def sg (b:Bool) (n:Nat):Int:=if b then -(n:Int) else (n:Int)
theorem sg_natAbs (b:Bool) (n:Nat):(sg b n).natAbs=n:=by cases b<;>simp[sg]
theorem sg_neg (b:Bool) (n:Nat):decide (sg b n<0)=(b && decide (0<n)):=by
 cases b
 ·simp[sg]
 simp[sg]
def GI (w:World) (v:Value) (z:Int) (k:Nat):Prop:=∃ b va n,v=.agg #[.bool b,va]/\GN w va n k/\z=sg b n
def CI (w:World) (v:Value) (z:Int) (k:Nat):Prop:=∃ va,v=.agg #[.bool (decide (z<0)),va]/\Sl w .u32 va (dig L32 z.natAbs)/\z.natAbs<L32 ^ k
theorem GI.below {w w':World} {v:Value} {z:Int} {k:Nat} (h:GI w v z k) (hb:Below w.heap.size w w'):GI w' v z k:=by
 obtain⟨b,va,n,rfl,h,rfl⟩:=h;exact⟨b,va,n,rfl,h.below hb,rfl⟩
theorem CI.below {w w':World} {v:Value} {z:Int} {k:Nat} (h:CI w v z k) (hb:Below w.heap.size w w'):CI w' v z k:=by
 obtain⟨va,rfl,h,h2⟩:=h;exact⟨va,rfl,h.below hb,h2⟩
theorem CI.gi {w:World} {v:Value} {z:Int} {k:Nat} (h:CI w v z k):GI w v z k:=by
 obtain⟨va,rfl,h,h2⟩:=h;refine⟨_,va,_,rfl,gn_dig h h2,?_⟩;unfold sg
 by_cases hz:z<0
 ·rw[if_pos (by simpa using hz)];omega
 rw[if_neg (by simpa using hz)];omega
theorem ci_mk {w:World} {b:Bool} {n k:Nat} {va:Value} (h:Sl w .u32 va (dig L32 n)) (hn:n<L32 ^ k):CI w (.agg #[.bool (b && decide (0<n)),va]) (sg b n) k:=
 ⟨va,by rw[sg_neg],by rw[sg_natAbs];exact h,by rw[sg_natAbs];exact hn⟩
theorem dig_len_pos {n:Nat}:0<n->0<(dig L32 n).length:=fun h=>by
 rcases Nat.eq_zero_or_pos (dig L32 n).length with h0 | h0
 ·have:=val_dig (B:=L32) (by decide) n;rw[List.eq_nil_of_length_eq_zero h0] at this
  simp[val] at this;omega
 exact h0
theorem signed_any (b:Bool) (va:Value) (n k:Nat) (w:World) (hs:Sl w .u32 va (dig L32 n)) (hn:n<L32 ^ k) :
  Calls Tryz.prog 90 #[.bool b,va] w fun e w'=>∃ v,e=.returned v/\CI w' v (sg b n) k/\Below w.heap.size w w':=by
 have hci:∀ w' B,B=(b && decide (0<n))->Below w.heap.size w w'->CI w' (.agg #[.bool B,va]) (sg b n) k:=fun w' B e hb=>by subst e;exact ci_mk (hs.below hb) hn
 obtain⟨ao,ac,rfl⟩:=sl_shape hs;have HS:=Lib.hid hci;clear hci hs hn
 cases b
 ·go_enter Tryz.func90,Tryz.ntmps90
  go_wp2
  exact bodyPost_ret (v:=.agg #[.bool false,.slice ao (dig L32 n).length ac]) (by simp[results,Tryz.results90,go_sem]) rfl ⟨_,rfl,HS.out _ _ rfl ((Below.refl _ _).alloc (Nat.le_refl _) _),(Below.refl _ _).alloc (Nat.le_refl _) _⟩
 by_cases h0:0<n
 ·have hl:=dig_len_pos h0;have HD:=Lib.hid (show true=(true && decide (0<n)) by simp[h0]);go_enter Tryz.func90,Tryz.ntmps90
  go_wp2
  exact bodyPost_ret (v:=.agg #[.bool true,.slice ao (dig L32 n).length ac]) (by simp[results,Tryz.results90,go_sem]) rfl ⟨_,rfl,HS.out _ _ HD.out ((Below.refl _ _).alloc (Nat.le_refl _) _),(Below.refl _ _).alloc (Nat.le_refl _) _⟩
 obtain rfl:n=0:=by omega
 have HD:=Lib.hid (show false=(true && decide (0<0)) by simp);have hl:(dig L32 0).length<=0:=by rw[dig_zero];exact Nat.le_refl _
 have hd:decide (0<(dig L32 0).length)=false:=by rw[decide_eq_false_iff_not];omega
 go_enter Tryz.func90,Tryz.ntmps90
 go_wp2
 exact bodyPost_ret (v:=.agg #[.bool false,.slice ao (dig L32 0).length ac]) (by simp[results,Tryz.results90,go_sem]) rfl ⟨_,rfl,HS.out _ _ HD.out ((Below.refl _ _).alloc (Nat.le_refl _) _),(Below.refl _ _).alloc (Nat.le_refl _) _⟩
theorem GN.shape {w:World} {v:Value} {n k:Nat} (h:GN w v n k):∃ ao l c,v=.slice ao l c/\l<=k:=by
 obtain⟨xs,h,_,_,hk⟩:=h;obtain⟨ao,c,rfl⟩:=sl_shape h;exact⟨ao,_,c,rfl,hk⟩
theorem trim_n {va:Value} {n k:Nat} {w:World} (hx:GN w va n k) (hk:k<=1000000) :
  Calls Tryz.prog 110 #[va] w fun e w'=>∃ v,e=.returned v/\Sl w' .u32 v (dig L32 n)/\Below w.heap.size w w':=by
 obtain⟨xs,hx,dx,rfl,lx⟩:=hx;exact (trim_any _ xs w hx dx (by omega)).mono fun _ _ ⟨v,he,hs,hb⟩=>⟨v,he,hs.sl,hb⟩
theorem CI.shape {w:World} {v:Value} {z:Int} {k:Nat} (h:CI w v z k):∃ b ao l c,v=.agg #[.bool b,.slice ao l c]:=by
 obtain⟨va,rfl,h,_⟩:=h;obtain⟨ao,c,rfl⟩:=sl_shape h;exact⟨_,ao,_,c,rfl⟩
theorem GI.shape {w:World} {v:Value} {z:Int} {k:Nat} (h:GI w v z k):∃ b ao l c n,v=.agg #[.bool b,.slice ao l c]/\GN w (.slice ao l c) n k/\z=sg b n:=by
 obtain⟨b,va,n,rfl,h,rfl⟩:=h;obtain⟨ao,l,c,rfl,_⟩:=h.shape;exact⟨b,ao,l,c,n,rfl,h,rfl⟩
theorem two_cells {w:World} {g:Nat} {T:TypeId} {a b:Value} (h:w.heap[g]?=some (.cells #[a,b] T (0,0))) :
  w.cell? ⟨g,0,none⟩=some a/\w.cell? ⟨g,1,none⟩=some b/\w.frozen? ⟨g,0,none⟩=false/\w.frozen? ⟨g,1,none⟩=false:=
 ⟨by rw[cell_of_row w g 0 _ T (0,0) h];rfl,by rw[cell_of_row w g 1 _ T (0,0) h];rfl,frozen_of_row w g 0 _ T h,frozen_of_row w g 1 _ T h⟩
theorem Sl.set {w:World} {k:IntKind} {v:Value} {xs:List Nat} (h:Sl w k v xs) {p:Addr} {u:Value} (hc:w.cell? p=some u) (hu:∀ k z,u ≠ .int k z) (x:Value):Sl (w.setCell p x) k v xs:=by
 obtain⟨ao,cap,rfl,h1,h2,h3,h4⟩:=h;refine⟨ao,cap,rfl,h1,h2,h3,fun i hi=>?_⟩;obtain⟨a,ha,hq⟩:=h4 i hi;refine⟨a,ha,?_⟩;rw[World.cell?_setCell_other w p (a.add i) x (fun e=>by rw[<-e,hc] at hq;injection hq with hq;exact hu _ _ hq)];exact hq
theorem Sl.set2 {w:World} {k:IntKind} {v:Value} {xs:List Nat} (h:Sl w k v xs) {g:Nat} {T:TypeId} {b0:Bool} {a0:Option Addr} {n0 c0:Nat} (hB:w.heap[g]?=some (.cells #[.bool b0,.slice a0 n0 c0] T (0,0))) (x y:Value) :
  Sl ((w.setCell ⟨g,0,none⟩ x).setCell ⟨g,1,none⟩ y) k v xs:=by
 obtain⟨q0,q1,_,_⟩:=two_cells hB;refine (h.set q0 (by intro k z e;cases e) x).set (u:=.slice a0 n0 c0) ?_ (by intro k z e;cases e) y;rw[World.cell?_setCell_other w _ _ x (by intro e;injection e with _ e;omega)];exact q1
theorem CI.set2 {w:World} {v:Value} {z:Int} {k:Nat} (h:CI w v z k) {g:Nat} {T:TypeId} {b0:Bool} {a0:Option Addr} {n0 c0:Nat} (hB:w.heap[g]?=some (.cells #[.bool b0,.slice a0 n0 c0] T (0,0))) (x y:Value) :
  CI ((w.setCell ⟨g,0,none⟩ x).setCell ⟨g,1,none⟩ y) v z k:=by
 obtain⟨va,rfl,h,h2⟩:=h;exact⟨va,rfl,h.set2 hB x y,h2⟩
theorem below_set2 {B:Nat} {w w':World} (h:Below B w w') (hB:B<=w.heap.size) (x y:Value):Below B w ((w'.setCell ⟨w.heap.size,0,none⟩ x).setCell ⟨w.heap.size,1,none⟩ y):=
 (h.setCell (by simpa using hB) _).setCell (by simpa using hB) _
theorem big_any (b:Bool) (va:Value) (n k:Nat) (w:World) (hx:GN w va n k) (hk:k<=1000000) :
  Calls Tryz.prog 58 #[.bool b,va] w fun e w'=>∃ v,e=.returned v/\CI w' v (sg b n) k/\Below w.heap.size w w':=by
 have hn:=hx.lt;have hx':=hx;obtain⟨ao,l,c,rfl,hl⟩:=hx.shape;go_enter Tryz.func58,Tryz.ntmps58
 go_wp2_with fail
 refine (trim_n (hx'.below ((Below.refl _ _).alloc (Nat.le_refl _) _)) hk).mono ?_;rintro e w1 ⟨v1,rfl,s1,hb1⟩;have hB1:=(hb1.block w.heap.size (by simp)).trans (heap_alloc_new w _);have hb1t:Below w.heap.size w w1:=((Below.refl _ _).alloc (Nat.le_refl _) _).trans (hb1.mono (by simp));go_wp2_with fail
 refine (signed_any b v1 n k w1 s1 hn).mono ?_;rintro e w2 ⟨v2,rfl,c2,hb2⟩;have hB2:=(hb2.block w.heap.size (lt_of_block hB1)).trans hB1;have hb2t:Below w.heap.size w w2:=hb1t.trans (hb2.mono hb1t.size);obtain⟨bb,bo,bl,bc,rfl⟩:=c2.shape;obtain⟨q0,q1,f0,f1⟩:=two_cells hB2;have HB:=Lib.hid hB2;clear hB1 hB2;go_wp2_with fail
 exact bodyPost_ret (v:=.agg #[.bool bb,.slice bo bl bc]) (by simp[results,Tryz.results58,go_sem,q0,q1]) rfl ⟨_,rfl,c2.set2 HB.out _ _,below_set2 hb2t (Nat.le_refl _) _ _⟩
theorem mul_d {va vb:Value} {m n k1 k2:Nat} {w:World} (hx:GN w va m k1) (hy:GN w vb n k2) (h1:k1<=1000000) (h2:k2<=1000000) :
  Calls Tryz.prog 99 #[va,vb] w fun e w'=>∃ v,e=.returned v/\Sl w' .u32 v (dig L32 (m*n))/\Below w.heap.size w w':=by
 obtain⟨xs,hx,dx,rfl,lx⟩:=hx;obtain⟨ys,hy,dy,rfl,ly⟩:=hy;exact mul_any _ _ _ _ w hx hy dx dy (by omega) (by omega)
theorem add_d {va vb:Value} {m n k1 k2:Nat} {w:World} (hx:GN w va m k1) (hy:GN w vb n k2) (h1:k1<=1000000) (h2:k2<=1000000) :
  Calls Tryz.prog 97 #[va,vb] w fun e w'=>∃ v,e=.returned v/\Sl w' .u32 v (dig L32 (m+n))/\Below w.heap.size w w':=by
 obtain⟨xs,hx,dx,rfl,lx⟩:=hx;obtain⟨ys,hy,dy,rfl,ly⟩:=hy;exact add_any _ _ _ _ w hx hy dx dy (by omega) (by omega)
theorem GN.drew {w:World} {v:Value} {n k:Nat} (h:GN w v n k):GN w.drew v n k:=h
theorem GN.alloc {w:World} {v:Value} {n k:Nat} (h:GN w v n k) (o:Obj):GN (w.alloc o) v n k:=h.below ((Below.refl _ _).alloc (Nat.le_refl _) _)
theorem undrew {B:Nat} {w w1:World} (h:Below B w.drew w1):Below B w w1:=⟨h.os,h.tape,h.output,h.size,h.block⟩
theorem blocks2 {w w1:World} {T1 T2:TypeId} {c1 c2:Array Value} (hb:Below (w.heap.size+2) ((w.alloc (.cells c1 T1)).alloc (.cells c2 T2)) w1) :
  w1.heap[w.heap.size]?=some (.cells c1 T1 (0,0))/\w1.heap[w.heap.size+1]?=some (.cells c2 T2 (0,0)):=by
 have h1:=heap_alloc_new (w.alloc (.cells c1 T1)) (.cells c2 T2);refine⟨(hb.block _ (by omega)).trans ?_,(hb.block _ (by omega)).trans (by simpa using h1)⟩;rw[Below.heap_alloc _ _ _ (by simp)];exact heap_alloc_new w _
theorem blocks3 {w w1:World} {T1 T2 T3:TypeId} {c1 c2 c3:Array Value} (hb:Below (w.heap.size+3) (((w.alloc (.cells c1 T1)).alloc (.cells c2 T2)).alloc (.cells c3 T3)) w1) :
  w1.heap[w.heap.size]?=some (.cells c1 T1 (0,0))/\w1.heap[w.heap.size+1]?=some (.cells c2 T2 (0,0))/\w1.heap[w.heap.size+2]?=some (.cells c3 T3 (0,0)):=by
 have h1:=heap_alloc_new ((w.alloc (.cells c1 T1)).alloc (.cells c2 T2)) (.cells c3 T3);obtain⟨a,b⟩:=blocks2 (Below.refl (w.heap.size+2) ((w.alloc (.cells c1 T1)).alloc (.cells c2 T2)));refine⟨(hb.block _ (by omega)).trans ?_,(hb.block _ (by omega)).trans ?_,(hb.block _ (by omega)).trans (by simpa using h1)⟩
 ·rw[Below.heap_alloc _ _ _ (by simp;omega)];exact a
 rw[Below.heap_alloc _ _ _ (by simp)];exact b
theorem below2 (w:World) (o1 o2:Obj):Below w.heap.size w ((w.alloc o1).alloc o2):=((Below.refl _ _).alloc (Nat.le_refl _) _).alloc (by simp) _
theorem below3 (w:World) (o1 o2 o3:Obj):Below w.heap.size w (((w.alloc o1).alloc o2).alloc o3):=(below2 w o1 o2).alloc (by simp;omega) _
theorem below_setg {B g:Nat} {w w':World} (h:Below B w w') (hB:B<=g) (x y:Value):Below B w ((w'.setCell ⟨g,0,none⟩ x).setCell ⟨g,1,none⟩ y):=
 (h.setCell (by simpa using hB) _).setCell (by simpa using hB) _
theorem far2 {w:World} {g g' o:Nat} {x y:Value} (h:g'≠g):((w.setCell ⟨g,0,none⟩ x).setCell ⟨g,1,none⟩ y).cell? ⟨g',o,none⟩=w.cell? ⟨g',o,none⟩:=by
 rw[World.cell?_setCell_other _ _ _ _ (by intro e;injection e with e;omega),World.cell?_setCell_other _ _ _ _ (by intro e;injection e with e;omega)]
theorem sg_mul (a b:Bool) (m n:Nat):sg a m*sg b n=sg (a != b) (m*n):=by
 cases a<;>cases b<;>simp[sg,Int.neg_mul,Int.mul_neg]
theorem wmul_any (va vb:Value) (y z:Int) (k1 k2:Nat) (w:World) (hx:GI w va y k1) (hy:GI w vb z k2) (h1:k1<=1000000) (h2:k2<=1000000) :
  Calls Tryz.prog 48 #[va,vb] w fun e w'=>∃ v,e=.returned v/\CI w' v (y*z) (k1+k2)/\Below w.heap.size w w':=by
 obtain⟨b,ao,l,c,m,rfl,hg,rfl⟩:=hx.shape;obtain⟨d,po,pl,pc,n,rfl,hg2,rfl⟩:=hy.shape;have hn:m*n<L32 ^ (k1+k2):=by rw[Nat.pow_add];exact Nat.mul_lt_mul'' hg.lt hg2.lt
 rw[sg_mul];have hW:=below3 w (.cells #[.bool b,.slice ao l c] 26) (.cells #[.bool d,.slice po pl pc] 26) (.cells #[.bool false,.slice none 0 0] 26);go_enter Tryz.func48,Tryz.ntmps48
 go_wp2_with fail
 go_region_held3 (fun w'=>w'.cell? ⟨w.heap.size,0,none⟩=some (.bool b)/\w'.cell? ⟨w.heap.size,1,none⟩=some (.slice ao l c)/\w'.cell? ⟨w.heap.size+1,0,none⟩=some (.bool d)/\w'.cell? ⟨w.heap.size+1,1,none⟩=some (.slice po pl pc))
  (first | exact⟨kc0,kc1,kd0,kd1⟩ | exact⟨(far2 (by omega)).trans kc0,(far2 (by omega)).trans kc1,(far2 (by omega)).trans kd0,(far2 (by omega)).trans kd1⟩ | go_keep)
  (first
   | (go_at_call 99;refine (mul_d (((hg.alloc _).alloc _).alloc _).drew (((hg2.alloc _).alloc _).alloc _).drew h1 h2).mono ?_;rintro e w2 ⟨v2,rfl,s2,hb2⟩;have hk2:=blocks3 (undrew (hb2.mono (by simp)));have hb2t:=hW.trans (undrew (hb2.mono (by simp;omega)));clear hb2;obtain⟨kc0,kc1,_,_⟩:=two_cells hk2.1;obtain⟨kd0,kd1,_,_⟩:=two_cells hk2.2.1)
   | (
     go_at_call 90;refine (signed_any _ v2 _ (k1+k2) w2 s2 hn).mono ?_;rintro e w3 ⟨v3,rfl,c3,hb3⟩;obtain⟨bb,bo,bl,bc,rfl⟩:=c3.shape
     have hk0:=(hb3.block _ (lt_of_block hk2.1)).trans hk2.1;have hk1:=(hb3.block _ (lt_of_block hk2.2.1)).trans hk2.2.1;have hk3:=(hb3.block _ (lt_of_block hk2.2.2)).trans hk2.2.2;have hb3t:=hb2t.trans (hb3.mono hb2t.size);clear hb3 hk2 hb2t kc0 kc1 kd0 kd1
     obtain⟨kc0,kc1,_,_⟩:=two_cells hk0;obtain⟨kd0,kd1,_,_⟩:=two_cells hk1;obtain⟨q0,q1,f0,f1⟩:=two_cells hk3;have HB:=Lib.hid hk3;clear hk0 hk1 hk3))
 go_wp2_with fail
 exact bodyPost_ret (v:=.agg #[.bool bb,.slice bo bl bc]) (by simp[results,Tryz.results48,go_sem,q0,q1]) rfl ⟨_,rfl,c3.set2 HB.out _ _,below_setg hb3t (by omega) _ _⟩
theorem bl_eq0 {n:Nat}:bl n=0 ↔ n=0:=⟨fun h=>by rcases Nat.eq_zero_or_pos n with h0 | h0;exact h0;exact absurd h (by have:=bl_pos h0;omega),fun h=>by rw[h,bl_zero]⟩
def sgnZ (z:Int):Int:=if z=0 then 0 else if z<0 then -1 else 1
theorem wsign_any (va:Value) (z:Int) (k:Nat) (w:World) (hx:GI w va z k) (hk:k<=1000000) :
  Calls Tryz.prog 51 #[va] w fun e w'=>e=.returned (.int .i64 (sgnZ z))/\Below w.heap.size w w':=by
 obtain⟨b,ao,l,c,n,rfl,hg,rfl⟩:=hx.shape
 by_cases h0:n=0
 ·subst h0;have HB:=Lib.hid (show sgnZ (sg b 0)=0 by cases b<;>simp[sgnZ,sg]);have hz:(((bl 0:Nat):Int)==0)=true:=by rw[bl_zero];rfl
  go_enter Tryz.func51,Tryz.ntmps51
  go_wp2_with fail
  refine (bits_n (hg.alloc _) hk).mono ?_;rintro e w3 ⟨rfl,rfl⟩;go_wp2_with fail
  go_ret
  exact⟨by rw[HB.out];rfl,(Below.refl _ _).alloc (Nat.le_refl _) _⟩
 have hz:(((bl n:Nat):Int)==0)=false:=by rw[beq_eq_false_iff_ne];have:=mt bl_eq0.1 h0;omega
 have hp:0<n:=by omega
 cases b
 ·have HB:=Lib.hid (show sgnZ (sg false n)=1 by unfold sgnZ sg;simp only[Bool.false_eq_true,if_false];rw[if_neg (by omega),if_neg (by omega)]);go_enter Tryz.func51,Tryz.ntmps51
  go_wp2_with fail
  refine (bits_n (hg.alloc _) hk).mono ?_;rintro e w3 ⟨rfl,rfl⟩;go_wp2_with fail
  go_ret
  exact⟨by rw[HB.out];rfl,(Below.refl _ _).alloc (Nat.le_refl _) _⟩
 have HB:=Lib.hid (show sgnZ (sg true n) = -1 by unfold sgnZ sg;simp only[if_true];rw[if_neg (by omega),if_pos (by omega)]);go_enter Tryz.func51,Tryz.ntmps51
 go_wp2_with fail
 refine (bits_n (hg.alloc _) hk).mono ?_;rintro e w3 ⟨rfl,rfl⟩;go_wp2_with fail
 go_ret
 exact⟨by rw[HB.out];rfl,(Below.refl _ _).alloc (Nat.le_refl _) _⟩
theorem sub_d {va vb:Value} {m n k1 k2:Nat} {w:World} (hx:GN w va m k1) (hy:GN w vb n k2) (h1:k1<=1000000) (hle:n<=m) :
  Calls Tryz.prog 98 #[va,vb] w fun e w'=>∃ v,e=.returned (.tuple #[v,.bool true])/\Sl w' .u32 v (dig L32 (m - n))/\Below w.heap.size w w':=by
 obtain⟨xs,hx,dx,rfl,lx⟩:=hx;obtain⟨ys,hy,dy,rfl,ly⟩:=hy;exact sub_ge _ _ _ _ w hx hy dx dy (by omega) hle
theorem sub_no {va vb:Value} {m n k1 k2:Nat} {w:World} (hx:GN w va m k1) (hy:GN w vb n k2) (hlt:m<n) :
  Calls Tryz.prog 98 #[va,vb] w fun e w'=>e=.returned (.tuple #[.slice none 0 0,.bool false])/\Below w.heap.size w w':=by
 obtain⟨xs,hx,dx,rfl,lx⟩:=hx;obtain⟨ys,hy,dy,rfl,ly⟩:=hy;exact sub_lt _ _ _ _ w hx hy dx dy hlt
theorem lt_pow_more {m k k':Nat} (h:m<L32 ^ k) (hk:k<=k'):m<L32 ^ k':=Nat.lt_of_lt_of_le h (Nat.pow_le_pow_right (by decide) hk)
theorem sg_add (b:Bool) (m n:Nat):sg b m+sg b n=sg b (m+n):=by
 cases b<;>simp[sg];omega
theorem sg_sub1 {b d:Bool} (h:b≠d) {m n:Nat} (hle:n<=m):sg b m+sg d n=sg b (m - n):=by
 cases b<;>cases d<;>simp[sg] at *<;>omega
theorem sg_sub2 {b d:Bool} (h:b≠d) {m n:Nat} (hle:m<=n):sg b m+sg d n=sg d (n - m):=by
 cases b<;>cases d<;>simp[sg] at *<;>omega
theorem wadd_any (va vb:Value) (y z:Int) (k1 k2:Nat) (w:World) (hx:GI w va y k1) (hy:GI w vb z k2) (h1:k1<=1000000) (h2:k2<=1000000) :
  Calls Tryz.prog 47 #[va,vb] w fun e w'=>∃ v,e=.returned v/\CI w' v (y+z) (k1+k2+1)/\Below w.heap.size w w':=by
 obtain⟨b,ao,l,c,m,rfl,hg,rfl⟩:=hx.shape;obtain⟨d,po,pl,pc,n,rfl,hg2,rfl⟩:=hy.shape;have hlm:=hg.lt;have hln:=hg2.lt;have hW:=below3 w (.cells #[.bool b,.slice ao l c] 26) (.cells #[.bool d,.slice po pl pc] 26) (.cells #[.bool false,.slice none 0 0] 26)
 by_cases hbd:b=d
 ·subst hbd;have hn:=pow_add_lt hlm hln;rw[sg_add];have heq:(b==b)=true:=by cases b<;>rfl
  go_enter Tryz.func47,Tryz.ntmps47
  go_wp2_with fail
  go_region_held3 (fun w'=>w'.cell? ⟨w.heap.size,0,none⟩=some (.bool b)/\w'.cell? ⟨w.heap.size,1,none⟩=some (.slice ao l c)/\w'.cell? ⟨w.heap.size+1,1,none⟩=some (.slice po pl pc))
   (first | exact⟨kc0,kc1,kd1⟩ | exact⟨(far2 (by omega)).trans kc0,(far2 (by omega)).trans kc1,(far2 (by omega)).trans kd1⟩ | go_keep)
   (first
    | (go_at_call 97;refine (add_d (((hg.alloc _).alloc _).alloc _).drew (((hg2.alloc _).alloc _).alloc _).drew h1 h2).mono ?_;rintro e w2 ⟨v2,rfl,s2,hb2⟩;have hk2:=blocks3 (undrew (hb2.mono (by simp)));have hb2t:=hW.trans (undrew (hb2.mono (by simp;omega)));clear hb2;obtain⟨kc0,kc1,_,_⟩:=two_cells hk2.1;obtain⟨kd0,kd1,_,_⟩:=two_cells hk2.2.1)
    | (
      go_at_call 90;refine (signed_any _ v2 _ (k1+k2+1) w2 s2 hn).mono ?_;rintro e w3 ⟨v3,rfl,c3,hb3⟩;obtain⟨bb,bo,bl,bc,rfl⟩:=c3.shape
      have hk0:=(hb3.block _ (lt_of_block hk2.1)).trans hk2.1;have hk1:=(hb3.block _ (lt_of_block hk2.2.1)).trans hk2.2.1;have hk3:=(hb3.block _ (lt_of_block hk2.2.2)).trans hk2.2.2;have hb3t:=hb2t.trans (hb3.mono hb2t.size);clear hb3 hk2 hb2t kc0 kc1 kd0 kd1
      obtain⟨kc0,kc1,_,_⟩:=two_cells hk0;obtain⟨kd0,kd1,_,_⟩:=two_cells hk1;obtain⟨q0,q1,f0,f1⟩:=two_cells hk3;have HB:=Lib.hid hk3;clear hk0 hk1 hk3))
  go_wp2_with fail
  exact bodyPost_ret (v:=.agg #[.bool bb,.slice bo bl bc]) (by simp[results,Tryz.results47,go_sem,q0,q1]) rfl ⟨_,rfl,c3.set2 HB.out _ _,below_setg hb3t (by omega) _ _⟩
 have heq:(b==d)=false:=by cases b<;>cases d<;>simp at hbd ⊢
 by_cases hle:n<=m
 ·have hn:m - n<L32 ^ (k1+k2+1):=lt_pow_more (k:=k1) (by omega) (by omega);rw[sg_sub1 hbd hle];clear hbd;go_enter Tryz.func47,Tryz.ntmps47
  go_wp2_with fail
  refine (sub_d (((hg.alloc _).alloc _).alloc _) (((hg2.alloc _).alloc _).alloc _) h1 hle).mono ?_;rintro e w2 ⟨v2,rfl,s2,hb2⟩;have hk2:=blocks3 (hb2.mono (by simp));have hb2t:=hW.trans (hb2.mono (by simp;omega));clear hb2;obtain⟨kc0,kc1,_,_⟩:=two_cells hk2.1;obtain⟨kd0,kd1,_,_⟩:=two_cells hk2.2.1;have HK:=Lib.hid hk2.2.2;clear hk2;obtain⟨vo,vc,rfl⟩:=sl_shape s2;go_wp2_with fail
  refine (signed_any _ _ _ (k1+k2+1) w2 s2 hn).mono ?_;rintro e w3 ⟨v3,rfl,c3,hb3⟩;obtain⟨bb,bo,bl,bc,rfl⟩:=c3.shape;have hk3:=(hb3.block _ (lt_of_block HK.out)).trans HK.out;have hb3t:=hb2t.trans (hb3.mono hb2t.size);clear hb3 hb2t kc0 kc1 kd0 kd1;obtain⟨q0,q1,f0,f1⟩:=two_cells hk3;have HB:=Lib.hid hk3;clear hk3;go_wp2_with fail
  exact bodyPost_ret (v:=.agg #[.bool bb,.slice bo bl bc]) (by simp[results,Tryz.results47,go_sem,q0,q1]) rfl ⟨_,rfl,c3.set2 HB.out _ _,below_setg hb3t (by omega) _ _⟩
 have hn:n - m<L32 ^ (k1+k2+1):=lt_pow_more (k:=k2) (by omega) (by omega);have hlt:m<n:=by omega
 have hle2:m<=n:=by omega
 rw[sg_sub2 hbd hle2];clear hbd hle;go_enter Tryz.func47,Tryz.ntmps47
 go_wp2_with fail
 refine (sub_no (((hg.alloc _).alloc _).alloc _) (((hg2.alloc _).alloc _).alloc _) hlt).mono ?_;rintro e w2 ⟨rfl,hb2⟩;have hk2:=blocks3 (hb2.mono (by simp));have hb2t:=hW.trans (hb2.mono (by simp;omega));clear hb2;obtain⟨kc0,kc1,_,_⟩:=two_cells hk2.1;obtain⟨kd0,kd1,_,_⟩:=two_cells hk2.2.1;have HK:=Lib.hid hk2;clear hk2;go_wp2_with fail
 refine (sub_d (hg2.below hb2t) (hg.below hb2t) h2 hle2).mono ?_;rintro e w4 ⟨v4,rfl,s4,hb4⟩;have hk0:=(hb4.block _ (lt_of_block HK.out.1)).trans HK.out.1;have hk1:=(hb4.block _ (lt_of_block HK.out.2.1)).trans HK.out.2.1;have hk2:=(hb4.block _ (lt_of_block HK.out.2.2)).trans HK.out.2.2;have hb4t:=hb2t.trans (hb4.mono hb2t.size);clear hb4 kc0 kc1 kd0 kd1;obtain⟨kc0,kc1,_,_⟩:=two_cells hk0;obtain⟨kd0,kd1,_,_⟩:=two_cells hk1;have HK2:=Lib.hid hk2;clear hk0 hk1 hk2;obtain⟨vo,vc,rfl⟩:=sl_shape s4;go_wp2_with fail
 refine (signed_any _ _ _ (k1+k2+1) w4 s4 hn).mono ?_;rintro e w3 ⟨v3,rfl,c3,hb3⟩;obtain⟨bb,bo,bl,bc,rfl⟩:=c3.shape;have hk3:=(hb3.block _ (lt_of_block HK2.out)).trans HK2.out;have hb3t:=hb4t.trans (hb3.mono hb4t.size);clear hb3 hb4t hb2t kc0 kc1 kd0 kd1;obtain⟨q0,q1,f0,f1⟩:=two_cells hk3;have HB:=Lib.hid hk3;clear hk3;go_wp2_with fail
 exact bodyPost_ret (v:=.agg #[.bool bb,.slice bo bl bc]) (by simp[results,Tryz.results47,go_sem,q0,q1]) rfl ⟨_,rfl,c3.set2 HB.out _ _,below_setg hb3t (by omega) _ _⟩
theorem GI.alloc {w:World} {v:Value} {z:Int} {k:Nat} (h:GI w v z k) (o:Obj):GI (w.alloc o) v z k:=h.below ((Below.refl _ _).alloc (Nat.le_refl _) _)
theorem gi_mk {w:World} {va:Value} {n k:Nat} (h:GN w va n k) (b:Bool):GI w (.agg #[.bool b,va]) (sg b n) k:=⟨b,va,n,rfl,h,rfl⟩
theorem wsub_any (va vb:Value) (y z:Int) (k1 k2:Nat) (w:World) (hx:GI w va y k1) (hy:GI w vb z k2) (h1:k1<=1000000) (h2:k2<=1000000) :
  Calls Tryz.prog 79 #[va,vb] w fun e w'=>∃ v,e=.returned v/\CI w' v (y - z) (k1+k2+1)/\Below w.heap.size w w':=by
 obtain⟨b,ao,l,c,m,rfl,hg,rfl⟩:=hx.shape;obtain⟨d,po,pl,pc,n,rfl,hg2,rfl⟩:=hy.shape;have hW:=below3 w (.cells #[.bool b,.slice ao l c] 26) (.cells #[.bool d,.slice po pl pc] 26) (.cells #[.bool false,.slice none 0 0] 26);rw[show sg b m - sg d n=sg b m+sg (!d) n by cases d<;>simp[sg]<;>omega];go_enter Tryz.func79,Tryz.ntmps79
 go_wp2_with fail
 refine (wadd_any _ _ _ _ k1 k2 _ (((hx.alloc _).alloc _).alloc _) (gi_mk (((hg2.alloc _).alloc _).alloc _) (!d)) h1 h2).mono ?_;rintro e w3 ⟨v3,rfl,c3,hb3⟩;obtain⟨bb,bo,bl,bc,rfl⟩:=c3.shape;have hk3:=(blocks3 (hb3.mono (by simp))).2.2;have hb3t:=hW.trans (hb3.mono (by simp;omega));clear hb3;obtain⟨q0,q1,f0,f1⟩:=two_cells hk3;have HB:=Lib.hid hk3;clear hk3;go_wp2_with fail
 exact bodyPost_ret (v:=.agg #[.bool bb,.slice bo bl bc]) (by simp[results,Tryz.results79,go_sem,q0,q1]) rfl ⟨_,rfl,c3.set2 HB.out _ _,below_setg hb3t (by omega) _ _⟩
theorem compare_any (a b:Int) (w:World):Calls Tryz.prog 95 #[.int .i64 a,.int .i64 b] w fun e w'=>e=.returned (.int .i64 (sgnZ (a - b)))/\w=w':=by
 have HN:∀ (x:Int) (w:World),Calls Tryz.prog 143 #[.int .i64 x] w fun e w'=>e=.returned (.bool false)/\w=w':=by
  intro x w;go_enter Tryz.func143,Tryz.ntmps143
  go_wp2
  go_ret
  exact⟨by simp,rfl⟩
 rcases Int.lt_trichotomy a b with h | h | h
 ·have HS:=Lib.hid (show sgnZ (a - b) = -1 by unfold sgnZ;rw[if_neg (by omega),if_pos (by omega)]);have H:=Lib.hid HN;clear HN;go_enter Tryz.func95,Tryz.ntmps95
  go_wp2_with fail
  refine (H.out a _).mono ?_;rintro e w' ⟨rfl,rfl⟩;go_wp2_with fail
  refine (H.out b _).mono ?_;rintro e w' ⟨rfl,rfl⟩;go_wp2_with fail
  go_ret
  exact⟨by rw[HS.out];rfl,rfl⟩
 ·subst h;have HS:=Lib.hid (show sgnZ (a - a)=0 by unfold sgnZ;rw[if_pos (by omega)]);have H:=Lib.hid HN;clear HN;go_enter Tryz.func95,Tryz.ntmps95
  go_wp2_with fail
  refine (H.out a _).mono ?_;rintro e w' ⟨rfl,rfl⟩;go_wp2_with fail
  refine (H.out a _).mono ?_;rintro e w' ⟨rfl,rfl⟩;go_wp2_with fail
  go_ret
  exact⟨by rw[HS.out];rfl,rfl⟩
 have HS:=Lib.hid (show sgnZ (a - b)=1 by unfold sgnZ;rw[if_neg (by omega),if_neg (by omega)]);have H:=Lib.hid HN;clear HN;have h':¬ a<b:=by omega
 go_enter Tryz.func95,Tryz.ntmps95
 go_wp2_with fail
 refine (H.out a _).mono ?_;rintro e w' ⟨rfl,rfl⟩;go_wp2_with fail
 refine (H.out b _).mono ?_;rintro e w' ⟨rfl,rfl⟩;go_wp2_with fail
 go_ret
 exact⟨by rw[HS.out];rfl,rfl⟩
theorem of_d (n:Nat) (z:Int) (w:World) (hz:z=(n:Int)) (hn:n<18446744073709551616) :
  Calls Tryz.prog 91 #[.int .u64 z] w fun e w'=>∃ v,e=.returned v/\Sl w' .u32 v (dig L32 n)/\n<L32 ^ 2/\Below w.heap.size w w':=
 (of_any n z w hz hn).mono fun _ _ ⟨v,he,hs,hb⟩=>⟨v,he,hs,Nat.lt_of_lt_of_eq hn (by decide),hb⟩
theorem wof_any (z:Int) (w:World) (h1 : -9223372036854775808<=z) (h2:z<=9223372036854775807) :
  Calls Tryz.prog 42 #[.int .i64 z] w fun e w'=>∃ v,e=.returned v/\CI w' v z 2/\Below w.heap.size w w':=by
 have hW:Below w.heap.size w (w.alloc (.cells #[.bool false,.slice none 0 0] 26)):=(Below.refl _ _).alloc (Nat.le_refl _) _
 by_cases hz:z<0
 ·have HZ:=Lib.hid (show sg true z.natAbs=z by simp[sg];omega);go_enter Tryz.func42,Tryz.ntmps42
  go_wp2_with fail
  refine (of_d z.natAbs _ _ (by simp only[IntKind.wrap_u64];omega) (by omega)).mono ?_;rintro e w2 ⟨v2,rfl,s2,hn,hb2⟩;have hk2:=(hb2.block w.heap.size (by simp)).trans (heap_alloc_new w _);have hb2t:=hW.trans (hb2.mono (by simp));clear hb2;obtain⟨vo,vc,rfl⟩:=sl_shape s2;go_wp2_with fail
  refine (signed_any _ _ _ 2 w2 s2 hn).mono ?_;rintro e w3 ⟨v3,rfl,c3,hb3⟩;obtain⟨bb,bo,bl,bc,rfl⟩:=c3.shape;have hk3:=(hb3.block _ (lt_of_block hk2)).trans hk2;have hb3t:=hb2t.trans (hb3.mono hb2t.size);clear hb3 hk2 hb2t;obtain⟨q0,q1,f0,f1⟩:=two_cells hk3;have HB:=Lib.hid hk3;clear hk3;rw[HZ.out] at c3;go_wp2_with fail
  exact bodyPost_ret (v:=.agg #[.bool bb,.slice bo bl bc]) (by simp[results,Tryz.results42,go_sem,q0,q1]) rfl ⟨_,rfl,c3.set2 HB.out _ _,below_setg hb3t (by omega) _ _⟩
 have HZ:=Lib.hid (show sg false z.natAbs=z by simp[sg];omega);go_enter Tryz.func42,Tryz.ntmps42
 go_wp2_with fail
 refine (of_d z.natAbs _ _ (by omega) (by omega)).mono ?_;rintro e w2 ⟨v2,rfl,s2,hn,hb2⟩;have hk2:=(hb2.block w.heap.size (by simp)).trans (heap_alloc_new w _);have hb2t:=hW.trans (hb2.mono (by simp));clear hb2;obtain⟨vo,vc,rfl⟩:=sl_shape s2;go_wp2_with fail
 refine (signed_any _ _ _ 2 w2 s2 hn).mono ?_;rintro e w3 ⟨v3,rfl,c3,hb3⟩;obtain⟨bb,bo,bl,bc,rfl⟩:=c3.shape;have hk3:=(hb3.block _ (lt_of_block hk2)).trans hk2;have hb3t:=hb2t.trans (hb3.mono hb2t.size);clear hb3 hk2 hb2t;obtain⟨q0,q1,f0,f1⟩:=two_cells hk3;have HB:=Lib.hid hk3;clear hk3;rw[HZ.out] at c3;go_wp2_with fail
 exact bodyPost_ret (v:=.agg #[.bool bb,.slice bo bl bc]) (by simp[results,Tryz.results42,go_sem,q0,q1]) rfl ⟨_,rfl,c3.set2 HB.out _ _,below_setg hb3t (by omega) _ _⟩
theorem sgnZ_le (z:Int) : -1<=sgnZ z/\sgnZ z<=1:=by unfold sgnZ;split;omega;split<;>omega
theorem sgnZ_diff {y z:Int} (h:sgnZ y≠sgnZ z):sgnZ (sgnZ y - sgnZ z)=sgnZ (y - z):=by
 unfold sgnZ at h ⊢
 split at h<;>split at h<;>(try split at h)<;>(try split at h)<;>simp_all<;>first | omega | (rw[if_neg (by omega)];first | rw[if_pos (by omega)] | rw[if_neg (by omega)])
theorem sgnZ_same {b d:Bool} {m n:Nat} (h:sgnZ (sg b m)=sgnZ (sg d n)):sgnZ (sg b m)*cmpN m n=sgnZ (sg b m - sg d n):=by
 unfold sgnZ sg cmpN at *
 cases b<;>cases d<;>simp at h ⊢<;>(repeat' split at h)<;>(repeat' split)<;>first | rfl | omega
theorem wcmp_any (va vb:Value) (y z:Int) (k1 k2:Nat) (w:World) (hx:GI w va y k1) (hy:GI w vb z k2) (h1:k1<=1000000) (h2:k2<=1000000) :
  Calls Tryz.prog 45 #[va,vb] w fun e w'=>e=.returned (.int .i64 (sgnZ (y - z)))/\Below w.heap.size w w':=by
 have hgx:=hx;have hgy:=hy;obtain⟨b,ao,l,c,m,rfl,hg,rfl⟩:=hx.shape;obtain⟨d,po,pl,pc,n,rfl,hg2,rfl⟩:=hy.shape;have hW:=below2 w (.cells #[.bool b,.slice ao l c] 26) (.cells #[.bool d,.slice po pl pc] 26)
 by_cases hs:sgnZ (sg b m)=sgnZ (sg d n)
 ·have HE:=Lib.hid (sgnZ_same hs);have HS:=Lib.hid hs;have hbs:=sgnZ_le (sg b m);have hbp:=sgnZ_le (sg b m - sg d n);have hne:(sgnZ (sg d n) != sgnZ (sg d n))=false:=by simp
  clear hs;go_enter Tryz.func45,Tryz.ntmps45
  go_wp2_with fail
  refine (wsign_any _ _ k1 _ ((hgx.alloc _).alloc _) h1).mono ?_;rintro e w2 ⟨rfl,hb2⟩;have hk2:=blocks2 (hb2.mono (by simp));have hb2t:=hW.trans (hb2.mono (by simp;omega));clear hb2;obtain⟨kc0,kc1,_,_⟩:=two_cells hk2.1;obtain⟨kd0,kd1,_,_⟩:=two_cells hk2.2;have HK:=Lib.hid hk2;clear hk2;rw[HS.out];go_wp2_with fail
  refine (wsign_any _ _ k2 _ (hgy.below hb2t) h2).mono ?_;rintro e w4 ⟨rfl,hb4⟩;have hk0:=(hb4.block _ (lt_of_block HK.out.1)).trans HK.out.1;have hk1:=(hb4.block _ (lt_of_block HK.out.2)).trans HK.out.2;have hb4t:=hb2t.trans (hb4.mono hb2t.size);clear hb4 kc0 kc1 kd0 kd1;obtain⟨kc0,kc1,_,_⟩:=two_cells hk0;obtain⟨kd0,kd1,_,_⟩:=two_cells hk1;have HK0:=Lib.hid hk0;have HK1:=Lib.hid hk1;clear hk0 hk1;go_wp2_with fail
  refine (cmp_n (hg.below hb4t) (hg2.below hb4t)).mono ?_;rintro e w5 ⟨rfl,hb5⟩;have hb5t:=hb4t.trans (hb5.mono hb4t.size);have HP:=Lib.hid (show sgnZ (sg d n)*cmpN m n=sgnZ (sg b m - sg d n) by rw[<-HS.out];exact HE.out);have p1 : -9223372036854775808<=sgnZ (sg d n)*cmpN m n:=by rw[HP.out];omega
  have p2:sgnZ (sg d n)*cmpN m n<=9223372036854775807:=by rw[HP.out];omega
  clear hb5;go_wp2_with fail
  go_ret
  exact⟨by rw[<-HP.out];rfl,hb5t⟩
 have HD:=Lib.hid (sgnZ_diff hs);have hne:(sgnZ (sg b m) != sgnZ (sg d n))=true:=by rw[bne_iff_ne];exact hs
 clear hs;go_enter Tryz.func45,Tryz.ntmps45
 go_wp2_with fail
 refine (wsign_any _ _ k1 _ ((hgx.alloc _).alloc _) h1).mono ?_;rintro e w2 ⟨rfl,hb2⟩;have hk2:=blocks2 (hb2.mono (by simp));have hb2t:=hW.trans (hb2.mono (by simp;omega));clear hb2;obtain⟨kd0,kd1,_,_⟩:=two_cells hk2.2;have HK:=Lib.hid hk2.2;clear hk2;go_wp2_with fail
 refine (wsign_any _ _ k2 _ (hgy.below hb2t) h2).mono ?_;rintro e w4 ⟨rfl,hb4⟩;have hk1:=(hb4.block _ (lt_of_block HK.out)).trans HK.out;have hb4t:=hb2t.trans (hb4.mono hb2t.size);clear hb4 kd0 kd1;obtain⟨kd0,kd1,_,_⟩:=two_cells hk1;clear hk1;go_wp2_with fail
 refine (wsign_any _ _ k2 _ (hgy.below hb4t) h2).mono ?_;rintro e w5 ⟨rfl,hb5⟩;have hb5t:=hb4t.trans (hb5.mono hb4t.size);clear hb5 kd0 kd1;go_wp2_with fail
 refine (compare_any _ _ _).mono ?_;rintro e w6 ⟨rfl,rfl⟩;rw[HD.out];go_wp2_with fail
 go_ret
 exact⟨rfl,hb5t⟩
def zText (z:Int):List UInt8:=if z<0 then 45::Lib.decDigits z.natAbs else Lib.decDigits z.natAbs
theorem app45 (l:List UInt8):((⟨#[45]⟩:ByteArray)++(⟨l.toArray⟩:ByteArray))=⟨(45::l).toArray⟩:=by
 apply ByteArray.ext
 simp[ByteArray.data_append]
theorem dec_len {n k:Nat} (h:n<L32 ^ k) (hk:k<=10000):(Lib.decDigits n).length<=100001:=by
 have h1:L32 ^ k<=10 ^ (10*k):=by rw[Nat.pow_mul];exact Nat.pow_le_pow_left (by decide) _
 have:=decDigits_len (k:=10*k+1) (Nat.lt_of_lt_of_le h (Nat.le_trans h1 (Nat.pow_le_pow_right (by decide) (by omega)))) (by omega)
 omega
theorem wtext_any (va : Value) (z : Int) (k : Nat) (w : World) (htab : Lib.TabIs Tryz.prog w "internal/strconv.uint64pow10" .u64 Lib.pow10Tab) (hx : GI w va z k) (hk : k ≤ 10000) :
  Calls Tryz.prog 101 #[va] w fun e w'=>e=.returned (.string ⟨(zText z).toArray⟩)/\Below w.heap.size w w':=by
 have hgx:=hx;obtain⟨b,ao,l,c,n,rfl,hg,rfl⟩:=hx.shape;have hW:Below w.heap.size w (w.alloc (.cells #[.bool b,.slice ao l c] 26)):=(Below.refl _ _).alloc (Nat.le_refl _) _;have hgn:=hg;obtain⟨xs,hs,dx,rfl,lx⟩:=hgn;have HN:=Lib.hid (sg_natAbs b (val L32 xs));have hdl:=dec_len hg.lt hk
 by_cases hz:sg b (val L32 xs)<0
 ·have HS:=Lib.hid (show sgnZ (sg b (val L32 xs)) = -1 by unfold sgnZ;rw[if_neg (by omega),if_pos hz]);have HT:=Lib.hid (show zText (sg b (val L32 xs))=45::Lib.decDigits (val L32 xs) by unfold zText;rw[if_pos hz,HN.out]);clear hz;go_enter Tryz.func101,Tryz.ntmps101
  go_wp2_with fail
  refine (wsign_any _ _ k _ (hgx.alloc _) (by omega)).mono ?_;rintro e w2 ⟨rfl,hb2⟩;have hk2:=(hb2.block w.heap.size (by simp)).trans (heap_alloc_new w _);have hb2t:=hW.trans (hb2.mono (by simp));clear hb2;obtain⟨kc0,kc1,_,_⟩:=two_cells hk2;clear hk2;rw[HS.out];go_wp2_with fail
  refine (text_any _ xs w2 (tab_below htab hb2t) (hs.below hb2t) dx (by omega)).mono ?_;rintro e w4 ⟨rfl,hb4⟩;have hb4t:=hb2t.trans (hb4.mono hb2t.size);go_wp2_with fail
  go_ret
  exact⟨by rw[HT.out,<-app45];rfl,hb4t⟩
 have HS:=Lib.hid (show (0:Int)<=sgnZ (sg b (val L32 xs)) by unfold sgnZ;rw[if_neg hz];split<;>omega);have HT:=Lib.hid (show zText (sg b (val L32 xs))=Lib.decDigits (val L32 xs) by unfold zText;rw[if_neg hz,HN.out]);clear hz;have h0:=HS.out;go_enter Tryz.func101,Tryz.ntmps101
 go_wp2_with fail
 refine (wsign_any _ _ k _ (hgx.alloc _) (by omega)).mono ?_;rintro e w2 ⟨rfl,hb2⟩;have hk2:=(hb2.block w.heap.size (by simp)).trans (heap_alloc_new w _);have hb2t:=hW.trans (hb2.mono (by simp));clear hb2;obtain⟨kc0,kc1,_,_⟩:=two_cells hk2;clear hk2;go_wp2_with fail
 refine (text_any _ xs w2 (tab_below htab hb2t) (hs.below hb2t) dx (by omega)).mono ?_;rintro e w4 ⟨rfl,hb4⟩;have hb4t:=hb2t.trans (hb4.mono hb2t.size);go_wp2_with fail
 go_ret
 exact⟨by rw[HT.out];rfl,hb4t⟩
def zn (l:List UInt8):Int:=if l.head?=some 45 then -(dn (l.drop 1):Int) else (dn l:Int)
end Go.Proofs.YtoncclhbdkjhmaaGreatDoor
