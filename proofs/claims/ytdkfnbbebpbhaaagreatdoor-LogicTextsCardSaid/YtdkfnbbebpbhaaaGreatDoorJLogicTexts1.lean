/-
 Joined texts: KBase,KNat,KRef,Shelf,KText,KMul,Rely,KSh.
-/
import Init
import Derived.WalkKit
import Derived.WalkSpells
import Derived.WalkLawsBesides
import Derived.Lib.Hide
import Derived.Laws.CopyOwn
import Derived.Laws.AppendOwnNone
import Derived.Test.YtdkfnbbebpbhaaaGreatDoorRows
import Derived.Deep.QuietTactic
import Derived.BigQuiet
import Derived.Shelf.Strings.Builder1
import Derived.Shelf.Small.Bits
import Derived.Shelf.Small.Wraps
import Derived.Shelf.Strconv.Itoa0
import Derived.Shelf.Strconv.Itoa1
import Derived.Shelf.LaysM
import Derived.Shelf.Strconv.Itoa2
import Derived.Shelf.Strconv.Itoa3
import Derived.Shelf.Unicode.Decode
import Derived.Shelf.Unicode.DecodeSlow
import Derived.Shelf.Unicode.DecodeAny
import Derived.Ground.Names2Prog
import Derived.Shelf.Slices.SearchI
import Derived.Test.YtdkfnbbebpbhaaaGreatDoorProg
import Derived.Lib.Builder
import Derived.Lib.ItoaNum
import Derived.Lib.AppendStr
import Derived.RegionTactic
import Derived.StillTailTactics
import Derived.Deep.RegionHeld3
set_option maxHeartbeats 32000000
namespace Go.Proofs.YtdkfnbbebpbhaaaGreatDoor
set_option maxRecDepth 100000
theorem gsa {α:Type _} {xs:List α} {i:Nat}:xs.toArray[i]?=xs[i]?:=List.getElem?_toArray
theorem gsc {α:Type _} {a:α} {xs:List α} {i:Nat}:(a::xs)[i+1]?=xs[i]?:=List.getElem?_cons_succ
theorem gsz {α:Type _} {a:α} {l:List α}:(a::l)[0]?=some a:=List.getElem?_cons_zero
theorem lsa {α:Type _} {xs ys:List α}:(xs++ys).length=xs.length+ys.length:=List.length_append
theorem lsc {α:Type _} {a:α} {xs:List α}:(a::xs).length=xs.length+1:=List.length_cons
theorem lsn {α:Type _}:([]:List α).length=0:=List.length_nil
theorem t1_ {α:Type _} {a:α} {xs:List α} {i:Nat}:(a::xs).take (i+1)=a::xs.take i:=List.take_succ_cons
theorem t2_ {α:Type _} {l:List α}:l.take 0=[]:=List.take_zero
theorem t3_ {α:Type _} {a:α} {l:List α} {i:Nat}:(a::l).drop (i+1)=l.drop i:=List.drop_succ_cons
theorem t4_ {α:Type _} {l:List α}:l.drop 0=l:=List.drop_zero
theorem t5_ {α:Type _} {l:List α} {i:Nat} {a:α}:l.toArray.setIfInBounds i a=(l.set i a).toArray:=List.setIfInBounds_toArray _ _ _
theorem t6_ {α:Type _} {x:α} {xs:List α} {a:α}:(x::xs).set 0 a=a::xs:=List.set_cons_zero
theorem t7_ {α:Type _} {x:α} {xs:List α} {n:Nat} {a:α}:(x::xs).set (n+1) a=x::xs.set n a:=List.set_cons_succ

def val (B:Nat):List Nat->Nat
 | []=>0
 | x::xs=>x+B*val B xs
def Dig (B:Nat) (xs:List Nat):Prop:=∀ x ∈ xs,x<B
theorem val_append (B:Nat) (xs ys:List Nat):val B (xs++ys)=val B xs+B ^ xs.length*val B ys:=by
 induction xs with
 | nil=>simp[val]
 | cons x xs ih=>simp only[List.cons_append,val,ih,lsc,Nat.pow_succ];grind
theorem val_lt {B:Nat} {xs:List Nat} (h:Dig B xs):val B xs<B ^ xs.length:=by
 induction xs with
 | nil=>simp[val]
 | cons x xs ih =>
  have h1:x<B:=h x (by simp);have h2:=ih (fun y hy=>h y (by simp[hy]));simp only[val,lsc,Nat.pow_succ];have:B*(val B xs+1)<=B*B ^ xs.length:=Nat.mul_le_mul_left _ h2
  grind
theorem val_set (B:Nat) (xs:List Nat) (i v:Nat) (h:i<xs.length):val B (xs.set i v)+xs.getD i 0*B ^ i=val B xs+v*B ^ i:=by
 induction xs generalizing i with
 | nil=>simp at h
 | cons x xs ih =>
  cases i with
  | zero=>simp[val];omega
  | succ i =>
   have:=ih i (by simpa using h);simp only[List.set_cons_succ,val,List.getD_cons_succ,Nat.pow_succ]
   grind
theorem val_take_succ (B:Nat) (xs:List Nat) (k:Nat) (h:k<xs.length):val B (xs.take (k+1))=val B (xs.take k)+xs.getD k 0*B ^ k:=by
 rw[List.take_succ_eq_append_getElem h,val_append];have e:(xs.take k).length=k:=by simp;omega
 simp[val,e,List.getD,h,Nat.mul_comm]
theorem val_replicate_zero (B n:Nat):val B (List.replicate n 0)=0:=by
 induction n with
 | zero=>rfl
 | succ n ih=>simp[List.replicate_succ,val,ih]
theorem Dig.set {B:Nat} {xs:List Nat} (h:Dig B xs) {i v:Nat} (hv:v<B):Dig B (xs.set i v):=by
 intro x hx;rcases List.mem_or_eq_of_mem_set hx with h' | h'
 ·exact h x h'
 omega
theorem Dig.append {B:Nat} {xs ys:List Nat} (h:Dig B xs) (k:Dig B ys):Dig B (xs++ys):=by
 intro x hx;rcases List.mem_append.1 hx with h' | h'
 ·exact h x h'
 exact k x h'
theorem Dig.take {B:Nat} {xs:List Nat} (h:Dig B xs) (n:Nat):Dig B (xs.take n):=fun x hx=>h x (List.mem_of_mem_take hx)
theorem Dig.drop {B:Nat} {xs:List Nat} (h:Dig B xs) (n:Nat):Dig B (xs.drop n):=fun x hx=>h x (List.mem_of_mem_drop hx)
theorem Dig.getD {B:Nat} {xs:List Nat} (h:Dig B xs) (hB:0<B) (i:Nat):xs.getD i 0<B:=by
 by_cases hi:i<xs.length
 ·have:=h xs[i] (List.getElem_mem hi);simpa [List.getD,hi] using this
 simpa [List.getD,Nat.le_of_not_lt hi] using hB
theorem Dig.replicate {B:Nat} (hB:0<B) (n:Nat):Dig B (List.replicate n 0):=fun x hx=>by rw[List.eq_of_mem_replicate hx];exact hB
theorem Dig.nil (B:Nat):Dig B []:=fun x hx=>by cases hx
def nz (xs:List Nat):Nat:=(xs.reverse.dropWhile (· == 0)).length
theorem nz_le (xs:List Nat):nz xs<=xs.length:=by
 unfold nz;have:=(List.dropWhile_suffix (p:=(· == 0)) (l:=xs.reverse)).length_le
 simpa using this
theorem nz_zero {xs:List Nat} {k:Nat} (h:k<xs.length) (h0:xs.getD k 0=0):nz (xs.take (k+1))=nz (xs.take k):=by
 unfold nz;rw[List.take_succ_eq_append_getElem h]
 simp[List.getD,h] at h0
 simp[h0]
theorem nz_pos {xs:List Nat} {k:Nat} (h:k<xs.length) (h0:xs.getD k 0≠0):nz (xs.take (k+1))=k+1:=by
 unfold nz;rw[List.take_succ_eq_append_getElem h]
 simp[List.getD,h] at h0
 have e:(xs[k]==0)=false:=by simpa using h0
 rw[List.reverse_append,List.reverse_singleton,List.singleton_append,List.dropWhile_cons,e]
 simp;omega
def dig (B:Nat) (n:Nat):List Nat:=
 if _h:2<=B/\0<n then n % B::dig B (n / B) else []
termination_by n
decreasing_by exact Nat.div_lt_self _h.2 (by omega)
theorem dig_zero (B:Nat):dig B 0=[]:=by unfold dig;simp
theorem dig_pos {B n:Nat} (hB:2<=B) (h:0<n):dig B n=n % B::dig B (n / B):=by rw[dig];simp[hB,h]
theorem val_dig {B:Nat} (hB:2<=B) (n:Nat):val B (dig B n)=n:=by
 induction n using Nat.strongRecOn with
 | ind n ih =>
  by_cases h:0<n
  ·rw[dig_pos hB h];simp only[val];rw[ih _ (Nat.div_lt_self h (by omega))];have:=Nat.mod_add_div n B;omega
  have:n=0:=by omega
  subst this;simp[dig_zero,val]
theorem Dig_dig {B:Nat} (hB:2<=B) (n:Nat):Dig B (dig B n):=by
 induction n using Nat.strongRecOn with
 | ind n ih =>
  by_cases h:0<n
  ·rw[dig_pos hB h];intro x hx;rcases List.mem_cons.1 hx with rfl | hx
   ·exact Nat.mod_lt _ (by omega)
   exact ih _ (Nat.div_lt_self h (by omega)) x hx
  have:n=0:=by omega
  subst this;simp[dig_zero,Dig]
theorem take_nz {B:Nat} (hB:2<=B) {xs:List Nat} (h:Dig B xs):xs.take (nz xs)=dig B (val B xs):=by
 induction xs with
 | nil=>simp[nz,val,dig_zero]
 | cons x xs ih =>
  have hx:x<B:=h x (by simp);have hd:Dig B xs:=fun y hy=>h y (by simp[hy])
  have ih':=ih hd
  by_cases hz:nz xs=0
  ·have hv:val B xs=0:=by
    have:dig B (val B xs)=[]:=by rw[<-ih',hz];rfl
    by_cases h0:0<val B xs
    ·rw[dig_pos hB h0] at this;cases this
    omega
   have hall:xs.reverse.dropWhile (· == 0)=[]:=List.eq_nil_of_length_eq_zero hz;simp only[val,hv,Nat.mul_zero,Nat.add_zero]
   have e:nz (x::xs)=if x=0 then 0 else 1:=by
    unfold nz;rw[List.reverse_cons,List.dropWhile_append,hall]
    by_cases hx0:x=0
    ·simp[hx0]
    simp[hx0,List.dropWhile]
    have:(x==0)=false:=by simpa using hx0
    simp[this]
   by_cases hx0:x=0
   ·rw[e,if_pos hx0,hx0,dig_zero];rfl
   rw[e,if_neg hx0,dig_pos hB (by omega),Nat.mod_eq_of_lt hx,Nat.div_eq_of_lt hx,dig_zero];rfl
  have hne:xs.reverse.dropWhile (· == 0) ≠ []:=fun e=>hz (by unfold nz;rw[e];rfl)
  have e:nz (x::xs)=nz xs+1:=by
   unfold nz;rw[List.reverse_cons,List.dropWhile_append,if_neg (by simpa using hne)]
   simp
  have hv:0<val B xs:=by
   rcases Nat.eq_zero_or_pos (val B xs) with h0 | h0
   ·rw[h0,dig_zero] at ih';have:=congrArg List.length ih'
    simp at this
    have hl:=nz_le xs;rcases this with h1 | h1
    ·omega
    subst h1;simp[nz] at hz
   exact h0
  have hv':0<x+B*val B xs:=by
   have h1:1<=B:=by omega
   have:=Nat.mul_le_mul h1 hv;omega
  rw[e,List.take_succ_cons,ih',val,dig_pos (n:=x+B*val B xs) hB hv'];rw[Nat.add_mul_mod_self_left,Nat.mod_eq_of_lt hx,Nat.add_mul_div_left _ _ (by omega),Nat.div_eq_of_lt hx,Nat.zero_add]
theorem dig_val_take {B:Nat} (hB:2<=B) {xs:List Nat} (h:Dig B xs):dig B (val B xs)=xs.take (nz xs):=(take_nz hB h).symm
theorem length_dig_val {B:Nat} (hB:2<=B) {xs:List Nat} (h:Dig B xs):(dig B (val B xs)).length=nz xs:=by
 rw[dig_val_take hB h,List.length_take];have:=nz_le xs;omega
theorem val_take_nz {B:Nat} (hB:2<=B) {xs:List Nat} (h:Dig B xs):val B (xs.take (nz xs))=val B xs:=by rw[take_nz hB h,val_dig hB]
theorem length_dig_le {B:Nat} (hB:2<=B) {n k:Nat} (h:n<B ^ k):(dig B n).length<=k:=by
 induction k generalizing n with
 | zero=>simp at h;subst h;simp[dig_zero]
 | succ k ih =>
  by_cases h0:0<n
  ·rw[dig_pos hB h0,lsc];have:n / B<B ^ k:=Nat.div_lt_of_lt_mul (by rw[Nat.pow_succ] at h;rw[Nat.mul_comm];exact h);have:=ih this;omega
  have:n=0:=by omega
  subst this;simp[dig_zero]
theorem lt_pow_of_length {B:Nat} (hB:2<=B) {n k:Nat} (h:(dig B n).length<=k):n<B ^ k:=by
 have h1:=val_lt (Dig_dig hB n);rw[val_dig hB] at h1;exact Nat.lt_of_lt_of_le h1 (Nat.pow_le_pow_right (by omega) h)
theorem le_of_length {B:Nat} (hB:2<=B) {n k:Nat} (h:k<(dig B n).length):B ^ k<=n:=by
 rcases Nat.lt_or_ge n (B ^ k) with h1 | h1
 ·have:=length_dig_le hB h1;omega
 exact h1
end Go.Proofs.YtdkfnbbebpbhaaaGreatDoor
namespace Go.Proofs.YtdkfnbbebpbhaaaGreatDoor
open Go.RowKit
set_option maxRecDepth 100000
def nth (xs:List Nat) (i:Nat):Int:=((xs.getD i 0:Nat):Int)
theorem nth_eq {xs:List Nat} {i:Nat} (h:i<xs.length):nth xs i=((xs[i]:Nat):Int):=by
 unfold nth;simp[List.getD,h]
def Sl (w:World) (k:IntKind) (v:Value) (xs:List Nat):Prop:=
 ∃ (ao:Option Addr) (cap:Nat),v=.slice ao xs.length cap/\xs.length<=cap/\cap<=9223372036854775807/\(ao=none->cap=0) /\
  ∀ i,i<xs.length->∃ a,ao=some a/\w.cell? (a.add i)=some (.int k (nth xs i))
theorem addr_add_add (a:Addr) (i j:Nat):(a.add i).add j=a.add (i+j):=by
 unfold Addr.add
 by_cases hi:i=0
 ·simp[hi]
 by_cases hj:j=0
 ·simp[hj]
 simp[hi,hj];omega
theorem cell_lt {w:World} {a:Addr} {v:Value} (h:w.cell? a=some v):a.block<w.heap.size:=World.block_lt_of_cell? w a h
theorem Sl.nil (w:World) (k:IntKind):Sl w k (.slice none 0 0) []:=
 ⟨none,0,rfl,by simp,by omega,fun _=>rfl,fun i hi=>by simp at hi⟩
theorem Sl.below {w w':World} {k:IntKind} {v:Value} {xs:List Nat} (h:Sl w k v xs) (hb:Below w.heap.size w w'):Sl w' k v xs:=by
 obtain⟨ao,cap,rfl,h1,h2,h3,h4⟩:=h;refine⟨ao,cap,rfl,h1,h2,h3,fun i hi=>?_⟩;obtain⟨a,ha,hc⟩:=h4 i hi;exact⟨a,ha,by rw[hb.cell (cell_lt hc)];exact hc⟩
theorem Sl.take {w:World} {k:IntKind} {ao:Option Addr} {n cap:Nat} {xs:List Nat} (h:Sl w k (.slice ao n cap) xs) (m:Nat) (hm:m<=xs.length):Sl w k (.slice ao m cap) (xs.take m):=by
 obtain⟨ao',cap',e,h1,h2,h3,h4⟩:=h;injection e with e1 e2 e3;subst e1;subst e3;have hl:(xs.take m).length=m:=by simp;omega
 refine⟨ao,cap,by rw[hl],by rw[hl];omega,h2,h3,fun i hi=>?_⟩;rw[hl] at hi;obtain⟨a,ha,hc⟩:=h4 i (by omega);refine⟨a,ha,?_⟩;rw[hc];unfold nth
 simp[List.getD,hi]
def Blk (w:World) (g:Nat) (k:IntKind) (T:TypeId) (l:List Nat):Prop:=
 w.heap[g]?=some (.cells ((l.map fun (n:Nat)=>Value.int k ((n:Nat):Int)).toArray) T (0,0))
theorem Blk.lt {w:World} {g:Nat} {k:IntKind} {T:TypeId} {l:List Nat} (h:Blk w g k T l):g<w.heap.size:=lt_of_block h
theorem Blk.cell {w:World} {g:Nat} {k:IntKind} {T:TypeId} {l:List Nat} (h:Blk w g k T l) {i:Nat} (hi:i<l.length):w.cell? ⟨g,i,none⟩=some (.int k (nth l i)):=by
 rw[cell_of_row w g i _ T (0,0) h]
 simp[hi,nth_eq hi]
theorem Blk.frozen {w:World} {g:Nat} {k:IntKind} {T:TypeId} {l:List Nat} (h:Blk w g k T l) (i:Nat):w.frozen? ⟨g,i,none⟩=false:=frozen_of_row w g i _ T h
theorem Blk.set {w:World} {g:Nat} {k:IntKind} {T:TypeId} {l:List Nat} (h:Blk w g k T l) (i:Nat) (n:Nat) (z:Int) (hz:z=(n:Int)):Blk (w.setCell ⟨g,i,none⟩ (.int k z)) g k T (l.set i n):=by
 subst hz;unfold Blk;rw[heap_setCell_same w g i _ T _ h]
 simp[List.map_set]
theorem Blk.other {w w':World} {g:Nat} {k:IntKind} {T:TypeId} {l:List Nat} (h:Blk w g k T l) {row:Option Nat} (hg:w.grownBy w' row) (hne:some g≠row):Blk w' g k T l:=by
 unfold Blk at *;rw[hg.block g (lt_of_block h) hne];exact h
theorem Blk.below {w w':World} {B g:Nat} {k:IntKind} {T:TypeId} {l:List Nat} (h:Blk w g k T l) (hg:Below B w w') (hB:g<B):Blk w' g k T l:=by
 unfold Blk at *;rw[hg.block g hB];exact h
theorem addr_at (g off i:Nat):(⟨g,off,none⟩:Addr).add i=⟨g,off+i,none⟩:=by simp[Addr.add]
theorem Blk.sl {w:World} {g:Nat} {k:IntKind} {T:TypeId} {l:List Nat} (h:Blk w g k T l) (off n cap:Nat) (hn:off+n<=l.length) (hc:n<=cap) (hm:cap<=9223372036854775807) :
  Sl w k (.slice (some ⟨g,off,none⟩) n cap) ((l.drop off).take n):=by
 have hl:((l.drop off).take n).length=n:=by simp;omega
 refine⟨some ⟨g,off,none⟩,cap,by rw[hl],by rw[hl];exact hc,hm,(fun e=>by cases e),fun i hi=>⟨_,rfl,?_⟩⟩;rw[hl] at hi;rw[addr_at,h.cell (i:=off+i) (by omega)];unfold nth
 simp[List.getD,hi]
theorem grown_setCell {w0 w:World} {g i:Nat} (h:w0.grownBy w (some g)) (v:Value):w0.grownBy (w.setCell ⟨g,i,none⟩ v) (some g):=
 ⟨h.os,h.tape,h.output,by simpa [World.setCell] using h.size,fun k hk hne=>by
  rw[Below.heap_setCell _ _ _ _ (fun e=>hne (by rw[e]))];exact h.block k hk hne⟩
theorem grown_trans {a b c:World} {row:Option Nat} (h:a.grownBy b row) (k:b.grownBy c row):a.grownBy c row:=
 ⟨k.os.trans h.os,k.tape.trans h.tape,k.output.trans h.output,Nat.le_trans h.size k.size,fun i hi hne=>(k.block i (Nat.lt_of_lt_of_le hi h.size) hne).trans (h.block i hi hne)⟩
theorem grown_of_below {a b:World} {row:Option Nat} (h:Below a.heap.size a b):a.grownBy b row:=
 ⟨h.os,h.tape,h.output,h.size,fun k hk _=>h.block k hk⟩
def Apart (g:Nat) (v:Value):Prop:=∀ a n c,v=.slice (some a) n c->a.block=g->n=0
theorem Sl.grown {w w':World} {k:IntKind} {v:Value} {xs:List Nat} {g:Nat} (h:Sl w k v xs) (hg:w.grownBy w' (some g)) (ha:Apart g v):Sl w' k v xs:=by
 obtain⟨ao,cap,rfl,h1,h2,h3,h4⟩:=h;refine⟨ao,cap,rfl,h1,h2,h3,fun i hi=>?_⟩;obtain⟨a,rfl,hc⟩:=h4 i hi;refine⟨a,rfl,?_⟩;have hb:(a.add i).block=a.block:=by unfold Addr.add;split<;>rfl
 refine hg.cell hc (fun e=>?_);injection e with e;have:=ha a _ _ rfl (by rw[<-e,hb])
 omega
def Ws (w:World) (k:IntKind) (T:TypeId) (v:Value) (g:Nat) (pre s post:List Nat):Prop:=
 ∃ (ao:Option Addr) (cap:Nat),v=.slice ao s.length cap/\s.length<=cap/\cap<=9223372036854775807/\(ao=none->cap=0) /\
  (s.length≠0->ao=some ⟨g,pre.length,none⟩/\Blk w g k T (pre++s++post))
def WsAt (w:World) (k:IntKind) (T:TypeId) (ao:Option Addr) (g:Nat) (pre s post:List Nat) (n:Nat):Prop:=
 n≠0->ao=some ⟨g,pre.length,none⟩/\Blk w g k T (pre++s++post)
theorem u32_wf {xs:List Nat} (h:Dig 4294967296 xs) (i:Nat):0<=nth xs i/\nth xs i<4294967296:=by
 have h1:=h.getD (by omega) i;unfold nth;omega
theorem Sl.at {w:World} {k:IntKind} {b:Addr} {n c:Nat} {xs:List Nat} (h:Sl w k (.slice (some b) n c) xs) {i:Nat} (hi:i<xs.length):w.cell? (b.add i)=some (.int k (nth xs i)):=by
 obtain⟨_,_,e,_,_,_,q⟩:=h;injection e with e1 e2 e3;subst e1;obtain⟨b',e,q⟩:=q i hi;injection e with e;subst e;exact q
theorem Ws.sl {w:World} {k:IntKind} {T:TypeId} {v:Value} {g:Nat} {pre s post:List Nat} (h:Ws w k T v g pre s post):Sl w k v s:=by
 obtain⟨ao,cap,rfl,h1,h2,h3,h4⟩:=h;refine⟨ao,cap,rfl,h1,h2,h3,fun i hi=>?_⟩;obtain⟨rfl,hb⟩:=h4 (by omega);refine⟨_,rfl,?_⟩;rw[addr_at,hb.cell (by simp;omega)];unfold nth
 simp[List.getD,List.getElem?_append_left,List.getElem?_append_right,hi]
theorem nth_mid (pre s post:List Nat) (i:Nat) (h:i<s.length):nth (pre++s++post) (pre.length+i)=nth s i:=by
 unfold nth
 simp[List.getD,List.getElem?_append_left,List.getElem?_append_right,h]
theorem set_mid (pre s post:List Nat) (i n:Nat) (h:i<s.length):(pre++s++post).set (pre.length+i) n=pre++s.set i n++post:=by
 rw[List.append_assoc,List.set_append_right _ _ (by omega),List.set_append_left _ _ (by omega),List.append_assoc]
 simp
theorem Ws.below {w w':World} {B:Nat} {k:IntKind} {T:TypeId} {v:Value} {g:Nat} {pre s post:List Nat} (h:Ws w k T v g pre s post) (hb:Below B w w') (hg:g<B):Ws w' k T v g pre s post:=by
 obtain⟨ao,cap,rfl,h1,h2,h3,h4⟩:=h;exact⟨ao,cap,rfl,h1,h2,h3,fun i=>⟨(h4 i).1,(h4 i).2.below hb hg⟩⟩
theorem heap_of_owns {w:World} {base:Nat} {e:TypeId} {g n cap:Nat} {xs:List Value} (h:w.ownsRow base e 1 (.slice (some ⟨g,0,none⟩) n cap) n xs) (hn:n=cap):w.heap[g]?=some (.cells xs.toArray e (0,0)):=by
 obtain⟨hl,h2⟩:=h;rcases h2 with ⟨e1,_⟩ | ⟨g',cap',cur,e1,_,hg,_,_,hs,ht⟩
 ·cases e1
 injection e1 with e1 e2 e3;injection e1 with e1;injection e1 with e1;subst e1;subst e3;subst hn;rw[hg,<-ht,Nat.mul_one]
 congr 2
 rw[List.take_of_length_le (by simp[hs])]
theorem wpList_make_blk {P:Program} (w:World) {ops:Array Oper} {rest:List Oper} {o:Oper} {a:Act} {Q:Exit->Act->World->Prop}
  (hg:o.guard=none) (l c:Operand) (t:TypeId) (hop:o.op=Op.makeSlice t l c)
  (e:TypeId) (i:TypeInfo) (k:IntKind) (h1:P.underlying t=some (.slice e)) (h2:P.info? e=some i) (h3:i.zero=some (.int k 0)) (h4:i.size=1)
  (kl kc:IntKind) (L C:Int) (n:Nat) (hl:a.eval l=.int kl L) (hc:a.eval c=.int kc C) (hL:L=(n:Int)) (hC:C=(n:Int)) (b2:i.bytes<=8) (b3:n<=35184372088832)
  (hK:∀ w',Blk w' w.heap.size k e (List.replicate n 0)->Below w.heap.size w w'->w.heap.size<w'.heap.size->wpList P ops Q rest (a.put o.dst (.slice (some ⟨w.heap.size,0,none⟩) n n)) w') :
  wpList P ops Q (o::rest) a w:=by
 have hb:i.bytes*n<=281474976710656:=Nat.le_trans (Nat.mul_le_mul b2 b3) (by omega);refine wpList_make_full w hg l c t hop w.heap.size e i (.int k 0) 1 h1 h2 h3 h4 kl kc L C n hl hc hL hC hb (by unfold maxLen;omega) (Nat.le_refl _) ?_;intro w' ho hgr;have hh:=heap_of_owns ho rfl
 have hB:Blk w' w.heap.size k e (List.replicate n 0):=by
  unfold Blk;rw[hh]
  have:(madeCells (Value.cells (.int k 0)) (n*1)).toList=List.replicate n (.int k 0):=by
   rw[Nat.mul_one];exact toList_madeCells_one _ _
  rw[this]
  simp
 exact hK w' hB ⟨hgr.os,hgr.tape,hgr.output,hgr.size,fun j hj=>hgr.block j hj (by simp)⟩ hB.lt
theorem cells_of_sl {w:World} {k:IntKind} {sp:Option Addr} {n c:Nat} {xs:List Nat} (h:Sl w k (.slice sp n c) xs) (m:Nat) (hm:m<=xs.length) (h0:0<m) :
  ∃ ad,sp=some ad/\∀ j v,((xs.take m).map fun (x:Nat)=>Value.int k ((x:Nat):Int))[j]?=some v->w.cell? (ad.add j)=some v:=by
 obtain⟨ao,cap,e,h1,h2,h3,h4⟩:=h;injection e with e1 e2 e3;subst e1;obtain⟨a,rfl,_⟩:=h4 0 (by omega);refine⟨a,rfl,fun j v hj=>?_⟩
 have hjl:j<m:=by
  have:=(List.getElem?_eq_some_iff.1 hj).1
  simp at this;omega
 obtain⟨b,e,q⟩:=h4 j (by omega);injection e with e;subst e;rw[q,<-hj]
 simp[hjl,nth_eq (show j<xs.length by omega),show j<xs.length by omega]
theorem sl_len {w:World} {k:IntKind} {sp:Option Addr} {n c:Nat} {xs:List Nat} (h:Sl w k (.slice sp n c) xs):n=xs.length:=by
 obtain⟨ao,cap,e,_⟩:=h;injection e
theorem ints_one (k:IntKind) (xs:List Nat):∀ u ∈ (xs.map fun (x:Nat)=>Value.int k ((x:Nat):Int)),u.oneCell'=true:=by
 intro u hu;obtain⟨x,_,rfl⟩:=List.mem_map.1 hu
 rfl
theorem wpList_copy_blk {P:Program} {w:World} {ops:Array Oper} {rest:List Oper} {o:Oper} {a:Act} {Q:Exit->Act->World->Prop} (hgd:o.guard=none) (d s:Operand) (dT sT:TypeId)
  (ho:o.op=.call { callee:=.builtin .copy,args:=#[d,s],argTypes:=#[dT,sT] }) (elem:TypeId) (hu:P.underlying dT=some (.slice elem)) (hsz:(P.info? elem).map (·.size)=some 1)
  (g n dCap:Nat) (sp:Option Addr) (sLen sCap:Nat) (hd:a.eval d=.slice (some ⟨g,0,none⟩) n dCap) (hs:a.eval s=.slice sp sLen sCap)
  (k:IntKind) (T:TypeId) (l xs:List Nat) (hB:Blk w g k T l) (hn:n=l.length) (hx:Sl w k (.slice sp sLen sCap) xs) (hle:xs.length<=n)
  (B:Nat) (w0:World) (hb:Below B w0 w) (hBg:B<=g)
  (h:∀ w',Blk w' g k T (xs++l.drop xs.length)->Below B w0 w'->wpList P ops Q rest (a.put o.dst (.int .i64 xs.length)) w') :
  wpList P ops Q (o::rest) a w:=by
 have hsl:=sl_len hx;have hmin:Nat.min sLen n=xs.length:=by rw[hsl];exact Nat.min_eq_left hle
 refine wpList_copy_splice hgd d s dT sT ho elem hu hsz (some ⟨g,0,none⟩) sp n dCap sLen sCap hd hs g 0 (l.map fun (x:Nat)=>Value.int k ((x:Nat):Int)) T hB (xs.map fun (x:Nat)=>Value.int k ((x:Nat):Int)) (by rw[hmin];simp) ?_ (by simp;omega) (ints_one k xs) B w0 hb hBg ?_
 ·intro h0;refine⟨rfl,?_⟩;have:=cells_of_sl hx xs.length (Nat.le_refl _) (by simpa using h0)
  rwa [List.take_length] at this
 intro w' hh hb'
 have:=h w' (by
  unfold Blk;rw[hh.out]
  congr 2
  simp[splice]) hb'
 simpa [goInt] using this
def Ow (w:World) (base:Nat) (k:IntKind) (T:TypeId) (v:Value) (xs:List Nat):Prop:=
 w.ownsRow base T 1 v xs.length (xs.map fun (x:Nat)=>Value.int k ((x:Nat):Int))
theorem Ow.nil (w:World) (base:Nat) (k:IntKind) (T:TypeId):Ow w base k T (.slice none 0 0) []:=World.ownsRow_nil w base T 1
theorem Ow.alloc {w:World} {base:Nat} {k:IntKind} {T:TypeId} {v:Value} {xs:List Nat} (h:Ow w base k T v xs) (o:Obj):Ow (w.alloc o) base k T v xs:=World.ownsRow.alloc h o
theorem Ow.sl {w:World} {base:Nat} {k:IntKind} {T:TypeId} {v:Value} {xs:List Nat} (h:Ow w base k T v xs):Sl w k v xs:=by
 have h':=h;obtain⟨h1,h2⟩:=h;rcases h2 with ⟨rfl,h2⟩ | ⟨g,cap,cur,rfl,hb,hg,hn,hm,hs,ht⟩
 ·have:xs=[]:=List.eq_nil_of_length_eq_zero h2;subst this;exact Sl.nil _ _
 refine⟨some ⟨g,0,none⟩,cap,rfl,hn,by unfold maxLen at hm;omega,(fun e=>by cases e),fun i hi=>⟨_,rfl,?_⟩⟩;rw[addr_at,Nat.zero_add,World.ownsRow.cellAt h' i (by omega)]
 simp[hi,nth_eq hi]
theorem Ow.base_le {w:World} {base:Nat} {k:IntKind} {T:TypeId} {v:Value} {xs:List Nat} (h:Ow w base k T v xs):∀ j,v.ownBlock=some j->base<=j:=fun j hj=>(World.ownsRow.lt h j hj).1
theorem wpList_append_one {P:Program} (w:World) {ops:Array Oper} {rest:List Oper} {o:Oper} {a:Act} {Q:Exit->Act->World->Prop} (hgd:o.guard=none) (s x:Operand) (t:TypeId)
  (ho:o.op=.call { callee:=.builtin .append,args:=#[s,x],argTypes:=#[t,t] })
  (e:TypeId) (i:TypeInfo) (k:IntKind) (ht:P.underlying t=some (.slice e)) (hi:P.info? e=some i) (hz:i.zero=some (.int k 0)) (hsize:i.size=1) (hby:i.bytes<=8)
  (base:Nat) (v:Value) (xs:List Nat) (hs:a.eval s=v) (hown:Ow w base k e v xs)
  (h:Nat) (z:Int) (n:Nat) (hx:a.eval x=.slice (some ⟨h,0,none⟩) 1 1) (hc:w.cell? ⟨h,0,none⟩=some (.int k z)) (hzn:z=(n:Int))
  (hlen:xs.length<=1000000000) (hbase:base<=w.heap.size)
  (hK:∀ v' w',Ow w' base k e v' (xs++[n])->Below base w w'->wpList P ops Q rest (a.put o.dst v') w'):wpList P ops Q (o::rest) a w:=by
 have hb2:(xs.length+1)*i.bytes<=140737488355328:=Nat.le_trans (Nat.mul_le_mul (show xs.length+1<=1000000001 by omega) hby) (by omega);refine wpList_append_own w hgd s x t ho base e i (.int k 0) 1 i.bytes ht hi hz hsize rfl rfl (by decide) v xs.length _ hs hown ⟨h,0,none⟩ 1 1 [.int k z] hx rfl ?_ ?_ (by unfold maxLen;omega) hb2 hbase ?_
 ·intro j u hj
  match j,hj with
  | 0,hj=>simp at hj;subst hj;simpa [Addr.add] using hc
 ·intro u hu;simp at hu;subst hu;rfl
 intro v' w' h1 h2 _;refine hK v' w' ?_ ⟨h2.os,h2.tape,h2.output,h2.size,fun j hj=>h2.block j (by omega) (fun e'=>?_)⟩
 ·unfold Ow;have:(xs++[n]).map (fun (x:Nat)=>Value.int k ((x:Nat):Int))=xs.map (fun (x:Nat)=>Value.int k ((x:Nat):Int))++[.int k z]:=by rw[hzn];simp
  rw[this,lsa];exact h1
 have:=hown.base_le j e'.symm
 omega
def bor32 (x y c:Int):Int:=if x<y+c then 1 else 0
theorem testBit31 (n:Nat) (h:n<4294967296):n / 2147483648=(n.testBit 31).toNat:=by
 rw[Nat.testBit_eq_decide_div_mod_eq];have:n / 2 ^ 31<2:=by omega
 rcases (show n / 2 ^ 31=0\/n / 2 ^ 31=1 by omega) with h | h<;>simp[h]<;>omega
theorem top31 (n:Nat) (h:n<4294967296):n.testBit 31=decide (2147483648<=n):=by
 have:=testBit31 n h
 cases hb:n.testBit 31
 ·rw[hb] at this;simp at this ⊢;omega
 rw[hb] at this;simp at this ⊢;omega
theorem borrow_bits (x y d:Nat) (hx:x<4294967296) (hy:y<4294967296) (hd:d<4294967296) :
  (((4294967295 ^^^ x) &&& y) ||| ((4294967295 ^^^ (x ^^^ y)) &&& d)) / 2147483648 =
   if (x<2147483648/\2147483648<=y)\/((x<2147483648 ↔ y<2147483648)/\2147483648<=d) then 1 else 0:=by
 have l1:(4294967295 ^^^ x)<2 ^ 32:=Nat.xor_lt_two_pow (by omega) (by omega);have l2:(x ^^^ y)<2 ^ 32:=Nat.xor_lt_two_pow (by omega) (by omega);have l3:(4294967295 ^^^ (x ^^^ y))<2 ^ 32:=Nat.xor_lt_two_pow (by omega) l2;have l4:(4294967295 ^^^ x) &&& y<2 ^ 32:=Nat.and_lt_two_pow _ (by omega);have l5:(4294967295 ^^^ (x ^^^ y)) &&& d<2 ^ 32:=Nat.and_lt_two_pow _ (by omega);rw[testBit31 _ (Nat.or_lt_two_pow l4 l5)];simp only[Nat.testBit_or,Nat.testBit_and,Nat.testBit_xor];rw[top31 x hx,top31 y hy,top31 d hd,top31 4294967295 (by omega)]
 by_cases a:x<2147483648<;>by_cases b:y<2147483648<;>by_cases c:2147483648<=d<;>simp[a,b,c,Nat.not_le.2,Nat.not_lt.1]<;>omega
theorem borrow_u32 (x y c:Int) (hx:0<=x/\x<4294967296) (hy:0<=y/\y<4294967296) (hc:0<=c/\c<=1) :
  bits BinOp.or IntKind.u32 (bits BinOp.and IntKind.u32 (bits BinOp.xor IntKind.u32 IntKind.u32.max x) y)
        (bits BinOp.and IntKind.u32 (bits BinOp.xor IntKind.u32 IntKind.u32.max (bits BinOp.xor IntKind.u32 x y)) ((x - y - c) % 4294967296)) / 2147483648=bor32 x y c:=by
 obtain⟨X,rfl⟩:=Int.eq_ofNat_of_zero_le hx.1;obtain⟨Y,rfl⟩:=Int.eq_ofNat_of_zero_le hy.1;obtain⟨D,hD⟩:=Int.eq_ofNat_of_zero_le (show 0<=((X:Int) - Y - c) % 4294967296 by omega);have hX:X<4294967296:=by omega
 have hY:Y<4294967296:=by omega
 have hD':D<4294967296:=by omega
 have em:IntKind.u32.max=((4294967295:Nat):Int):=by decide
 have l1:(4294967295 ^^^ X)<2 ^ 32:=Nat.xor_lt_two_pow (by omega) (by omega);have l2:(X ^^^ Y)<2 ^ 32:=Nat.xor_lt_two_pow (by omega) (by omega);have l3:(4294967295 ^^^ (X ^^^ Y))<2 ^ 32:=Nat.xor_lt_two_pow (by omega) l2;have l4:(4294967295 ^^^ X) &&& Y<2 ^ 32:=Nat.and_lt_two_pow _ (by omega);have l5:(4294967295 ^^^ (X ^^^ Y)) &&& D<2 ^ 32:=Nat.and_lt_two_pow _ (by omega);rw[hD,em,u32_xor_nat _ _ (by omega) hX,u32_xor_nat X Y hX hY,u32_xor_nat _ _ (by omega) (by omega),u32_and_nat _ _ (by omega) hY,u32_and_nat _ _ (by omega) hD',u32_or_nat _ _ (by omega) (by omega)];have hb:=borrow_bits X Y D hX hY hD';have e:((((4294967295 ^^^ X) &&& Y ||| (4294967295 ^^^ (X ^^^ Y)) &&& D:Nat):Int)) / 2147483648=(((((4294967295 ^^^ X) &&& Y) ||| ((4294967295 ^^^ (X ^^^ Y)) &&& D)) / 2147483648:Nat):Int):=by omega
 rw[e,hb];unfold bor32
 by_cases h:(X:Int)<Y+c
 ·rw[if_pos h,if_pos (by omega)];rfl
 rw[if_neg h,if_neg (by omega)];rfl
theorem add32_any (x y c:Int) (w:World) (hx:0<=x/\x<4294967296)  (hy:0<=y/\y<4294967296) (hc:0<=c/\c<=1) :
  Calls Tryz.prog 129 #[.int .u32 x,.int .u32 y,.int .u32 c] w fun e w'=>e=.returned (.tuple #[.int .u32 ((x+y+c) % 4294967296),.int .u32 ((x+y+c) / 4294967296)])/\w=w':=by
 go_enter Tryz.func129,Tryz.ntmps129
 go_wp2
 go_ret2
 exact⟨rfl,rfl⟩
theorem sub32_any (x y c:Int) (w:World) (hx:0<=x/\x<4294967296)  (hy:0<=y/\y<4294967296) (hc:0<=c/\c<=1) :
  Calls Tryz.prog 130 #[.int .u32 x,.int .u32 y,.int .u32 c] w fun e w'=>e=.returned (.tuple #[.int .u32 ((x - y - c) % 4294967296),.int .u32 (bor32 x y c)])/\w=w':=by
 have hb:=Lib.hid (borrow_u32 x y c hx hy hc);go_enter Tryz.func130,Tryz.ntmps130
 go_wp2
 all_goals first
  | (go_ret2;exact⟨by rw[<-hb.out];rfl,rfl⟩)
  | (exfalso;rename_i h;exact h rfl)
theorem sig_any (ao:Option Addr) (n cap:Nat) (xs:List Nat) (w:World) (h:Sl w .u32 (.slice ao n cap) xs) :
  Calls Tryz.prog 100 #[.slice ao n cap] w fun e w'=>e=.returned (.slice ao (nz xs) cap)/\w=w':=by
 have H:=Lib.hid h;obtain⟨ao',cap',e,h1,h2,h3,h4⟩:=h;injection e with e1 e2 e3;subst e1;subst e2;subst e3;go_enter Tryz.func100,Tryz.ntmps100
 go_wp2
 go_loop [3] (fun n=>∃ k:Nat,k<=xs.length/\n=.int .i64 k/\Hid (nz (xs.take k)=nz xs)) (fun n=>(intOf n).toNat)
 case atStart=>exact⟨xs.length,Nat.le_refl _,rfl,Lib.hid (by rw[List.take_length])⟩
 case round =>
  obtain⟨k,hk,rfl,Hn⟩:=hrel
  by_cases h0:0<k
  ·obtain⟨a,rfl,g⟩:=h4 (k-1) (by omega);clear h4
   go_wp2
   ·have hz:(nth xs (k - 1)==0)=true:=by assumption
    go_round
    case rel=>exact⟨k - 1,by omega,by go_num,Lib.hid (by rw[<-Hn.out,<-nz_zero (k:=k - 1) (by omega) (by have:=nth_eq (xs:=xs) (i:=k - 1) (by omega);simp at hz;unfold nth at hz;omega),show k - 1+1=k by omega])⟩
    case measure=>simp[intOf];omega
   have hz:(nth xs (k - 1)==0)=false:=by assumption
   have hk':k=nz xs:=by
    rw[<-Hn.out,show k=(k - 1)+1 by omega,nz_pos (by omega) (by simp at hz;unfold nth at hz;omega)]
   subst hk';go_ret
   exact⟨rfl,rfl⟩
  have hk':k=nz xs:=by
   rw[<-Hn.out,show k=0 by omega];rfl
  have HK:=Lib.hid hk';clear hk';have hk0:k=0:=by omega
  subst hk0
  go_wp2
  go_ret
  exact⟨by rw[<-HK.out];rfl,rfl⟩
def trimmedOf (ao:Option Addr) (cap:Nat) (xs:List Nat):Value:=if nz xs=0 then .slice none 0 0 else .slice ao (nz xs) cap
theorem trimmed_any (ao:Option Addr) (n cap:Nat) (xs:List Nat) (w:World) (h:Sl w .u32 (.slice ao n cap) xs) :
  Calls Tryz.prog 99 #[.slice ao n cap] w fun e w'=>e=.returned (trimmedOf ao cap xs)/\w=w':=by
 by_cases h0:nz xs=0
 ·have H0:=Lib.hid h0;clear h0;have hz:(((nz xs:Nat):Int)==0)=true:=by rw[H0.out];rfl
  go_enter Tryz.func99,Tryz.ntmps99
  go_wp2_with (go_at_call 100;refine (sig_any _ _ _ _ _ h).mono ?_;rintro e w' ⟨rfl,rfl⟩)
  go_ret
  exact⟨by unfold trimmedOf;rw[if_pos H0.out];rfl,rfl⟩
 have hz:(((nz xs:Nat):Int)==0)=false:=by simp;omega
 go_enter Tryz.func99,Tryz.ntmps99
 go_wp2_with (go_at_call 100;refine (sig_any _ _ _ _ _ h).mono ?_;rintro e w' ⟨rfl,rfl⟩)
 go_ret
 exact⟨by unfold trimmedOf;rw[if_neg h0];rfl,rfl⟩
theorem info51:(Tryz.prog.info? 113).map (fun i=>(i.zero,i.size,i.bytes))=some (some (.int .u32 0),1,4):=by kernel_rfl
theorem size51:(Tryz.prog.info? 113).map (·.size)=some 1:=by kernel_rfl
theorem padded_any (ao:Option Addr) (m cap:Nat) (xs:List Nat) (n:Nat) (z:Int) (w:World) (h:Sl w .u32 (.slice ao m cap) xs) (hn:xs.length<=n) (hb:n<=1073741824) (hzn:z=(n:Int)) :
  Calls Tryz.prog 101 #[.slice ao m cap,.int .i64 z] w fun e w'=>∃ v,e=.returned v/\Ws w' .u32 113 v w.heap.size [] (xs++List.replicate (n - xs.length) 0) []/\Below w.heap.size w w'/\(n≠0->w.heap.size<w'.heap.size):=by
 subst hzn
 by_cases h0:n=0
 ·subst h0;have hx:xs=[]:=List.eq_nil_of_length_eq_zero (by omega);subst hx;go_enter Tryz.func101,Tryz.ntmps101
  go_wp2
  go_ret
  exact⟨_,rfl,⟨none,0,rfl,by simp,by omega,fun _=>rfl,fun e=>by simp at e⟩,Below.refl _ _,fun e=>absurd rfl e⟩
 obtain⟨i0,hi,hz0,hz1,hz2⟩:=info_parts info51;have hz:(((n:Nat):Int)==0)=false:=by simp;omega
 go_enter Tryz.func101,Tryz.ntmps101
 go_wp2_with (at_make;refine wpList_make_blk _ rfl _ _ 24 rfl 113 i0 .u32 Tryz.underlying24 hi hz0 hz1 _ _ _ _ n rfl rfl rfl rfl ?b2 ?b3 ?_)
 case b2=>omega
 case b3=>omega
 intro w1 hB1 hb1 hs1;go_wp2_with (with_reducible refine wpList_copy_blk rfl (.tmp 10) (.tmp 11) 24 24 rfl 113 Tryz.underlying24 size51 w.heap.size n n ao m cap rfl rfl .u32 113 _ xs hB1 ?c1 (h.below hb1) hn w.heap.size w hb1 (Nat.le_refl _) ?_)
 case c1=>simp
 intro w2 hB2 hb2
 go_wp2
 go_ret
 refine⟨_,rfl,?_,hb2,fun _=>hB2.lt⟩;refine⟨some ⟨w.heap.size,0,none⟩,n,?_,?_,by omega,(fun e=>by cases e),fun _=>⟨rfl,?_⟩⟩
 ·simp;omega
 ·simp;omega
 simpa using hB2
theorem step_add {B:Nat} (t ys:List Nat) (S k cc:Nat) (hy:k<ys.length) (ht:k<t.length) (h:val B t+cc*B ^ k=S+val B (ys.take k)) :
  val B (t.set k ((t.getD k 0+ys.getD k 0+cc) % B))+((t.getD k 0+ys.getD k 0+cc) / B)*B ^ (k+1)=S+val B (ys.take (k+1)):=by
 have h1:=val_set B t k ((t.getD k 0+ys.getD k 0+cc) % B) ht;rw[val_take_succ B ys k hy];have h2:=Nat.mod_add_div (t.getD k 0+ys.getD k 0+cc) B;generalize (t.getD k 0+ys.getD k 0+cc) % B=r at *;generalize (t.getD k 0+ys.getD k 0+cc) / B=q at *;rw[Nat.pow_succ]
 grind
theorem step_carry {B:Nat} (t:List Nat) (S k cc:Nat) (ht:k<t.length) (h:val B t+cc*B ^ k=S) :
  val B (t.set k ((t.getD k 0+cc) % B))+((t.getD k 0+cc) / B)*B ^ (k+1)=S:=by
 have h1:=val_set B t k ((t.getD k 0+cc) % B) ht;have h2:=Nat.mod_add_div (t.getD k 0+cc) B;generalize (t.getD k 0+cc) % B=r at *;generalize (t.getD k 0+cc) / B=q at *;rw[Nat.pow_succ]
 grind
theorem end_carry {B:Nat} {t:List Nat} {S n cc:Nat} (hd:Dig B t) (hn:t.length=n) (h:val B t+cc*B ^ n=S):val B t=S % B ^ n:=by
 have h1:=val_lt hd;rw[hn] at h1;rw[<-h,Nat.add_mul_mod_self_right,Nat.mod_eq_of_lt h1]
theorem addTo_any (g:Nat) (pre s post ys:List Nat) (vs vb:Value) (w:World) (hw:Ws w .u32 113 vs g pre s post) (hb:Sl w .u32 vb ys) (ha:Apart g vb) (hl:ys.length<=s.length)
  (hs:Dig 4294967296 s) (hy:Dig 4294967296 ys) :
  Calls Tryz.prog 102 #[vs,vb] w fun e w'=>∃ s',e=.returned (.tuple #[])/\Ws w' .u32 113 vs g pre s' post/\w.grownBy w' (some g)/\s'.length=s.length/\Dig 4294967296 s' /\
   val 4294967296 s'=(val 4294967296 s+val 4294967296 ys) % 4294967296 ^ s.length:=by
 obtain⟨ao,cap,rfl,h1,h2,h3,h4⟩:=hw;have HB:=Lib.hid hb;obtain⟨bo,bcap,rfl,k1,k2,k3,k4⟩:=hb;go_enter Tryz.func102,Tryz.ntmps102
 go_wp2
 go_loopw [4,10] (fun c i wr=>∃ (k:Nat) (t:List Nat) (cc:Nat),i=.int .i64 k/\c=.int .u32 (cc:Int)/\cc<=1/\k<=ys.length/\w.grownBy wr (some g)/\Hid (t.length=s.length)/\Dig 4294967296 t /\
   WsAt wr .u32 113 ao g pre t post s.length /\
   Hid (val 4294967296 t+cc*4294967296 ^ k=val 4294967296 s+val 4294967296 (ys.take k)))
  (fun _ i _=>ys.length - (intOf i).toNat)
 case atStart=>exact⟨0,s,0,rfl,rfl,by omega,by omega,World.grownBy.refl _ _,Lib.hid rfl,hs,h4,Lib.hid (by simp[val])⟩
 case round =>
  obtain⟨k,t,cc,rfl,rfl,hcc,hk,hg,Ht,hdt,hB,HV⟩:=hrel
  by_cases hlt:k<ys.length
  ·obtain⟨b,rfl,hcb⟩:=k4 k hlt;obtain⟨rfl,hB'⟩:=hB (by omega);have hkt:k<t.length:=by have:=Ht.out;omega
   have hcb':=(HB.out.grown hg ha).at hlt
   have hct:wr.cell? ⟨g,pre.length+k,none⟩=some (.int .u32 (nth t k)):=by
    rw[hB'.cell (by simp;omega),nth_mid _ _ _ _ hkt]
   have hft:=hB'.frozen (pre.length+k);have y1:=u32_wf hy k;have t1:=u32_wf hdt k;clear hcb hB h4 k4;go_wp2_with (go_at_call 129;refine (add32_any _ _ _ _ (by omega) (by omega) (by omega)).mono ?_;rintro e w' ⟨rfl,rfl⟩)
   go_roundw
   case rel =>
    refine⟨k+1,t.set k ((t.getD k 0+ys.getD k 0+cc) % 4294967296),(t.getD k 0+ys.getD k 0+cc) / 4294967296,by go_num,?_,?_,by omega,grown_setCell hg _,Lib.hid (by rw[List.length_set];exact Ht.out),hdt.set (by omega),fun _=>⟨rfl,?_⟩,Lib.hid (step_add t ys _ k cc hlt hkt HV.out)⟩
    ·congr 1
    ·unfold nth at y1 t1;omega
    rw[<-set_mid _ _ _ _ _ hkt];exact hB'.set _ _ _ (by unfold nth;omega)
   case measure=>simp[intOf];omega
  have hkk:k=ys.length:=by omega
  subst hkk
  go_wp2
  clear hk hlt
  go_loopw [4,7] (fun c i w2=>∃ (j:Nat) (t:List Nat) (cc:Nat),i=.int .i64 j/\c=.int .u32 (cc:Int)/\cc<=1/\j<=s.length/\w.grownBy w2 (some g)/\Hid (t.length=s.length)/\Dig 4294967296 t /\
    WsAt w2 .u32 113 ao g pre t post s.length /\
    Hid (val 4294967296 t+cc*4294967296 ^ j=val 4294967296 s+val 4294967296 ys))
   (fun _ i _=>s.length - (intOf i).toNat)
  case atStart=>exact⟨ys.length,t,cc,rfl,rfl,hcc,hl,hg,Ht,hdt,hB,Lib.hid (by rw[HV.out,List.take_length])⟩
  case round =>
   clear hB HV hdt Ht hg hcc k4;obtain⟨k,t,cc,rfl,rfl,hcc,hk,hg,Ht,hdt,hB,HV⟩:=hrel
   by_cases hlt:0<cc/\k<s.length
   ·obtain⟨hc0,hlt⟩:=hlt;obtain⟨rfl,hB'⟩:=hB (by omega);have hkt:k<t.length:=by have:=Ht.out;omega
    have hct:wr.cell? ⟨g,pre.length+k,none⟩=some (.int .u32 (nth t k)):=by
     rw[hB'.cell (by simp;omega),nth_mid _ _ _ _ hkt]
    have hft:=hB'.frozen (pre.length+k);have t1:=u32_wf hdt k;clear hB h4;go_wp2_with (go_at_call 129;refine (add32_any _ _ _ _ (by omega) (by omega) (by omega)).mono ?_;rintro e w' ⟨rfl,rfl⟩)
    go_roundw
    case rel =>
     refine⟨k+1,t.set k ((t.getD k 0+cc) % 4294967296),(t.getD k 0+cc) / 4294967296,by go_num,?_,?_,by omega,grown_setCell hg _,Lib.hid (by rw[List.length_set];exact Ht.out),hdt.set (by omega),fun _=>⟨rfl,?_⟩,Lib.hid (step_carry t _ k cc hkt HV.out)⟩
     ·congr 1
     ·unfold nth at t1;omega
     rw[<-set_mid _ _ _ _ _ hkt];exact hB'.set _ _ _ (by unfold nth;omega)
    case measure=>simp[intOf];omega
   have hend:val 4294967296 t=(val 4294967296 s+val 4294967296 ys) % 4294967296 ^ s.length:=by
    by_cases h0:cc=0
    ·have hv:=HV.out;subst h0;rw[Nat.zero_mul,Nat.add_zero] at hv;rw[<-hv,Nat.mod_eq_of_lt (by rw[<-Ht.out];exact val_lt hdt)]
    have:k=s.length:=by omega
    subst this;exact end_carry hdt Ht.out HV.out
   have Hend:=Lib.hid hend;clear hend;have hfin:Ws wr .u32 113 (.slice ao s.length cap) g pre t post:=⟨ao,cap,by rw[Ht.out],by rw[Ht.out];exact h1,h2,h3,by rw[Ht.out];exact hB⟩
   clear h4
   by_cases hc0:0<cc
   ·go_wp2
    go_end0
    exact⟨t,rfl,hfin,hg,Ht.out,hdt,Hend.out⟩
   go_wp2
   go_end0
   exact⟨t,rfl,hfin,hg,Ht.out,hdt,Hend.out⟩
abbrev L32:Nat:=4294967296
theorem step_sub {B:Nat} (t ys:List Nat) (S k cc v b:Nat) (hy:k<ys.length) (ht:k<t.length) (h:val B t+val B (ys.take k)=S+cc*B ^ k) (hv:v+ys.getD k 0+cc=t.getD k 0+b*B) :
  val B (t.set k v)+val B (ys.take (k+1))=S+b*B ^ (k+1):=by
 have h1:=val_set B t k v ht;rw[val_take_succ B ys k hy,Nat.pow_succ];generalize B ^ k=P at *;have h3:v*P+ys.getD k 0*P+cc*P=t.getD k 0*P+b*B*P:=by rw[<-Nat.add_mul,<-Nat.add_mul,hv,Nat.add_mul]
 grind
theorem step_borrow {B:Nat} (t:List Nat) (S Y k cc v b:Nat) (ht:k<t.length) (h:val B t+Y=S+cc*B ^ k) (hv:v+cc=t.getD k 0+b*B) :
  val B (t.set k v)+Y=S+b*B ^ (k+1):=by
 have h1:=val_set B t k v ht;rw[Nat.pow_succ];generalize B ^ k=P at *;have h3:v*P+cc*P=t.getD k 0*P+b*B*P:=by rw[<-Nat.add_mul,hv,Nat.add_mul]
 grind
theorem bor32_nat (x y c:Nat) (hx:x<4294967296) (hy:y<4294967296) (hc:c<=1) :
  ∃ b:Nat,bor32 x y c=(b:Int)/\b<=1/\∃ v:Nat,((x:Int) - y - c) % 4294967296=(v:Int)/\v<4294967296/\v+y+c=x+b*4294967296:=by
 unfold bor32
 by_cases h:(x:Int)<y+c
 ·rw[if_pos h];exact⟨1,rfl,by omega,(((x:Int) - y - c) % 4294967296).toNat,by omega,by omega,by omega⟩
 rw[if_neg h];exact⟨0,rfl,by omega,(((x:Int) - y - c) % 4294967296).toNat,by omega,by omega,by omega⟩
theorem subFrom_any (g:Nat) (pre s post ys:List Nat) (vs vb:Value) (w:World) (hw:Ws w .u32 113 vs g pre s post) (hb:Sl w .u32 vb ys) (ha:Apart g vb) (hl:ys.length<=s.length)
  (hs:Dig 4294967296 s) (hy:Dig 4294967296 ys) (hle:val 4294967296 ys<=val 4294967296 s) :
  Calls Tryz.prog 103 #[vs,vb] w fun e w'=>∃ s',e=.returned (.tuple #[])/\Ws w' .u32 113 vs g pre s' post/\w.grownBy w' (some g)/\s'.length=s.length/\Dig 4294967296 s' /\
   val 4294967296 s'=val 4294967296 s - val 4294967296 ys:=by
 have HLE:=Lib.hid hle;clear hle;obtain⟨ao,cap,rfl,h1,h2,h3,h4⟩:=hw;have HB:=Lib.hid hb;obtain⟨bo,bcap,rfl,k1,k2,k3,k4⟩:=hb;go_enter Tryz.func103,Tryz.ntmps103
 go_wp2
 go_loopw [4,10] (fun c i wr=>∃ (k:Nat) (t:List Nat) (cc:Nat),i=.int .i64 k/\c=.int .u32 (cc:Int)/\cc<=1/\k<=ys.length/\w.grownBy wr (some g)/\Hid (t.length=s.length)/\Dig 4294967296 t /\
   WsAt wr .u32 113 ao g pre t post s.length /\
   Hid (val 4294967296 t+val 4294967296 (ys.take k)=val 4294967296 s+cc*4294967296 ^ k))
  (fun _ i _=>ys.length - (intOf i).toNat)
 case atStart=>exact⟨0,s,0,rfl,rfl,by omega,by omega,World.grownBy.refl _ _,Lib.hid rfl,hs,h4,Lib.hid (by simp[val])⟩
 case round =>
  obtain⟨k,t,cc,rfl,rfl,hcc,hk,hg,Ht,hdt,hB,HV⟩:=hrel
  by_cases hlt:k<ys.length
  ·obtain⟨b,rfl,hcb⟩:=k4 k hlt;obtain⟨rfl,hB'⟩:=hB (by omega);have hkt:k<t.length:=by have:=Ht.out;omega
   have hcb':=(HB.out.grown hg ha).at hlt
   have hct:wr.cell? ⟨g,pre.length+k,none⟩=some (.int .u32 (nth t k)):=by
    rw[hB'.cell (by simp;omega),nth_mid _ _ _ _ hkt]
   have hft:=hB'.frozen (pre.length+k);have y1:=u32_wf hy k;have t1:=u32_wf hdt k;clear hcb hB h4 k4;go_wp2_with (go_at_call 130;refine (sub32_any _ _ _ _ (by omega) (by omega) (by omega)).mono ?_;rintro e w' ⟨rfl,rfl⟩)
   go_roundw
   case rel =>
    obtain⟨b',e1,e2,v',e3,e4,e5⟩:=bor32_nat (t.getD k 0) (ys.getD k 0) cc (by unfold nth at t1;omega) (by unfold nth at y1;omega) hcc;refine⟨k+1,t.set k v',b',by go_num,?_,e2,by omega,grown_setCell hg _,Lib.hid (by rw[List.length_set];exact Ht.out),hdt.set e4,fun _=>⟨rfl,?_⟩,Lib.hid (step_sub t ys _ k cc v' b' hlt hkt HV.out e5)⟩
    ·rw[<-e1];rfl
    rw[<-set_mid _ _ _ _ _ hkt];exact hB'.set _ _ _ e3
   case measure=>simp[intOf];omega
  have hkk:k=ys.length:=by omega
  subst hkk
  go_wp2
  clear hk hlt
  go_loopw [4,7] (fun c i w2=>∃ (j:Nat) (t:List Nat) (cc:Nat),i=.int .i64 j/\c=.int .u32 (cc:Int)/\cc<=1/\j<=s.length/\w.grownBy w2 (some g)/\Hid (t.length=s.length)/\Dig 4294967296 t /\
    WsAt w2 .u32 113 ao g pre t post s.length /\
    Hid (val 4294967296 t+val 4294967296 ys=val 4294967296 s+cc*4294967296 ^ j))
   (fun _ i _=>s.length - (intOf i).toNat)
  case atStart=>exact⟨ys.length,t,cc,rfl,rfl,hcc,hl,hg,Ht,hdt,hB,Lib.hid (by rw[<-HV.out,List.take_length])⟩
  case round =>
   clear hB HV hdt Ht hg hcc k4;obtain⟨k,t,cc,rfl,rfl,hcc,hk,hg,Ht,hdt,hB,HV⟩:=hrel
   by_cases hc0:0<cc
   ·have hlt:k<s.length:=by
     rcases Nat.lt_or_ge k s.length with h | h
     ·exact h
     exfalso
     have hk':k=s.length:=by omega
     have hv:=HV.out;have hv2:=val_lt hdt;have hle:=HLE.out;rw[Ht.out] at hv2;rw[hk',show cc=1 by omega] at hv
     omega
    obtain⟨rfl,hB'⟩:=hB (by omega);have hkt:k<t.length:=by have:=Ht.out;omega
    have hct:wr.cell? ⟨g,pre.length+k,none⟩=some (.int .u32 (nth t k)):=by
     rw[hB'.cell (by simp;omega),nth_mid _ _ _ _ hkt]
    have hft:=hB'.frozen (pre.length+k);have t1:=u32_wf hdt k;clear hB h4;go_wp2_with (go_at_call 130;refine (sub32_any _ _ _ _ (by omega) (by omega) (by omega)).mono ?_;rintro e w' ⟨rfl,rfl⟩)
    go_roundw
    case rel =>
     obtain⟨b',e1,e2,v',e3,e4,e5⟩:=bor32_nat (t.getD k 0) 0 cc (by unfold nth at t1;omega) (by omega) hcc;refine⟨k+1,t.set k v',b',by go_num,?_,e2,by omega,grown_setCell hg _,Lib.hid (by rw[List.length_set];exact Ht.out),hdt.set e4,fun _=>⟨rfl,?_⟩,Lib.hid (step_borrow t _ _ k cc v' b' hkt HV.out (by omega))⟩
     ·rw[<-e1];rfl
     rw[<-set_mid _ _ _ _ _ hkt];exact hB'.set _ _ _ (by rw[<-e3];unfold nth;omega)
    case measure=>simp[intOf];omega
   have hend:val 4294967296 t=val 4294967296 s - val 4294967296 ys:=by
    have hv:=HV.out;rw[show cc=0 by omega,Nat.zero_mul,Nat.add_zero] at hv
    omega
   have Hend:=Lib.hid hend;clear hend;have hfin:Ws wr .u32 113 (.slice ao s.length cap) g pre t post:=⟨ao,cap,by rw[Ht.out],by rw[Ht.out];exact h1,h2,h3,by rw[Ht.out];exact hB⟩
   clear h4
   go_wp2
   go_end0
   exact⟨t,rfl,hfin,hg,Ht.out,hdt,Hend.out⟩
def cmpN (a b:Nat):Int:=if a<b then -1 else if a=b then 0 else 1
theorem cmp_len {xs ys:List Nat} (hx:Dig L32 xs) (hy:Dig L32 ys) (h:nz xs<nz ys):val L32 xs<val L32 ys:=by
 have h1:=length_dig_val (B:=L32) (by decide) hx;have h2:=length_dig_val (B:=L32) (by decide) hy;exact Nat.lt_of_lt_of_le (lt_pow_of_length (B:=L32) (k:=nz xs) (by decide) (by omega)) (le_of_length (by decide) (by omega))
theorem val_split (B:Nat) (xs:List Nat) (k:Nat) (h:k<=xs.length):val B xs=val B (xs.take k)+B ^ k*val B (xs.drop k):=by
 have:=val_append B (xs.take k) (xs.drop k);rw[List.take_append_drop] at this;rw[this,List.length_take,Nat.min_eq_left h]
theorem cmp_top {B:Nat} {xs ys:List Nat} {k:Nat} (hx:Dig B xs) (hk:k<xs.length) (hk':k<ys.length) (he:xs.drop (k+1)=ys.drop (k+1)) (h:xs.getD k 0<ys.getD k 0):val B xs<val B ys:=by
 rw[val_split B xs (k+1) (by omega),val_split B ys (k+1) (by omega),he,val_take_succ B xs k hk,val_take_succ B ys k hk'];have h1:=val_lt (hx.take k);rw[List.length_take,Nat.min_eq_left (by omega)] at h1;have h2:(xs.getD k 0+1)*B ^ k<=ys.getD k 0*B ^ k:=Nat.mul_le_mul_right _ h;rw[Nat.add_mul,Nat.one_mul] at h2
 omega
theorem drop_step {xs ys:List Nat} {k:Nat} (hk:k<xs.length) (hk':k<ys.length) (he:xs.drop (k+1)=ys.drop (k+1)) (h:xs.getD k 0=ys.getD k 0):xs.drop k=ys.drop k:=by
 rw[List.drop_eq_getElem_cons hk,List.drop_eq_getElem_cons hk',he]
 congr 1
 simpa [List.getD,hk,hk'] using h
theorem cmpN_lt {a b:Nat} (h:a<b):cmpN a b = -1:=by unfold cmpN;rw[if_pos h]
theorem cmpN_gt {a b:Nat} (h:b<a):cmpN a b=1:=by unfold cmpN;rw[if_neg (by omega),if_neg (by omega)]
theorem cmpN_eq {a b:Nat} (h:a=b):cmpN a b=0:=by unfold cmpN;rw[if_neg (by omega),if_pos h]
theorem below_drewN' (w:World) (n:Nat) (B:Nat):Below B w (w.drewN n):=⟨rfl,rfl,rfl,Nat.le_refl _,fun _ _=>rfl⟩
theorem calm_behind {P:Program} {f:FuncId} {args:Array Value} {w:World} {a b:Nat} {v:Value} (h:∀ W:World,Calls P f args W fun e w'=>e=.returned v/\w'=W) :
  Calls P f args (w.drewN (a+b)) fun e w'=>e=.returned v/\∃ m,w'=w.drewN (a+m):=
 (h (w.drewN (a+b))).mono fun _ _ hh=>⟨hh.1,b,hh.2⟩
theorem order_t (w:World):Calls Tryz.prog 109 #[.bool true] w fun e w'=>e=.returned (.int .i64 (-1))/\w'=w:=by
 go_enter Tryz.func109,Tryz.ntmps109
 go_wp2
 go_ret
 exact⟨rfl,rfl⟩
theorem order_f (w:World):Calls Tryz.prog 109 #[.bool false] w fun e w'=>e=.returned (.int .i64 1)/\w'=w:=by
 go_enter Tryz.func109,Tryz.ntmps109
 go_wp2
 go_ret
 exact⟨rfl,rfl⟩
theorem cmp_any (va vb:Value) (xs ys:List Nat) (w:World) (hx:Sl w .u32 va xs) (hy:Sl w .u32 vb ys) (dx:Dig L32 xs) (dy:Dig L32 ys) :
  Calls Tryz.prog 73 #[va,vb] w fun e w'=>e=.returned (.int .i64 (cmpN (val L32 xs) (val L32 ys)))/\Below w.heap.size w w':=by
 have HX:=Lib.hid hx;have HY:=Lib.hid hy;obtain⟨ao,ac,rfl,a1,a2,a3,a4⟩:=hx;obtain⟨bo,bc,rfl,b1,b2,b3,b4⟩:=hy;have nx:=nz_le xs;have ny:=nz_le ys
 by_cases hne:nz xs=nz ys
 ·have hne':(((nz xs:Nat):Int) != ((nz ys:Nat):Int))=false:=by simp[hne]
  have HN:=Lib.hid hne;clear hne;have hny:nz xs<=nz ys/\nz ys<=nz xs:=by have:=HN.out;omega
  go_enter Tryz.func73,Tryz.ntmps73
  go_wp2_with fail
  refine (sig_any _ _ _ xs _ HX.out).mono ?_;rintro e w' ⟨rfl,rfl⟩;go_wp2_with fail
  refine (sig_any _ _ _ ys _ HY.out).mono ?_;rintro e w' ⟨rfl,rfl⟩;go_wp2_with fail
  go_loopw [5] (fun i wr=>∃ k:Nat,k<=nz xs/\i=.int .i64 ((k:Int) - 1)/\Hid ((xs.take (nz xs)).drop k=(ys.take (nz ys)).drop k)/\Below w.heap.size w wr) (fun i _=>(intOf i+1).toNat)
  case atStart=>exact⟨nz xs,Nat.le_refl _,rfl,Lib.hid (by rw[HN.out,List.drop_eq_nil_of_le (by simp;omega),List.drop_eq_nil_of_le (by simp;omega)]),Below.refl _ _⟩
  case round =>
   obtain⟨k,hk,rfl,HD,hb⟩:=hrel
   by_cases h0:0<k
   ·obtain⟨a,rfl,hca⟩:=a4 (k - 1) (by omega);obtain⟨b,rfl,hcb⟩:=b4 (k - 1) (by omega);have hca':wr.cell? (a.add (k - 1))=some (.int .u32 (nth xs (k - 1))):=by rw[hb.cell (cell_lt hca)];exact hca
    have hcb':wr.cell? (b.add (k - 1))=some (.int .u32 (nth ys (k - 1))):=by rw[hb.cell (cell_lt hcb)];exact hcb
    have gx:(xs.take (nz xs)).getD (k - 1) 0=xs.getD (k - 1) 0:=by simp[List.getD,show k - 1<nz xs by omega]
    have gy:(ys.take (nz ys)).getD (k - 1) 0=ys.getD (k - 1) 0:=by simp[List.getD,show k - 1<nz ys by omega]
    have lx:(xs.take (nz xs)).length=nz xs:=by simp;omega
    have ly:(ys.take (nz ys)).length=nz ys:=by simp;omega
    have HD':Hid ((xs.take (nz xs)).drop (k - 1+1)=(ys.take (nz ys)).drop (k - 1+1)):=Lib.hid (by rw[show k - 1+1=k by omega];exact HD.out);have GX:=Lib.hid gx;have GY:=Lib.hid gy;have LX:=Lib.hid lx;have LY:=Lib.hid ly;clear gx gy lx ly hca hcb a4 b4
    by_cases he:xs.getD (k - 1) 0=ys.getD (k - 1) 0
    ·have he':(nth xs (k - 1) != nth ys (k - 1))=false:=by simp only[nth,he];exact bne_self_eq_false _
     have HE:=Lib.hid he;clear he;go_wp2_with fail
     go_quiet (fail)
     go_wp2_with fail
     go_roundw
     case rel=>exact⟨k - 1,by omega,by go_num,Lib.hid (drop_step (by have:=LX.out;omega) (by have:=LY.out;omega) HD'.out (by rw[GX.out,GY.out,HE.out])),hb.trans (below_drewN' _ _ _)⟩
     case measure=>simp[intOf];omega
    have he':(nth xs (k - 1) != nth ys (k - 1))=true:=by simp only[nth,bne_iff_ne];omega
    rcases Nat.lt_or_gt_of_ne he with hlt | hgt
    ·have hd:nth xs (k - 1)<nth ys (k - 1):=by unfold nth;omega
     have hfin:cmpN (val L32 xs) (val L32 ys) = -1:=by
      have:=cmp_top (B:=L32) (dx.take (nz xs)) (ys:=ys.take (nz ys)) (k:=k - 1) (by have:=LX.out;omega) (by have:=LY.out;omega) HD'.out (by rw[GX.out,GY.out];exact hlt);rw[val_take_nz (by decide) dx,val_take_nz (by decide) dy] at this;exact cmpN_lt this
     have HF:=Lib.hid hfin;clear he hlt hfin;go_wp2_with fail
     go_quiet (fail)
     go_wp2_with fail
     go_quiet ((go_at_call 109;exact calm_behind order_t))
     go_wp2_with fail
     go_ret
     exact⟨by rw[HF.out];rfl,(hb.trans (below_drewN' _ _ _)).trans (below_drewN' _ _ _)⟩
    have hd:nth ys (k - 1)<nth xs (k - 1):=by unfold nth;omega
    have hd':decide (nth xs (k - 1)<nth ys (k - 1))=false:=by simp;omega
    have hfin:cmpN (val L32 xs) (val L32 ys)=1:=by
     have:=cmp_top (B:=L32) (dy.take (nz ys)) (ys:=xs.take (nz xs)) (k:=k - 1) (by have:=LY.out;omega) (by have:=LX.out;omega) HD'.out.symm (by rw[GX.out,GY.out];exact hgt);rw[val_take_nz (by decide) dx,val_take_nz (by decide) dy] at this;exact cmpN_gt this
    have HF:=Lib.hid hfin;clear he hgt hfin;go_wp2_with fail
    go_quiet (fail)
    go_wp2_with fail
    go_quiet ((go_at_call 109;exact (calm_behind order_f)))
    go_wp2_with fail
    go_ret
    exact⟨by rw[HF.out];rfl,(hb.trans (below_drewN' _ _ _)).trans (below_drewN' _ _ _)⟩
   have hfin:cmpN (val L32 xs) (val L32 ys)=0:=by
    have hd:=HD.out;rw[show k=0 by omega,List.drop_zero,List.drop_zero] at hd;exact cmpN_eq (by rw[<-val_take_nz (by decide) dx,hd,val_take_nz (by decide) dy])
   have HF:=Lib.hid hfin;clear hfin;go_wp2_with fail
   go_ret
   exact⟨by rw[HF.out];rfl,hb⟩
 have hne':(((nz xs:Nat):Int) != ((nz ys:Nat):Int))=true:=by rw[bne_iff_ne];omega
 rcases Nat.lt_or_gt_of_ne hne with hlt | hgt
 ·have HF:=Lib.hid (cmpN_lt (cmp_len dx dy hlt));clear hne;go_enter Tryz.func73,Tryz.ntmps73
  go_wp2_with fail
  refine (sig_any _ _ _ xs _ HX.out).mono ?_;rintro e w' ⟨rfl,rfl⟩;go_wp2_with fail
  refine (sig_any _ _ _ ys _ HY.out).mono ?_;rintro e w' ⟨rfl,rfl⟩;go_wp2_with fail
  refine (order_t _).mono ?_;rintro e w' ⟨rfl,rfl⟩;go_wp2_with fail
  go_ret
  exact⟨by rw[HF.out];rfl,Below.refl _ _⟩
 have HF:=Lib.hid (cmpN_gt (cmp_len dy dx hgt));have hd:decide (nz xs<nz ys)=false:=by simp;omega
 clear hne;go_enter Tryz.func73,Tryz.ntmps73
 go_wp2_with fail
 refine (sig_any _ _ _ xs _ HX.out).mono ?_;rintro e w' ⟨rfl,rfl⟩;go_wp2_with fail
 refine (sig_any _ _ _ ys _ HY.out).mono ?_;rintro e w' ⟨rfl,rfl⟩;go_wp2_with fail
 refine (order_f _).mono ?_;rintro e w' ⟨rfl,rfl⟩;go_wp2_with fail
 go_ret
 exact⟨by rw[HF.out];rfl,Below.refl _ _⟩
theorem sl_apart {w:World} {k:IntKind} {v:Value} {xs:List Nat} (h:Sl w k v xs) {g:Nat} (hg:w.heap.size<=g):Apart g v:=by
 obtain⟨ao,cap,rfl,h1,h2,h3,h4⟩:=h;intro a n c e hb;injection e with e1 e2 e3;subst e2;rcases Nat.eq_zero_or_pos xs.length with h0 | h0
 ·exact h0
 obtain⟨a',e,hc⟩:=h4 0 h0;have:=cell_lt hc;rw[e1] at e;injection e with e;subst e;have hb':(a.add 0).block=a.block:=by unfold Addr.add;split<;>rfl
 omega
theorem trimmed_sl {w:World} {ao:Option Addr} {n cap:Nat} {xs:List Nat} (h:Sl w .u32 (.slice ao n cap) xs) (hd:Dig L32 xs):Sl w .u32 (trimmedOf ao cap xs) (dig L32 (val L32 xs)):=by
 rw[<-take_nz (by decide) hd];unfold trimmedOf
 by_cases h0:nz xs=0
 ·rw[if_pos h0,h0];exact Sl.nil _ _
 rw[if_neg h0];exact h.take _ (nz_le xs)
theorem Ws.at {w:World} {k:IntKind} {T:TypeId} {v:Value} {g:Nat} {pre s post:List Nat} (h:Ws w k T v g pre s post):∃ ao cap,v=.slice ao s.length cap:=by
 obtain⟨ao,cap,e,_⟩:=h;exact⟨ao,cap,e⟩
theorem trimmed_v (v:Value) (xs:List Nat) (w:World) (h:Sl w .u32 v xs) (hd:Dig L32 xs) :
  Calls Tryz.prog 99 #[v] w fun e w'=>∃ v',e=.returned v'/\Sl w .u32 v' (dig L32 (val L32 xs))/\w=w':=by
 obtain⟨ao,cap,rfl⟩:∃ ao cap,v=.slice ao xs.length cap:=by obtain⟨ao,cap,e,_⟩:=h;exact⟨ao,cap,e⟩
 exact (trimmed_any _ _ _ xs _ h).mono fun e w' ⟨he,hw⟩=>⟨_,he,trimmed_sl h hd,hw⟩
theorem below_of_grown' {B:Nat} {a b:World} {g:Nat} (h:a.grownBy b (some g)) (hg:B<=g) (hB:B<=a.heap.size:=by omega):Below B a b:=
 ⟨h.os,h.tape,h.output,h.size,fun k hk=>h.block k (by omega) (fun e=>by injection e with e;omega)⟩
theorem append_zeros_val (B:Nat) (xs:List Nat) (n:Nat):val B (xs++List.replicate n 0)=val B xs:=by
 rw[val_append,val_replicate_zero];simp
theorem add_any (va vb:Value) (xs ys:List Nat) (w:World) (hx:Sl w .u32 va xs) (hy:Sl w .u32 vb ys) (dx:Dig L32 xs) (dy:Dig L32 ys) (lx:xs.length<=1000000) (ly:ys.length<=1000000) :
  Calls Tryz.prog 67 #[va,vb] w fun e w'=>∃ v,e=.returned v/\Sl w' .u32 v (dig L32 (val L32 xs+val L32 ys))/\Below w.heap.size w w':=by
 obtain⟨ao,ac,rfl⟩:∃ ao cap,va=.slice ao xs.length cap:=by obtain⟨ao,cap,e,_⟩:=hx;exact⟨ao,cap,e⟩
 obtain⟨bo,bc,rfl⟩:∃ ao cap,vb=.slice ao ys.length cap:=by obtain⟨ao,cap,e,_⟩:=hy;exact⟨ao,cap,e⟩
 have nx:=nz_le xs;have ny:=nz_le ys;have hx':=hx.take (nz xs) nx;have hy':=hy.take (nz ys) ny;have dx':=dx.take (nz xs);have dy':=dy.take (nz ys);have ex:(xs.take (nz xs)).length=nz xs:=by simp;omega
 have ey:(ys.take (nz ys)).length=nz ys:=by simp;omega
 have EX:=Lib.hid ex;have EY:=Lib.hid ey;clear ex ey
 -- what stands behind the two cuts, for the longer one first
 have fin:∀ (s s' zs:List Nat),Dig L32 s->Dig L32 zs->zs.length<=s.length->s'.length=s.length+1->Dig L32 s'->val L32 s'=(val L32 (s++List.replicate 1 0)+val L32 zs) % L32 ^ (s.length+1)->val L32 s+val L32 zs=val L32 xs+val L32 ys ->
   dig L32 (val L32 s')=dig L32 (val L32 xs+val L32 ys):=by
  intro s s' zs h1 h2 h3 h4 h5 h6 h7;rw[h6,append_zeros_val,h7];rw[Nat.mod_eq_of_lt];rw[<-h7];have a1:=val_lt h1;have a2:=val_lt h2;have a3:L32 ^ zs.length<=L32 ^ s.length:=Nat.pow_le_pow_right (by decide) h3;rw[Nat.pow_succ];have:L32 ^ s.length*2<=L32 ^ s.length*L32:=Nat.mul_le_mul_left _ (by decide)
  omega
 have vx:=val_take_nz (B:=L32) (by decide) dx;have vy:=val_take_nz (B:=L32) (by decide) dy;have VX:=Lib.hid vx;have VY:=Lib.hid vy;clear vx vy;have FIN:=Lib.hid fin;clear fin
 by_cases hlt:nz xs<nz ys
 ·go_enter Tryz.func67,Tryz.ntmps67
  go_wp2_with fail
  refine (sig_any _ _ _ xs _ hx).mono ?_;rintro e w' ⟨rfl,rfl⟩;go_wp2_with fail
  refine (sig_any _ _ _ ys _ hy).mono ?_;rintro e w' ⟨rfl,rfl⟩;go_wp2_with fail
  refine (padded_any bo _ bc _ (nz ys+1) _ w hy' (by rw[EY.out];omega) (by omega) (by omega)).mono ?_;rintro e w1 ⟨v1,rfl,hs1,hb1,hz1⟩;have hsz:=hz1 (by omega);go_wp2_with fail
  refine (addTo_any w.heap.size [] _ [] _ _ _ w1 hs1 (hx'.below hb1) (sl_apart hx' (Nat.le_refl _)) ?_ (dy'.append (Dig.replicate (by decide) _)) dx').mono ?_
  ·rw[EX.out,lsa,EY.out];simp;omega
  rintro e w2 ⟨s',rfl,hs2,hg2,hl2,hd2,hv2⟩;have hb2:Below w.heap.size w w2:=hb1.trans (below_of_grown' hg2 (Nat.le_refl _));have HL2:=Lib.hid hl2;have HV2:=Lib.hid hv2;clear hl2 hv2;have hss:=hs2.sl;go_wp2_with fail
  refine (trimmed_v _ s' _ hss hd2).mono ?_;rintro e w3 ⟨v3,rfl,ht,rfl⟩;go_wp2_with fail
  go_ret
  refine⟨_,rfl,?_,hb2⟩;have hl:=HL2.out;have hv:=HV2.out;rw[lsa,EY.out] at hl hv;rw[show nz ys+1 - nz ys=1 by omega] at hl hv;simp only[List.length_replicate] at hl hv;rw[FIN.out (ys.take (nz ys)) s' (xs.take (nz xs)) dy' dx' (by rw[EX.out,EY.out];omega) (by rw[EY.out];exact hl) hd2 (by rw[EY.out];exact hv) (by have h1:=VX.out;have h2:=VY.out;omega)] at ht;exact ht
 go_enter Tryz.func67,Tryz.ntmps67
 go_wp2_with fail
 refine (sig_any _ _ _ xs _ hx).mono ?_;rintro e w' ⟨rfl,rfl⟩;go_wp2_with fail
 refine (sig_any _ _ _ ys _ hy).mono ?_;rintro e w' ⟨rfl,rfl⟩;go_wp2_with fail
 refine (padded_any ao _ ac _ (nz xs+1) _ w hx' (by rw[EX.out];omega) (by omega) (by omega)).mono ?_;rintro e w1 ⟨v1,rfl,hs1,hb1,hz1⟩;have hsz:=hz1 (by omega);go_wp2_with fail
 refine (addTo_any w.heap.size [] _ [] _ _ _ w1 hs1 (hy'.below hb1) (sl_apart hy' (Nat.le_refl _)) ?_ (dx'.append (Dig.replicate (by decide) _)) dy').mono ?_
 ·rw[EY.out,lsa,EX.out];simp;omega
 rintro e w2 ⟨s',rfl,hs2,hg2,hl2,hd2,hv2⟩;have hb2:Below w.heap.size w w2:=hb1.trans (below_of_grown' hg2 (Nat.le_refl _));have HL2:=Lib.hid hl2;have HV2:=Lib.hid hv2;clear hl2 hv2;have hss:=hs2.sl;go_wp2_with fail
 refine (trimmed_v _ s' _ hss hd2).mono ?_;rintro e w3 ⟨v3,rfl,ht,rfl⟩;go_wp2_with fail
 go_ret
 refine⟨_,rfl,?_,hb2⟩;have hl:=HL2.out;have hv:=HV2.out;rw[lsa,EX.out] at hl hv;rw[show nz xs+1 - nz xs=1 by omega] at hl hv;simp only[List.length_replicate] at hl hv;rw[FIN.out (xs.take (nz xs)) s' (ys.take (nz ys)) dx' dy' (by rw[EX.out,EY.out];omega) (by rw[EX.out];exact hl) hd2 (by rw[EX.out];exact hv) (by have h1:=VX.out;have h2:=VY.out;omega)] at ht;exact ht
theorem sl_shape {w:World} {k:IntKind} {v:Value} {xs:List Nat} (h:Sl w k v xs):∃ ao cap,v=.slice ao xs.length cap:=by
 obtain⟨ao,cap,e,_⟩:=h;exact⟨ao,cap,e⟩
theorem sub_lt (va vb:Value) (xs ys:List Nat) (w:World) (hx:Sl w .u32 va xs) (hy:Sl w .u32 vb ys) (dx:Dig L32 xs) (dy:Dig L32 ys) (hlt:val L32 xs<val L32 ys) :
  Calls Tryz.prog 68 #[va,vb] w fun e w'=>e=.returned (.tuple #[.slice none 0 0,.bool false])/\Below w.heap.size w w':=by
 obtain⟨ao,ac,rfl⟩:=sl_shape hx;obtain⟨bo,bc,rfl⟩:=sl_shape hy;have hx':=hx.take (nz xs) (nz_le xs);have hy':=hy.take (nz ys) (nz_le ys);have HC:=Lib.hid (show cmpN (val L32 (xs.take (nz xs))) (val L32 (ys.take (nz ys))) = -1 by rw[val_take_nz (by decide) dx,val_take_nz (by decide) dy];exact cmpN_lt hlt);go_enter Tryz.func68,Tryz.ntmps68
 go_wp2_with fail
 refine (sig_any _ _ _ xs _ hx).mono ?_;rintro e w' ⟨rfl,rfl⟩;go_wp2_with fail
 refine (sig_any _ _ _ ys _ hy).mono ?_;rintro e w' ⟨rfl,rfl⟩;go_wp2_with fail
 refine (cmp_any _ _ _ _ _ hx' hy' (dx.take _) (dy.take _)).mono ?_;rintro e w' ⟨rfl,hb⟩;rw[HC.out];go_wp2_with fail
 go_ret2
 exact⟨rfl,hb⟩
theorem sub_ge (va vb:Value) (xs ys:List Nat) (w:World) (hx:Sl w .u32 va xs) (hy:Sl w .u32 vb ys) (dx:Dig L32 xs) (dy:Dig L32 ys) (lx:xs.length<=1000000) (hge:val L32 ys<=val L32 xs) :
  Calls Tryz.prog 68 #[va,vb] w fun e w'=>∃ v,e=.returned (.tuple #[v,.bool true])/\Sl w' .u32 v (dig L32 (val L32 xs - val L32 ys))/\Below w.heap.size w w':=by
 obtain⟨ao,ac,rfl⟩:=sl_shape hx;obtain⟨bo,bc,rfl⟩:=sl_shape hy;have nx:=nz_le xs;have hx':=hx.take (nz xs) nx;have hy':=hy.take (nz ys) (nz_le ys);have dx':=dx.take (nz xs);have dy':=dy.take (nz ys);have EX:=Lib.hid (show (xs.take (nz xs)).length=nz xs by simp;omega);have VX:=Lib.hid (val_take_nz (B:=L32) (by decide) dx);have VY:=Lib.hid (val_take_nz (B:=L32) (by decide) dy)
 have hc:0<=cmpN (val L32 (xs.take (nz xs))) (val L32 (ys.take (nz ys))):=by
  rw[VX.out,VY.out];unfold cmpN;rw[if_neg (by omega)];split<;>omega
 have hlen:(ys.take (nz ys)).length<=nz xs:=by
  rw[<-length_dig_val (B:=L32) (by decide) dx,<-dig_val_take (by decide) dy]
  exact length_dig_le (by decide) (by
   have h1:=val_lt (Dig_dig (B:=L32) (by decide) (val L32 xs));rw[val_dig (by decide)] at h1
   omega)
 go_enter Tryz.func68,Tryz.ntmps68
 go_wp2_with fail
 refine (sig_any _ _ _ xs _ hx).mono ?_;rintro e w' ⟨rfl,rfl⟩;go_wp2_with fail
 refine (sig_any _ _ _ ys _ hy).mono ?_;rintro e w' ⟨rfl,rfl⟩;go_wp2_with fail
 refine (cmp_any _ _ _ _ _ hx' hy' dx' dy').mono ?_;rintro e w0 ⟨rfl,hb0⟩;go_wp2_with fail
 refine (padded_any ao _ ac _ (nz xs) _ w0 (hx'.below hb0) (by rw[EX.out];omega) (by omega) (by omega)).mono ?_;rintro e w1 ⟨v1,rfl,hs1,hb1,hz1⟩;have hb1':Below w.heap.size w w1:=hb0.trans (hb1.mono hb0.size);go_wp2_with fail
 have HV:=Lib.hid (show val L32 (xs.take (nz xs)++List.replicate (nz xs - (xs.take (nz xs)).length) 0)=val L32 xs by rw[append_zeros_val,VX.out]);refine (subFrom_any w0.heap.size [] _ [] _ _ _ w1 hs1 (hy'.below hb1') (sl_apart (hy'.below hb0) (Nat.le_refl _)) (by rw[lsa,List.length_replicate,EX.out];omega) (dx'.append (Dig.replicate (by decide) _)) dy' (by rw[HV.out,VY.out];exact hge)).mono ?_;rintro e w2 ⟨s',rfl,hs2,hg2,hl2,hd2,hv2⟩;have hb2:Below w.heap.size w w2:=hb1'.trans (below_of_grown' hg2 hb0.size hb1'.size);have HV2:=Lib.hid (show val L32 s'=val L32 xs - val L32 ys by rw[hv2,HV.out,VY.out]);clear hl2 hv2;go_wp2_with fail
 refine (trimmed_v _ s' _ hs2.sl hd2).mono ?_;rintro e w3 ⟨v3,rfl,ht,rfl⟩;go_wp2_with fail
 go_ret2
 refine⟨_,rfl,?_,hb2⟩;rw[HV2.out] at ht;exact ht
theorem trim_any (va:Value) (xs:List Nat) (w:World) (hx:Sl w .u32 va xs) (dx:Dig L32 xs) (lx:xs.length<=1000000) :
  Calls Tryz.prog 66 #[va] w fun e w'=>∃ v,e=.returned v/\Ws w' .u32 113 v w.heap.size [] (dig L32 (val L32 xs)) []/\Below w.heap.size w w':=by
 obtain⟨ao,ac,rfl⟩:=sl_shape hx;have nx:=nz_le xs;have hx':=hx.take (nz xs) nx;have EX:=Lib.hid (show (xs.take (nz xs)).length=nz xs by simp;omega);go_enter Tryz.func66,Tryz.ntmps66
 go_wp2_with fail
 refine (sig_any _ _ _ xs _ hx).mono ?_;rintro e w' ⟨rfl,rfl⟩;go_wp2_with fail
 refine (padded_any ao _ ac _ (nz xs) _ w hx' (by rw[EX.out];omega) (by omega) (by omega)).mono ?_;rintro e w1 ⟨v1,rfl,hs1,hb1,hz1⟩;go_wp2_with fail
 go_ret
 refine⟨_,rfl,?_,hb1⟩;rw[EX.out,Nat.sub_self,List.replicate_zero,List.append_nil,take_nz (by decide) dx] at hs1;exact hs1
theorem of_any (n:Nat) (z:Int) (w:World) (hz:z=(n:Int)) (hn:n<18446744073709551616) :
  Calls Tryz.prog 64 #[.int .u64 z] w fun e w'=>∃ v,e=.returned v/\Sl w' .u32 v (dig L32 n)/\Below w.heap.size w w':=by
 have h0:0<=z/\z<18446744073709551616:=by omega
 have hB:Blk (w.alloc (.cells #[.int .u32 (z % 4294967296),.int .u32 (z / 4294967296)] 113)) w.heap.size .u32 113 [n % L32,n / L32]:=by
  unfold Blk;rw[heap_alloc_new,hz]
  rfl
 have hS:=hB.sl 0 2 2 (by simp) (by omega) (by omega)
 have hD:Dig L32 [n % L32,n / L32]:=by
  intro x hx;rcases List.mem_cons.1 hx with rfl | hx
  ·exact Nat.mod_lt _ (by decide)
  obtain rfl:=List.mem_singleton.1 hx;exact Nat.div_lt_of_lt_mul (by omega)
 have hV:val L32 [n % L32,n / L32]=n:=by
  have h:=Nat.mod_add_div n L32;simp only[val,Nat.mul_zero,Nat.add_zero];exact h
 have HV:=Lib.hid hV;clear hV hz;go_enter Tryz.func64,Tryz.ntmps64
 go_wp2_with fail
 refine (trimmed_v _ [n % L32,n / L32] _ hS hD).mono ?_;rintro e w3 ⟨v3,rfl,ht,rfl⟩;go_wp2_with fail
 go_ret
 refine⟨_,rfl,?_,(Below.refl _ _).alloc (Nat.le_refl _) _⟩;rw[HV.out] at ht;exact ht
def lenOfV:Value->Nat | .slice _ n _=>n | _=>0
theorem getD_out {xs:List Nat} {i:Nat} (h:xs.length<=i):xs.getD i 0=0:=by simp[List.getD,h]
theorem val_take_succ' (B:Nat) (xs:List Nat) (k:Nat):val B (xs.take (k+1))=val B (xs.take k)+xs.getD k 0*B ^ k:=by
 by_cases h:k<xs.length
 ·exact val_take_succ B xs k h
 rw[getD_out (by omega),List.take_of_length_le (by omega),List.take_of_length_le (by omega)];simp
theorem dig_last {B n:Nat} (hB:2<=B) (h:0<(dig B n).length):(dig B n).getD ((dig B n).length - 1) 0≠0:=by
 intro h0;have h1:=take_nz hB (Dig_dig hB n);rw[val_dig hB] at h1;have h2:=congrArg List.length h1;rw[List.length_take] at h2;have h3:=nz_zero (xs:=dig B n) (k:=(dig B n).length - 1) (by omega) h0;rw[show (dig B n).length - 1+1=(dig B n).length by omega,List.take_length] at h3;have h4:=nz_le ((dig B n).take ((dig B n).length - 1));rw[List.length_take] at h4
 omega
end Go.Proofs.YtdkfnbbebpbhaaaGreatDoor
namespace Go.Proofs
open Go.Shelf
def Tryz.lays169_ren:Go.Shelf.Ren:=⟨fun | 169=>48 | n=>n,fun | 70=>80 | 9=>9 | 0=>0 | 72=>82 | 37=>70 | 127=>124 | 3=>3 | 5=>5 | n=>n,fun | n=>n⟩
theorem Tryz.lays169:Go.Proofs.Lays.n169 Tryz.prog Tryz.lays169_ren:={
 mixed:=by kernel_rfl
 f169:=Tryz.func48.trans (congrArg some (by kernel_rfl))
 t0:=Tryz.underlying0
 a0:=Tryz.isAgg0
 z0:=Tryz.sizeOf0
 v0:=Tryz.zeroValue0
 t3:=Tryz.underlying3
 a3:=Tryz.isAgg3
 z3:=Tryz.sizeOf3
 v3:=Tryz.zeroValue3
 t9:=Tryz.underlying9
 a9:=Tryz.isAgg9
 z9:=Tryz.sizeOf9
 v9:=Tryz.zeroValue9
 t37:=Tryz.underlying70
 a37:=Tryz.isAgg70
 z37:=Tryz.sizeOf70
 v37:=Tryz.zeroValue70
 t70:=Tryz.underlying80
 a70:=Tryz.isAgg80
 z70:=Tryz.sizeOf80
 v70:=Tryz.zeroValue80
 t72:=Tryz.underlying82
 a72:=Tryz.isAgg82
 z72:=Tryz.sizeOf82
 v72:=Tryz.zeroValue82
 t127:=Tryz.underlying124
 a127:=Tryz.isAgg124
 z127:=Tryz.sizeOf124
 v127:=Tryz.zeroValue124 }
theorem Tryz.Builder_Extra_169:Builder.Extra Tryz.prog Tryz.lays169_ren:={
 sizeBuilder:=by kernel_rfl
 liesBuilder:=by kernel_rfl
 t5:=Tryz.underlying5
 a5:=Tryz.isAgg5
 z5:=Tryz.sizeOf5
 v5:=Tryz.zeroValue5
 infoByte:=by kernel_rfl
 cellsByte:=by kernel_rfl
 sizeByte:=by kernel_rfl
 neB5:=by decide }
open Go.RowKit in
theorem Tryz.Builder_String_any (B b:Nat) (l:List UInt8) (w:World) (h:Lib.IsBuilder 82 5 B b (Lib.byteCells l) w) (hBw:B<=w.heap.size) :
  Calls Tryz.prog 48 #[.pointer (some ⟨b,0,none⟩)] w fun e w'=>e=.returned (.string ⟨l.toArray⟩)/\Below B w w':=Any.Builder_String_any Tryz.lays169 Tryz.Builder_Extra_169 B b l w h hBw
def Tryz.lays128_ren:Go.Shelf.Ren:=⟨fun | 128=>135 | n=>n,fun | 51=>113 | 3=>3 | 4=>4 | 46=>143 | 5=>5 | 9=>9 | n=>n,fun | n=>n⟩
theorem Tryz.lays128:Go.Proofs.Lays.n128 Tryz.prog Tryz.lays128_ren:={
 mixed:=by kernel_rfl
 f128:=Tryz.func135.trans (congrArg some (by kernel_rfl))
 t3:=Tryz.underlying3
 a3:=Tryz.isAgg3
 z3:=Tryz.sizeOf3
 v3:=Tryz.zeroValue3
 t4:=Tryz.underlying4
 a4:=Tryz.isAgg4
 z4:=Tryz.sizeOf4
 v4:=Tryz.zeroValue4
 t5:=Tryz.underlying5
 a5:=Tryz.isAgg5
 z5:=Tryz.sizeOf5
 v5:=Tryz.zeroValue5
 t9:=Tryz.underlying9
 a9:=Tryz.isAgg9
 z9:=Tryz.sizeOf9
 v9:=Tryz.zeroValue9
 t46:=Tryz.underlying143
 a46:=Tryz.isAgg143
 z46:=Tryz.sizeOf143
 v46:=Tryz.zeroValue143
 t51:=Tryz.underlying113
 a51:=Tryz.isAgg113
 z51:=Tryz.sizeOf113
 v51:=Tryz.zeroValue113 }
theorem Tryz.bits_Len32 (x:Int) (w:World) (h0:0<=x) (h1:x<=4294967295) :
  Calls Tryz.prog 135 #[.int .u32 x] w fun e w'=>e=.returned (.int .i64 (Lib.bitLen x.toNat))/\w'=w:=Any.bits_Len32 Tryz.lays128 x w h0 h1
def Tryz.lays133_ren:Go.Shelf.Ren:=⟨fun | 133=>131 | 128=>135 | n=>n,fun | 51=>113 | 3=>3 | 4=>4 | 46=>143 | 5=>5 | 9=>9 | n=>n,fun | n=>n⟩
theorem Tryz.lays133:Go.Proofs.Lays.n133 Tryz.prog Tryz.lays133_ren:={
 mixed:=by kernel_rfl
 f128:=Tryz.func135.trans (congrArg some (by kernel_rfl))
 f133:=Tryz.func131.trans (congrArg some (by kernel_rfl))
 t3:=Tryz.underlying3
 a3:=Tryz.isAgg3
 z3:=Tryz.sizeOf3
 v3:=Tryz.zeroValue3
 t4:=Tryz.underlying4
 a4:=Tryz.isAgg4
 z4:=Tryz.sizeOf4
 v4:=Tryz.zeroValue4
 t5:=Tryz.underlying5
 a5:=Tryz.isAgg5
 z5:=Tryz.sizeOf5
 v5:=Tryz.zeroValue5
 t9:=Tryz.underlying9
 a9:=Tryz.isAgg9
 z9:=Tryz.sizeOf9
 v9:=Tryz.zeroValue9
 t46:=Tryz.underlying143
 a46:=Tryz.isAgg143
 z46:=Tryz.sizeOf143
 v46:=Tryz.zeroValue143
 t51:=Tryz.underlying113
 a51:=Tryz.isAgg113
 z51:=Tryz.sizeOf113
 v51:=Tryz.zeroValue113 }
theorem Tryz.bits_LeadingZeros32 (x:Int) (w:World) (h0:0<=x) (h1:x<=4294967295) :
  Calls Tryz.prog 131 #[.int .u32 x] w fun e w'=>e=.returned (.int .i64 (32 - (Lib.bitLen x.toNat:Int)))/\w'=w:=Any.bits_LeadingZeros32 Tryz.lays133 x w h0 h1
def Tryz.lays283_ren:Go.Shelf.Ren:=⟨fun | 283=>153 | n=>n,fun | 3=>3 | 9=>9 | 4=>4 | n=>n,fun | n=>n⟩
theorem Tryz.lays283:Go.Proofs.Lays.n283 Tryz.prog Tryz.lays283_ren:={
 mixed:=by kernel_rfl
 f283:=Tryz.func153.trans (congrArg some (by kernel_rfl))
 t3:=Tryz.underlying3
 a3:=Tryz.isAgg3
 z3:=Tryz.sizeOf3
 v3:=Tryz.zeroValue3
 t4:=Tryz.underlying4
 a4:=Tryz.isAgg4
 z4:=Tryz.sizeOf4
 v4:=Tryz.zeroValue4
 t9:=Tryz.underlying9
 a9:=Tryz.isAgg9
 z9:=Tryz.sizeOf9
 v9:=Tryz.zeroValue9 }
open Go.Lib in
theorem Tryz.internal_strconv_small (i:Nat) (h:i<100) (w:World) :
  Calls Tryz.prog 153 #[.int .i64 i] w fun e w'=>e=.returned (.string ⟨(Lib.decDigits i).toArray⟩)/\w'=w:=Any.internal_strconv_small Tryz.lays283 i h w
def Tryz.laysM284_ren:Go.Shelf.Ren:=⟨fun | 284=>154 | 129=>163 | 317=>162 | 318=>164 | n=>n,fun | 53=>99 | 3=>3 | 212=>198 | 0=>0 | 4=>4 | 46=>143 | 5=>5 | 9=>9 | n=>n,fun | 17=>1 | n=>n⟩
theorem Tryz.laysM284:Go.Proofs.LaysM.n284 Tryz.prog Tryz.laysM284_ren:={
 mixed:=by kernel_rfl
 f129:=Tryz.func163.trans (congrArg some (by kernel_rfl))
 f284:=Tryz.func154.trans (congrArg some (by kernel_rfl))
 f317:=Tryz.func162.trans (congrArg some (by kernel_rfl))
 f318:=Tryz.func164.trans (congrArg some (by kernel_rfl))
 t0:=Tryz.underlying0
 a0:=Tryz.isAgg0
 z0:=Tryz.sizeOf0
 v0:=Tryz.zeroValue0
 t3:=Tryz.underlying3
 a3:=Tryz.isAgg3
 z3:=Tryz.sizeOf3
 v3:=Tryz.zeroValue3
 t4:=Tryz.underlying4
 a4:=Tryz.isAgg4
 z4:=Tryz.sizeOf4
 v4:=Tryz.zeroValue4
 t5:=Tryz.underlying5
 a5:=Tryz.isAgg5
 z5:=Tryz.sizeOf5
 v5:=Tryz.zeroValue5
 t9:=Tryz.underlying9
 a9:=Tryz.isAgg9
 z9:=Tryz.sizeOf9
 v9:=Tryz.zeroValue9
 t46:=Tryz.underlying143
 a46:=Tryz.isAgg143
 z46:=Tryz.sizeOf143
 v46:=Tryz.zeroValue143
 t53:=Tryz.underlying99
 a53:=Tryz.isAgg99
 z53:=Tryz.sizeOf99
 v53:=Tryz.zeroValue99
 t212:=Tryz.underlying198
 a212:=Tryz.isAgg198
 z212:=Tryz.sizeOf198
 v212:=Tryz.zeroValue198
 g17:=by kernel_rfl
 i0:=by kernel_rfl
 i3:=by kernel_rfl
 i4:=by kernel_rfl
 i5:=by kernel_rfl
 i9:=by kernel_rfl
 i46:=by kernel_rfl
 i53:=by kernel_rfl
 i212:=by kernel_rfl
 m17:=by kernel_rfl }
open Go.Lib in
theorem Tryz.internal_strconv_numDigits (u : Nat) (h1 : 1 ≤ u) (h2 : u < 18446744073709551616) (w : World) (htab : Lib.TabIs Tryz.prog w "internal/strconv.uint64pow10" .u64 Lib.pow10Tab) :
  Calls Tryz.prog 154 #[.int .u64 u] w fun e w'=>e=.returned (.int .i64 (Lib.nDigits u))/\w'=w:=Any.internal_strconv_numDigits Tryz.laysM284 u h1 h2 w htab
def Tryz.lays285_ren:Go.Shelf.Ren:=⟨fun | 285=>155 | n=>n,fun | 37=>70 | 53=>99 | 3=>3 | 4=>4 | 51=>113 | 9=>9 | 5=>5 | 0=>0 | n=>n,fun | n=>n⟩
theorem Tryz.lays285:Go.Proofs.Lays.n285 Tryz.prog Tryz.lays285_ren:={
 mixed:=by kernel_rfl
 f285:=Tryz.func155.trans (congrArg some (by kernel_rfl))
 t0:=Tryz.underlying0
 a0:=Tryz.isAgg0
 z0:=Tryz.sizeOf0
 v0:=Tryz.zeroValue0
 t3:=Tryz.underlying3
 a3:=Tryz.isAgg3
 z3:=Tryz.sizeOf3
 v3:=Tryz.zeroValue3
 t4:=Tryz.underlying4
 a4:=Tryz.isAgg4
 z4:=Tryz.sizeOf4
 v4:=Tryz.zeroValue4
 t5:=Tryz.underlying5
 a5:=Tryz.isAgg5
 z5:=Tryz.sizeOf5
 v5:=Tryz.zeroValue5
 t9:=Tryz.underlying9
 a9:=Tryz.isAgg9
 z9:=Tryz.sizeOf9
 v9:=Tryz.zeroValue9
 t37:=Tryz.underlying70
 a37:=Tryz.isAgg70
 z37:=Tryz.sizeOf70
 v37:=Tryz.zeroValue70
 t51:=Tryz.underlying113
 a51:=Tryz.isAgg113
 z51:=Tryz.sizeOf113
 v51:=Tryz.zeroValue113
 t53:=Tryz.underlying99
 a53:=Tryz.isAgg99
 z53:=Tryz.sizeOf99
 v53:=Tryz.zeroValue99 }
open Go.RowKit Go.Sort Go.Lib in
theorem Tryz.internal_strconv_formatBase10 (blk off cap:Nat) (u:Nat) (d:Array UInt8) (w:World) (hH:Holds (fun (b:UInt8)=>Value.int .u8 (b.toNat:Int)) w blk off d) (hu:u<10 ^ d.size) (hu64:u<18446744073709551616) (hsz:d.size<4611686018427387904) :
  Calls Tryz.prog 155 #[.slice (some ⟨blk,off,none⟩) d.size cap,.int .u64 u] w fun e w' =>
   e=.returned (.tuple #[])/\∃ (n v':Nat) (dk:Array UInt8),w'=(putRow (fun (b:UInt8)=>Value.int .u8 (b.toNat:Int)) w blk off dk).drewN n/\FmtInv d.size u 0 v' dk:=Any.internal_strconv_formatBase10 Tryz.lays285 blk off cap u d w hH hu hu64 hsz
end Go.Proofs
namespace Go.Proofs.YtdkfnbbebpbhaaaGreatDoor
open Go.RowKit
set_option maxRecDepth 100000
def joinN (r x:Nat):Nat:=r*4294967296+x
def joinI (r x:Nat):Int:=((joinN r x:Nat):Int)
theorem or_join {r x:Nat} (hr:r<4294967296) (hx:x<4294967296):bits BinOp.or IntKind.u64 ((r:Int)*4294967296) (x:Int)=joinI r x:=by
 have h1:(r:Int)*4294967296=((r*4294967296:Nat):Int):=by simp
 rw[h1,u64_or_nat _ _ (by omega) (by omega),nat_join 32 _ _ (by omega) (by omega)];rfl
theorem joinI_bound {r x:Nat} (hr:r<4294967296) (hx:x<4294967296):0<=joinI r x/\joinI r x<18446744073709551616:=by unfold joinI joinN;omega
theorem join_div {r x d:Nat} (hr:r<d) (hx:x<4294967296):joinN r x / d<4294967296:=by
 apply Nat.div_lt_of_lt_mul
 unfold joinN;have:(r+1)*4294967296<=d*4294967296:=Nat.mul_le_mul_right _ hr
 omega
theorem divLimb_step {t s:List Nat} {k r d:Nat} (hk:k<t.length) (hl:t.length=s.length) (ht:t.take (k+1)=s.take (k+1)) (hv:val L32 (t.drop (k+1))*d+r=val L32 (s.drop (k+1))) :
  (t.set k (joinN r (t.getD k 0) / d)).take k=s.take k/\val L32 ((t.set k (joinN r (t.getD k 0) / d)).drop k)*d+joinN r (t.getD k 0) % d=val L32 (s.drop k):=by
 have hks:k<s.length:=by omega
 have e1:t.getD k 0=s.getD k 0:=by
  have:=congrArg (fun l=>l.getD k 0) ht
  simpa [List.getD] using this
 refine⟨?_,?_⟩
 ·rw[List.take_set_of_le (Nat.le_refl k)];have:=congrArg (List.take k) ht;rw[List.take_take,List.take_take,Nat.min_eq_left (by omega)] at this;exact this
 rw[List.drop_eq_getElem_cons (by simpa using hk),List.drop_set_of_lt (by omega),List.drop_eq_getElem_cons hks];simp only[val,List.getElem_set_self];rw[<-hv];have e2:s[k]=s.getD k 0:=by simp[List.getD,hks]
 rw[e2,<-e1];have h:=Nat.div_add_mod (joinN r (t.getD k 0)) d;have hj:joinN r (t.getD k 0)=r*L32+t.getD k 0:=rfl;generalize joinN r (t.getD k 0) / d=q at *;generalize joinN r (t.getD k 0) % d=m at *;rw[hj] at h
 grind
theorem divLimb_any (g:Nat) (pre s post:List Nat) (vs:Value) (d:Nat) (z:Int) (w:World) (hw:Ws w .u32 113 vs g pre s post) (hs:Dig L32 s) (hz:z=(d:Int)) (hd0:0<d) (hd1:d<4294967296) :
  Calls Tryz.prog 105 #[vs,.int .u32 z] w fun e w'=>∃ s',e=.returned (.int .u32 ((val L32 s % d:Nat):Int))/\Ws w' .u32 113 vs g pre s' post/\w.grownBy w' (some g)/\s'.length=s.length/\Dig L32 s' /\
   val L32 s'=val L32 s / d:=by
 subst hz;obtain⟨ao,cap,rfl,h1,h2,h3,h4⟩:=hw;go_enter Tryz.func105,Tryz.ntmps105
 go_wp2
 go_loopw [5,6] (fun c i wr=>∃ (k:Nat) (t:List Nat) (r:Nat),i=.int .i64 ((k:Int) - 1)/\c=.int .u64 (r:Int)/\r<d/\k<=s.length/\w.grownBy wr (some g)/\Hid (t.length=s.length)/\Dig 4294967296 t /\
   WsAt wr .u32 113 ao g pre t post s.length/\Hid (t.take k=s.take k)/\Hid (val L32 (t.drop k)*d+r=val L32 (s.drop k)))
  (fun _ i _=>(intOf i+1).toNat)
 case atStart=>exact⟨s.length,s,0,rfl,rfl,hd0,by omega,World.grownBy.refl _ _,Lib.hid rfl,hs,h4,Lib.hid rfl,Lib.hid (by simp[val])⟩
 case round =>
  obtain⟨k,t,r,rfl,rfl,hr,hk,hg,Ht,hdt,hB,HT,HV⟩:=hrel
  by_cases h0:0<k
  ·obtain⟨rfl,hB'⟩:=hB (by omega);have hkt:k - 1<t.length:=by have:=Ht.out;omega
   have hct:wr.cell? ⟨g,pre.length+(k - 1),none⟩=some (.int .u32 (nth t (k - 1))):=by
    rw[hB'.cell (by simp;omega),nth_mid _ _ _ _ hkt]
   have hft:=hB'.frozen (pre.length+(k - 1));have t1:=hdt.getD (by omega) (k - 1);obtain⟨x,hx⟩:∃ x,x=t.getD (k - 1) 0:=⟨_,rfl⟩
   have hnx:nth t (k - 1)=(x:Int):=by rw[hx];rfl
   rw[<-hx] at t1;have hor:=or_join (r:=r) (x:=x) (by omega) t1;have hjb:=joinI_bound (r:=r) (x:=x) (by omega) t1;have hq0:=join_div hr t1
   have hq:0<=joinI r x / (d:Int)/\joinI r x / (d:Int)<4294967296:=by
    have:joinI r x / (d:Int)=((joinN r x / d:Nat):Int):=by unfold joinI;simp
    rw[this];exact⟨Int.natCast_nonneg _,Int.ofNat_lt.2 hq0⟩
   have HS:=Lib.hid (divLimb_step (t:=t) (s:=s) (k:=k - 1) (r:=r) (d:=d) hkt Ht.out (by rw[show k - 1+1=k by omega];exact HT.out) (by rw[show k - 1+1=k by omega];exact HV.out));rw[<-hx] at HS;have HQ:=Lib.hid hq0;have hm0:joinI r x % (d:Int)=((joinN r x % d:Nat):Int):=by unfold joinI;simp
   have hd0':joinI r x / (d:Int)=((joinN r x / d:Nat):Int):=by unfold joinI;simp
   have HM:=Lib.hid hm0;have HD:=Lib.hid hd0';rw[hnx] at hct;clear hB h4 hq0 hm0 hd0' hx hnx
   go_wp2
   go_roundw
   case rel =>
    refine⟨k - 1,t.set (k - 1) (joinN r x / d),joinN r x % d,by go_num,by rw[<-HM.out],Nat.mod_lt _ hd0,by omega,grown_setCell hg _,Lib.hid (by rw[List.length_set];exact Ht.out),hdt.set HQ.out,fun _=>⟨rfl,?_⟩,Lib.hid HS.out.1,Lib.hid HS.out.2⟩;rw[<-set_mid _ _ _ _ _ hkt];exact hB'.set _ _ _ HD.out
   case measure=>simp[intOf];omega
  have hk0:k=0:=by omega
  subst hk0;have hv:=HV.out;simp only[List.drop_zero] at hv;have e1:val L32 s % d=r:=by rw[<-hv,Nat.mul_add_mod_self_right,Nat.mod_eq_of_lt hr]
  have e2:val L32 t=val L32 s / d:=by rw[<-hv,Nat.add_comm,Nat.add_mul_div_right _ _ hd0,Nat.div_eq_of_lt hr,Nat.zero_add]
  have E1:=Lib.hid e1;have E2:=Lib.hid e2;have hfin:Ws wr .u32 113 (.slice ao s.length cap) g pre t post:=⟨ao,cap,by rw[Ht.out],by rw[Ht.out];exact h1,h2,h3,by rw[Ht.out];exact hB⟩
  clear e1 e2 hv h4
  go_wp2
  go_ret
  exact⟨t,by rw[E1.out];rfl,hfin,hg,Ht.out,hdt,E2.out⟩
theorem nz_eq_zero {xs:List Nat} (hd:Dig L32 xs) (h:val L32 xs=0):nz xs=0:=by
 have:=length_dig_val (B:=L32) (by decide) hd;rw[h,dig_zero] at this;exact this.symm
theorem nz_pos_of {xs:List Nat} (hd:Dig L32 xs) (h:0<val L32 xs):0<nz xs:=by
 rw[<-length_dig_val (B:=L32) (by decide) hd,dig_pos (by decide) h];simp
theorem div_lt (va vb:Value) (xs ys:List Nat) (w:World) (hx:Sl w .u32 va xs) (hy:Sl w .u32 vb ys) (dx:Dig L32 xs) (dy:Dig L32 ys) (lx:xs.length<=1000000) (h0:val L32 xs<val L32 ys) :
  Calls Tryz.prog 70 #[va,vb] w fun e w'=>∃ r,e=.returned (.tuple #[.slice none 0 0,r,.bool true])/\Sl w' .u32 r (dig L32 (val L32 xs))/\Below w.heap.size w w':=by
 obtain⟨ao,ac,rfl⟩:=sl_shape hx;obtain⟨bo,bc,rfl⟩:=sl_shape hy;have hx':=hx.take (nz xs) (nz_le xs);have hy':=hy.take (nz ys) (nz_le ys);have VX:=Lib.hid (val_take_nz (B:=L32) (by decide) dx);have VY:=Lib.hid (val_take_nz (B:=L32) (by decide) dy);have hp:=nz_pos_of dy (by omega);have hz:(((nz ys:Nat):Int)==0)=false:=by simp;omega
 have HC:=Lib.hid (show cmpN (val L32 (xs.take (nz xs))) (val L32 (ys.take (nz ys))) = -1 by rw[VX.out,VY.out];exact cmpN_lt h0);have hlen:(xs.take (nz xs)).length<=1000000:=by rw[List.length_take];omega
 go_enter Tryz.func70,Tryz.ntmps70
 go_wp2_with fail
 refine (sig_any _ _ _ xs _ hx).mono ?_;rintro e w' ⟨rfl,rfl⟩;go_wp2_with fail
 refine (sig_any _ _ _ ys _ hy).mono ?_;rintro e w' ⟨rfl,rfl⟩;go_wp2_with fail
 refine (cmp_any _ _ _ _ _ hx' hy' (dx.take _) (dy.take _)).mono ?_;rintro e w1 ⟨rfl,hb1⟩;rw[HC.out];go_wp2_with fail
 refine (trim_any _ _ w1 (hx'.below hb1) (dx.take _) hlen).mono ?_;rintro e w2 ⟨v2,rfl,hs2,hb2⟩;go_wp2_with fail
 go_ret3
 refine⟨_,rfl,?_,hb1.trans (hb2.mono hb1.size)⟩;have:=hs2.sl;rw[VX.out] at this;exact this
theorem div_one (va vb:Value) (xs ys:List Nat) (w:World) (hx:Sl w .u32 va xs) (hy:Sl w .u32 vb ys) (dx:Dig L32 xs) (dy:Dig L32 ys) (lx:xs.length<=1000000) (h0:val L32 ys<=val L32 xs) (h1:nz ys=1) :
  Calls Tryz.prog 70 #[va,vb] w fun e w'=>∃ q r,e=.returned (.tuple #[q,r,.bool true])/\Sl w' .u32 q (dig L32 (val L32 xs / val L32 ys))/\Sl w' .u32 r (dig L32 (val L32 xs % val L32 ys))/\Below w.heap.size w w':=by
 obtain⟨ao,ac,rfl⟩:=sl_shape hx;have HY:=Lib.hid hy;obtain⟨bo,bc,rfl,b1,b2,b3,b4⟩:=hy;have hly:=nz_le ys;have nx:=nz_le xs;have hx':=hx.take (nz xs) (nz_le xs);have hy':=HY.out.take (nz ys) (nz_le ys);have VX:=Lib.hid (val_take_nz (B:=L32) (by decide) dx);have VY:=Lib.hid (val_take_nz (B:=L32) (by decide) dy);have EX:=Lib.hid (show (xs.take (nz xs)).length=nz xs by simp;omega);have hz:(((nz ys:Nat):Int)==0)=false:=by rw[h1];rfl
 have hz1:(((nz ys:Nat):Int)==1)=true:=by rw[h1];rfl
 have hc:0<=cmpN (val L32 (xs.take (nz xs))) (val L32 (ys.take (nz ys))):=by
  rw[VX.out,VY.out];unfold cmpN;rw[if_neg (by omega)];split<;>omega
 have hvy:val L32 ys=ys.getD 0 0:=by
  rw[<-val_take_nz (B:=L32) (by decide) dy,h1,val_take_succ' L32 ys 0];simp[val]
 have hy0:=dy.getD (by decide) 0
 have hpos:0<val L32 ys:=by
  rcases Nat.eq_zero_or_pos (val L32 ys) with h | h
  ·have:=nz_eq_zero dy h;omega
  exact h
 obtain⟨b,rfl,hcb⟩:=b4 0 (by omega);rw[show b.add 0=b from by simp[Addr.add]] at hcb;have HVY:=Lib.hid hvy;have hn1:(0:Int)<((nz ys:Nat):Int):=by omega
 have D0:0<ys.getD 0 0:=by omega
 have hcb0:∀ {w1:World},Below w.heap.size w w1->w1.cell? b=some (.int .u32 (nth ys 0)):=fun hb=>by rw[hb.cell (cell_lt hcb)];exact hcb
 clear h1 hvy b4 hcb;go_enter Tryz.func70,Tryz.ntmps70
 go_wp2_with fail
 refine (sig_any _ _ _ xs _ hx).mono ?_;rintro e w' ⟨rfl,rfl⟩;go_wp2_with fail
 refine (sig_any _ _ _ ys _ HY.out).mono ?_;rintro e w' ⟨rfl,rfl⟩;go_wp2_with fail
 refine (cmp_any _ _ _ _ _ hx' hy' (dx.take _) (dy.take _)).mono ?_;rintro e w1 ⟨rfl,hb1⟩;go_wp2_with fail
 refine (padded_any ao _ ac _ (nz xs) _ w1 (hx'.below hb1) (by rw[EX.out];omega) (by omega) (by omega)).mono ?_;rintro e w2 ⟨v2,rfl,hs2,hb2,hz2⟩;have hb2':Below w.heap.size w w2:=hb1.trans (hb2.mono hb1.size);have hcell:=hcb0 hb2';rw[EX.out,Nat.sub_self,List.replicate_zero,List.append_nil] at hs2;go_wp2_with fail
 refine (divLimb_any w1.heap.size [] _ [] _ (ys.getD 0 0) _ w2 hs2 (dx.take _) rfl D0 hy0).mono ?_;rintro e w3 ⟨s',rfl,hs3,hg3,hl3,hd3,hv3⟩;rw[VX.out,<-HVY.out] at hv3;obtain⟨m,hm⟩:∃ m,m=val L32 xs % val L32 ys:=⟨_,rfl⟩
 rw[show val L32 (xs.take (nz xs)) % ys.getD 0 0=m by rw[VX.out,<-HVY.out,hm]];have hmb:m<4294967296:=by rw[hm];exact Nat.lt_trans (Nat.mod_lt _ hpos) (by rw[HVY.out];exact hy0)
 have HM:=Lib.hid hm;clear hm;have hb3:Below w.heap.size w w3:=hb2'.trans (below_of_grown' hg3 hb1.size hb2'.size);have HV3:=Lib.hid hv3;clear hv3 hl3;go_wp2_with fail
 refine (trimmed_v _ s' _ hs3.sl hd3).mono ?_;rintro e w4 ⟨v4,rfl,ht4,rfl⟩;go_wp2_with fail
 refine (of_any m _ w3 rfl (by omega)).mono ?_;rintro e w5 ⟨v5,rfl,hs5,hb5⟩;have hb5':Below w.heap.size w w5:=hb3.trans (hb5.mono hb3.size);go_wp2_with fail
 go_ret3
 refine⟨_,_,rfl,?_,?_,hb5'⟩
 ·rw[HV3.out] at ht4;exact ht4.below hb5
 rw[<-HM.out];exact hs5
theorem infoByte:(Tryz.prog.info? 5).map (fun i=>(i.zero,i.size,i.bytes))=some (some (.int .u8 0),1,1):=by kernel_rfl
theorem infoBld:(Tryz.prog.info? 82).map (·.size)=some 2:=by kernel_rfl
theorem liesBld:liesAt Tryz.prog Tryz.prog.depth 82 (2 / Tryz.prog.cellsOf 82) 0 82 1=true:=by kernel_rfl
set_option maxRecDepth 100000 in
theorem copyCheck_used (b:Nat) (w:World) (h0:w.cell? ⟨b,0,none⟩=some (.pointer (some ⟨b,0,none⟩))) :
  Calls Tryz.prog 117 #[.pointer (some ⟨b,0,none⟩)] w fun e w'=>e=.returned (.tuple #[])/\w=w':=by
 obtain⟨j,hj,_⟩:=Option.map_eq_some_iff.1 infoBld;have hne:=Lib.run_neq_ptr_same (P:=Tryz.prog) w ⟨b,0,none⟩ Tryz.underlying80 hj;go_enter Tryz.func117,Tryz.ntmps117
 go_wp2
 go_end0
 exact⟨rfl,rfl⟩
set_option maxRecDepth 100000 in
theorem copyCheck_fresh (b:Nat) (w:World) (h0:w.cell? ⟨b,0,none⟩=some (.pointer none)) (hsh:w.shape? b=some (82,2)) (hfz:w.frozen? ⟨b,0,none⟩=false) :
  Calls Tryz.prog 117 #[.pointer (some ⟨b,0,none⟩)] w fun e w'=>e=.returned (.tuple #[])/\w.setCell ⟨b,0,none⟩ (.pointer (some ⟨b,0,none⟩))=w':=by
 obtain⟨j,hj,hjs⟩:=Option.map_eq_some_iff.1 infoBld;have h1:=Lib.run_to_unsafe (P:=Tryz.prog) w ⟨b,0,none⟩ Tryz.underlying80 Tryz.underlying174 hj (by rw[hjs];decide) hsh (Nat.zero_lt_succ 1);have h2:=run_callFunc_extern (P:=Tryz.prog) (w:=w) (args:=#[.pointer (some ⟨b,0,none⟩)]) Tryz.func139 (by kernel_rfl) (by kernel_rfl) (by kernel_rfl) (e:=Extern.AbiNoEscape.same) (by kernel_rfl);have h3:=Lib.run_noEscape (P:=Tryz.prog) w (.pointer (some ⟨b,0,none⟩));have h4:=Lib.run_from_unsafe (P:=Tryz.prog) w ⟨b,0,none⟩ Tryz.underlying174 Tryz.underlying80 hj hsh liesBld;go_enter Tryz.func117,Tryz.ntmps117
 go_wp2
 go_end0
 exact⟨rfl,rfl⟩
def Bld (B b:Nat) (l:List UInt8) (w:World):Prop:=Lib.IsBuilder 82 5 B b (Lib.byteCells l) w
theorem Bld.at {B b:Nat} {l:List UInt8} {w:World} (h:Bld B b l w):∃ p v,w.heap[b]?=some (.cells #[p,v] 82 (0,0))/\w.ownsRow B 5 1 v l.length (Lib.byteCells l)/\v.ownBlock≠some b/\B<=b/\(p=.pointer none\/p=.pointer (some ⟨b,0,none⟩)):=by
 rcases h with ⟨hB,v,h1,h2,h3⟩ | ⟨hB,v,h1,h2,h3⟩
 ·exact⟨_,v,h1,by simpa [Lib.byteCells_length] using h2,h3,hB,.inl rfl⟩
 exact⟨_,v,h1,by simpa [Lib.byteCells_length] using h2,h3,hB,.inr rfl⟩
theorem Bld.below {B b:Nat} {l:List UInt8} {w w':World} (h:Bld B b l w) (hb:Below w.heap.size w w'):Bld B b l w':=by
 have go:∀ p,Lib.BuilderAt 82 5 B b p (Lib.byteCells l) w->Lib.BuilderAt 82 5 B b p (Lib.byteCells l) w':=by
  intro p ⟨hB,v,h1,h2,h3⟩;have hlt:=lt_of_block h1;exact⟨hB,v,by rw[hb.block b hlt];exact h1,World.ownsRow.kept h2 ⟨hb.os,hb.tape,hb.output,hb.size,fun j hj _=>hb.block j hj⟩ (by cases hv:v.ownBlock with | none=>exact .inl rfl | some g=>exact .inr (show some g≠none by simp)),h3⟩
 rcases h with h | h
 ·exact .inl (go _ h)
 exact .inr (go _ h)
theorem strCells_bytes (l m:List UInt8):Lib.byteCells l++Lib.strCells ⟨m.toArray⟩=Lib.byteCells (l++m):=by
 simp[Lib.byteCells,Lib.strCells]
set_option maxRecDepth 100000 in
theorem writeString_any (B b:Nat) (l m:List UInt8) (sv:ByteArray) (w:World) (h:Bld B b l w) (hs:sv=⟨m.toArray⟩) (hlen:l.length+m.length<=1000000) (hBw:B<=w.heap.size) :
  Calls Tryz.prog 79 #[.pointer (some ⟨b,0,none⟩),.string sv] w fun e w'=>∃ v,e=.returned v/\Bld B b (l++m) w'/\Below B w w':=by
 obtain⟨i0,hi,hz0,hz1,hz2⟩:=info_parts infoByte;have hsz:sv.size=m.length:=by subst hs;rfl
 obtain⟨p,v,hbk,hown,hne,hBb,hp⟩:=h.at;have hlt:=lt_of_block hbk
 -- behind copyCheck
 have rest:∀ w1:World,w1.heap[b]?=some (.cells #[.pointer (some ⟨b,0,none⟩),v] 82 (0,0))->w1.ownsRow B 5 1 v l.length (Lib.byteCells l)->Below B w w1->True:=fun _ _ _ _=>trivial
 clear rest;have HS:=Lib.hid hs;have HSZ:=Lib.hid hsz;clear hs;have hsz2:sv.size<=m.length:=by omega
 clear hsz
 have cc:Calls Tryz.prog 117 #[.pointer (some ⟨b,0,none⟩)] w fun e w1=>e=.returned (.tuple #[])/\w1.heap[b]?=some (.cells #[.pointer (some ⟨b,0,none⟩),v] 82 (0,0))/\w1.ownsRow B 5 1 v l.length (Lib.byteCells l)/\Below B w w1:=by
  rcases hp with rfl | rfl
  ·refine (copyCheck_fresh b w (by rw[cell_of_row w b 0 _ 82 (0,0) hbk];rfl) (by simp[World.shape?,hbk]) (frozen_of_row w b 0 _ 82 hbk)).mono ?_;rintro e w1 ⟨rfl,rfl⟩;refine⟨rfl,?_,?_,(Below.refl _ _).setCell hBb _⟩
   ·rw[heap_setCell_same w b 0 _ 82 _ hbk];rfl
   exact ownsRow_setCell_other hown (by simpa using hne) _
  refine (copyCheck_used b w (by rw[cell_of_row w b 0 _ 82 (0,0) hbk];rfl)).mono ?_;rintro e w1 ⟨rfl,rfl⟩;exact⟨rfl,hbk,hown,Below.refl _ _⟩
 have CC:=Lib.hid cc;clear cc hbk hown hp;go_enter Tryz.func79,Tryz.ntmps79
 go_wp2_with fail
 refine CC.out.mono ?_;rintro e w1 ⟨rfl,hbk1,hown1,hb1⟩;have c0:w1.cell? ⟨b,0,none⟩=some (.pointer (some ⟨b,0,none⟩)):=by rw[cell_of_row w1 b 0 _ 82 (0,0) hbk1];rfl
 have c1:w1.cell? ⟨b,1,none⟩=some v:=by rw[cell_of_row w1 b 1 _ 82 (0,0) hbk1];rfl
 have HK:=Lib.hid hbk1;clear hbk1;have hsz1:=hb1.size;go_wp2_with (at_builtin;refine Lib.wpList_append_own_string _ rfl (.tmp 12) (.tmp 13) 70 9 rfl B 5 i0 Tryz.underlying70 Tryz.underlying9 hi hz0 hz1 hz2 _ _ _ rfl hown1 sv rfl ?c3 ?c4 ?c5 ?_)
 case c3=>unfold maxLen;omega
 case c4=>omega
 case c5=>omega
 intro v' w2 hown' hgrow _;have hlt1:b<w1.heap.size:=lt_of_block HK.out
 have hb2:w2.heap[b]?=some (.cells #[.pointer (some ⟨b,0,none⟩),v] 82 (0,0)):=by
  rw[hgrow.block b hlt1 (fun e=>hne e.symm)];exact HK.out
 have d0:w2.cell? ⟨b,0,none⟩=some (.pointer (some ⟨b,0,none⟩)):=by rw[cell_of_row w2 b 0 _ 82 (0,0) hb2];rfl
 have d1:w2.cell? ⟨b,1,none⟩=some v:=by rw[cell_of_row w2 b 1 _ 82 (0,0) hb2];rfl
 have f1:w2.frozen? ⟨b,1,none⟩=false:=frozen_of_row w2 b 1 _ 82 hb2
 obtain⟨ao,n',cap,rfl⟩:∃ ao n' cap,v'=.slice ao n' cap:=by
  rcases hown'.2 with ⟨hv,_⟩ | ⟨g,cap,cur,hv,_⟩
  ·exact⟨_,_,_,hv⟩
  exact⟨_,_,_,hv⟩
 have HB2:=Lib.hid hb2;clear hb2
 go_wp2
 go_ret2
 refine⟨_,rfl,?_,?_⟩
 ·refine .inr ?_;rw[<-strCells_bytes,<-HS.out];refine Lib.BuilderAt.put (T:=82) (e:=5) hBb HB2.out (bs':=Lib.byteCells l++Lib.strCells sv) ?_ (by decide);rw[lsa,Lib.byteCells_length,Lib.strCells_length];exact hown'
 exact (hb1.grown hgrow (by omega) (fun k hk=>(hown1.lt k hk).1)).setCell (p:=⟨b,1,none⟩) hBb _
theorem fmt_small (i:Nat) (z:Int) (hz:z=(i:Int)) (h:i<100) (w:World) :
  Calls Tryz.prog 142 #[.int .u64 z,.int .i64 10] w fun e w'=>e=.returned (.string ⟨(Lib.decDigits i).toArray⟩)/\w=w':=by
 subst hz
 have inner:Calls Tryz.prog 149 #[.int .u64 i,.int .i64 10] w fun e w'=>e=.returned (.string ⟨(Lib.decDigits i).toArray⟩)/\w=w':=by
  go_enter Tryz.func149,Tryz.ntmps149
  go_wp2_with fail
  refine (Tryz.internal_strconv_small i h _).mono ?_;rintro e w' ⟨rfl,rfl⟩;go_wp2_with fail
  go_ret
  exact⟨rfl,rfl⟩
 have IN:=Lib.hid inner;clear inner;go_enter Tryz.func142,Tryz.ntmps142
 go_wp2_with fail
 refine IN.out.mono ?_;rintro e w' ⟨rfl,rfl⟩;go_wp2_with fail
 go_ret
 exact⟨rfl,rfl⟩
abbrev G9:Nat:=1000000000
theorem Ow.len {w:World} {base:Nat} {k:IntKind} {T:TypeId} {v:Value} {xs:List Nat} (h:Ow w base k T v xs):lenOfV v=xs.length:=by
 obtain⟨ao,cap,rfl⟩:=sl_shape h.sl;rfl
theorem Ow.grown {w w':World} {base:Nat} {k:IntKind} {T:TypeId} {v:Value} {xs:List Nat} (h:Ow w base k T v xs) {g:Nat} (hg:w.grownBy w' (some g)) (hb:g<base):Ow w' base k T v xs:=
 World.ownsRow.kept h hg (by
  cases hv:v.ownBlock with
  | none=>exact .inl rfl
  | some j=>exact .inr (fun e=>by injection e with e;have:=h.base_le j hv;omega))
theorem ws_trimmed {w:World} {T:TypeId} {ao:Option Addr} {n cap g:Nat} {pre s post:List Nat} (h:Ws w .u32 T (.slice ao n cap) g pre s post) (hd:Dig L32 s) :
  ∃ post',Ws w .u32 T (trimmedOf ao cap s) g pre (dig L32 (val L32 s)) post':=by
 have e:=take_nz (B:=L32) (by decide) hd;obtain⟨ao',cap',e1,h1,h2,h3,h4⟩:=h;injection e1 with e1 e2 e3;subst e1;subst e3;have hl:=nz_le s;have hlen:(s.take (nz s)).length=nz s:=by rw[List.length_take];omega
 refine⟨s.drop (nz s)++post,?_⟩;rw[<-e];unfold trimmedOf
 by_cases h0:nz s=0
 ·rw[if_pos h0,h0];exact⟨none,0,rfl,by simp,by omega,fun _=>rfl,fun h=>by simp at h⟩
 rw[if_neg h0];refine⟨ao,cap,by rw[hlen],by rw[hlen];omega,h2,h3,fun _=>?_⟩;obtain⟨a1,a2⟩:=h4 (by omega);refine⟨a1,?_⟩
 have:pre++s.take (nz s)++(s.drop (nz s)++post)=pre++s++post:=by
  rw[<-List.append_assoc,List.append_assoc pre,List.take_append_drop]
 rw[this];exact a2
theorem trimmed_ws (v:Value) (g:Nat) (pre s post:List Nat) (w:World) (h:Ws w .u32 113 v g pre s post) (hd:Dig L32 s) :
  Calls Tryz.prog 99 #[v] w fun e w'=>∃ v' post',e=.returned v'/\Ws w .u32 113 v' g pre (dig L32 (val L32 s)) post'/\w=w':=by
 obtain⟨ao,cap,rfl⟩:=h.at;refine (trimmed_any _ _ _ s _ h.sl).mono fun e w' ⟨he,hw⟩=>?_
 obtain⟨post',h'⟩:=ws_trimmed h hd;exact⟨_,post',he,h',hw⟩
theorem Ws.len {w:World} {k:IntKind} {T:TypeId} {v:Value} {g:Nat} {pre s post:List Nat} (h:Ws w k T v g pre s post):lenOfV v=s.length:=by
 obtain⟨ao,cap,rfl⟩:=h.at;rfl
theorem Ws.kept {w w':World} {B:Nat} {k:IntKind} {T:TypeId} {v:Value} {g:Nat} {pre s post:List Nat} (h:Ws w k T v g pre s post) (hb:Below B w w') (hg:s.length≠0->g<B):Ws w' k T v g pre s post:=by
 obtain⟨ao,cap,rfl,h1,h2,h3,h4⟩:=h;exact⟨ao,cap,rfl,h1,h2,h3,fun i=>⟨(h4 i).1,(h4 i).2.below hb (hg i)⟩⟩
theorem Ws.in_heap {w:World} {k:IntKind} {T:TypeId} {v:Value} {g:Nat} {pre s post:List Nat} (h:Ws w k T v g pre s post) (h0:s.length≠0):g<w.heap.size:=by
 obtain⟨ao,cap,rfl,h1,h2,h3,h4⟩:=h;exact (h4 h0).2.lt
theorem groups_step {gs:List Nat} {ρ N:Nat} (h0:0<ρ) (h:gs++dig G9 ρ=dig G9 N):(gs++[ρ % G9])++dig G9 (ρ / G9)=dig G9 N:=by
 rw[<-h,dig_pos (B:=G9) (by decide) h0,List.append_assoc];rfl
theorem decimalGroups_any (va:Value) (xs:List Nat) (w:World) (hx:Sl w .u32 va xs) (dx:Dig L32 xs) (lx:xs.length<=100000) :
  Calls Tryz.prog 141 #[va] w fun e w'=>∃ v,e=.returned v/\Sl w' .u32 v (dig G9 (val L32 xs))/\Below w.heap.size w w':=by
 obtain⟨i0,hi,hz0,hz1,hz2⟩:=info_parts info51;obtain⟨ao,ac,rfl⟩:=sl_shape hx;go_enter Tryz.func141,Tryz.ntmps141
 go_wp2_with fail
 refine (trim_any _ xs w hx dx (by omega)).mono ?_;rintro e w1 ⟨v1,rfl,hs1,hb1⟩;have hsz1:=hb1.size;have Hg:Hid ((dig L32 (val L32 xs)).length≠0->w.heap.size<w1.heap.size):=Lib.hid (fun h=>hs1.in_heap h)
 have HK:Hid ((dig G9 (val L32 xs)).length<=1000000):=Lib.hid (Nat.le_trans (length_dig_le (B:=G9) (k:=2*xs.length) (by decide) (by
  have h1:=val_lt dx;have h2:L32 ^ xs.length<=G9 ^ (2*xs.length):=by rw[Nat.pow_mul];exact Nat.pow_le_pow_left (by decide) _
  omega)) (by omega))
 generalize hN:val L32 xs=N at *;have HN:=Lib.hid hN;clear hN;go_wp2_with fail
 go_loopw [3,4] (fun gv rv wr=>∃ (ρ:Nat) (gs post:List Nat),Ow wr w1.heap.size .u32 113 gv gs/\Ws wr .u32 113 rv w.heap.size [] (dig L32 ρ) post/\Hid (gs++dig G9 ρ=dig G9 N)/\Dig L32 gs/\Below w.heap.size w wr/\w1.heap.size<=wr.heap.size/\Hid ((dig L32 ρ).length≠0->w.heap.size<w1.heap.size)) (fun gv _ _=>(dig G9 N).length - lenOfV gv)
 case atStart=>exact⟨N,[],[],Ow.nil _ _ _ _,hs1,Lib.hid rfl,Dig.nil _,hb1,Nat.le_refl _,Hg⟩
 case round =>
  clear hs1 hb1 Hg;obtain⟨ρ,gs,post,how,hws,HG,hdg,hb,hsz,Hg⟩:=hrel;have hlen:=Lib.hid hws.len;obtain⟨ro,rc,rfl⟩:=hws.at
  by_cases h0:0<ρ
  ·have hpos:0<(dig L32 ρ).length:=by rw[dig_pos (by decide) h0];simp
   have hgl:=Hg.out (by omega);have HG':=Lib.hid (groups_step h0 HG.out)
   have hgsl:gs.length<(dig G9 N).length:=by
    have:=congrArg List.length HG.out;rw[lsa,dig_pos (B:=G9) (by decide) h0] at this
    simp at this;omega
   have hk:=HK.out;have hmod:ρ % G9<1000000000:=Nat.mod_lt _ (by decide);have HL:=Lib.hid how.len;go_wp2_with fail
   refine (divLimb_any w.heap.size [] _ post _ G9 _ wr hws (Dig_dig (by decide) _) rfl (by decide) (by decide)).mono ?_;rintro e w3 ⟨s',rfl,hs3,hg3,hl3,hd3,hv3⟩;rw[val_dig (by decide)] at hv3 ⊢;have how3:=how.grown hg3 hgl;have hb3:Below w.heap.size w w3:=hb.trans (below_of_grown' hg3 (Nat.le_refl _) hb.size);have hsz3:=hg3.size;have HV3:=Lib.hid hv3;have HL3:=Lib.hid hl3;clear hv3 hl3;obtain⟨m,hm⟩:∃ m,m=ρ % G9:=⟨_,rfl⟩
   rw[<-hm];rw[<-hm] at HG' hmod;clear hm;go_wp2_with (at_builtin;refine wpList_append_one _ rfl (.tmp 12) (.tmp 15) 23 rfl 113 i0 .u32 Tryz.underlying23 hi hz0 hz1 ?c1 w1.heap.size _ gs rfl (how3.alloc _) w3.heap.size (m:Int) m rfl ?c2 rfl ?c3 ?c4 ?_)
   case c1=>omega
   case c2=>simp
   case c3=>omega
   case c4=>simp;omega
   intro v' w4 how4 hb4;have hb4':Below w1.heap.size w3 w4:=((Below.refl _ _).alloc (by omega) _).trans hb4;have hs4:=hs3.kept hb4' (fun _=>hgl);go_wp2_with fail
   refine (trimmed_ws _ _ _ s' _ w4 hs4 hd3).mono ?_;rintro e w5 ⟨v5,post5,rfl,hs5,rfl⟩;rw[HV3.out] at hs5;go_wp2_with fail
   go_roundw
   case rel=>exact⟨ρ / G9,gs++[m],post5,how4,hs5,HG',hdg.append (by intro x hx;obtain rfl:=List.mem_singleton.1 hx;exact Nat.lt_trans hmod (by decide)),hb3.trans (hb4'.mono (by omega)),Nat.le_trans (by omega) hb4'.size,Lib.hid (fun _=>hgl)⟩
   case measure =>
    have e1:=HL.out;have e2:=how4.len;rw[lsa] at e2
    simp at e2
    simp;omega
  have hr:ρ=0:=by omega
  subst hr;have HE:Hid (gs=dig G9 N):=Lib.hid (by have:=HG.out;rwa [dig_zero,List.append_nil] at this);have hl0:(dig L32 0).length=0:=by rw[dig_zero];rfl
  have HL0:=Lib.hid hl0;have hl1:(dig L32 0).length<=0:=by omega
  clear hl0;go_wp2_with fail
  go_ret
  exact⟨_,rfl,by rw[HN.out,<-HE.out];exact how.sl,hb⟩
def pad:Nat->Nat->List UInt8
 | 0,_=>[]
 | k+1,g=>pad k (g / 10)++[UInt8.ofNat (48+g % 10)]
theorem decDigits_pad (k:Nat):∀ (q g:Nat),0<q->g<10 ^ k->Lib.decDigits (q*10 ^ k+g)=Lib.decDigits q++pad k g:=by
 induction k with
 | zero=>intro q g hq hg;simp at hg;subst hg;simp[pad]
 | succ k ih =>
  intro q g hq hg
  have hbig:¬ q*10 ^ (k+1)+g<10:=by
   have:1*10 ^ (k+1)<=q*10 ^ (k+1):=Nat.mul_le_mul_right _ hq;have h2:10<=10 ^ (k+1):=by rw[Nat.pow_succ];have:=Nat.pow_pos (n:=k) (show 0<10 by omega);omega
   omega
  have e1:(q*10 ^ (k+1)+g) / 10=q*10 ^ k+g / 10:=by
   rw[Nat.pow_succ,<-Nat.mul_assoc,Nat.add_comm,Nat.add_mul_div_right _ _ (by omega),Nat.add_comm]
  have e2:(q*10 ^ (k+1)+g) % 10=g % 10:=by
   rw[Nat.pow_succ,<-Nat.mul_assoc,Nat.add_comm,Nat.add_mul_mod_self_right]
  have hg':g / 10<10 ^ k:=Nat.div_lt_of_lt_mul (by rw[Nat.pow_succ] at hg;omega);rw[Lib.decDigits,dif_neg hbig,e1,e2,ih q (g / 10) hq hg',List.append_assoc]
  rfl
theorem decDigits_group {q g:Nat} (hq:0<q) (hg:g<G9):Lib.decDigits (g+G9*q)=Lib.decDigits q++(Lib.decDigits (G9+g)).drop 1:=by
 have h1:=decDigits_pad 9 q g hq hg;have h2:=decDigits_pad 9 1 g (by decide) hg;have hG:G9=1000000000:=rfl;rw[show q*10 ^ 9+g=g+G9*q by rw[hG];omega] at h1;rw[show 1*10 ^ 9+g=G9+g by rw[hG]] at h2;rw[h1,h2,Lib.decDigits_one (i:=1) (by decide)]
 rfl
theorem len_pad (k g:Nat):(pad k g).length=k:=by
 induction k generalizing g with
 | zero=>rfl
 | succ k ih=>simp[pad,ih]
theorem decDigits_ten {g:Nat} (hg:g<G9):(Lib.decDigits (G9+g)).length=10:=by
 have h2:=decDigits_pad 9 1 g (by decide) hg;rw[show 1*10 ^ 9+g=G9+g from rfl] at h2;rw[h2,lsa,len_pad,Lib.decDigits_one (i:=1) (by decide)];rfl
theorem decDigits_len {n k:Nat} (h:n<10 ^ k) (hk:0<k):(Lib.decDigits n).length<=k:=by
 rw[Lib.decDigits_length];rcases Nat.lt_or_ge n 10 with h1 | h1
 ·rw[Lib.nDigits_small h1];exact hk
 induction k generalizing n with
 | zero=>omega
 | succ k ih =>
  rw[Lib.nDigits_big (by omega)];have h2:n / 10<10 ^ k:=Nat.div_lt_of_lt_mul (by rw[Nat.pow_succ] at h;omega)
  have hk0:0<k:=by
   rcases Nat.eq_zero_or_pos k with h0 | h0
   ·subst h0;simp at h2;omega
   exact h0
  rcases Nat.lt_or_ge (n / 10) 10 with h3 | h3
  ·rw[Lib.nDigits_small h3];omega
  have:=ih h2 hk0 h3;omega
theorem val_drop_step {B:Nat} {gs:List Nat} {k:Nat} (hk:k<gs.length):val B (gs.drop k)=gs.getD k 0+B*val B (gs.drop (k+1)):=by
 rw[List.drop_eq_getElem_cons hk]
 simp[val,List.getD,hk]
theorem extract_one (l:List UInt8):(⟨l.toArray⟩:ByteArray).extract 1 (⟨l.toArray⟩:ByteArray).size=⟨(l.drop 1).toArray⟩:=by
 apply ByteArray.ext
 simp[ByteArray.size]
 rw[List.take_of_length_le (by simp)]
theorem digits_len {gs:List Nat} (hd:Dig G9 gs) (k:Nat) (hl:gs.length<=20000):(Lib.decDigits (val G9 (gs.drop k))).length<=180009:=by
 have h1:=val_lt (hd.drop k)
 have h2:G9 ^ (gs.drop k).length<=10 ^ (9*gs.length+9):=by
  rw[show G9=10 ^ 9 from rfl,<-Nat.pow_mul];exact Nat.pow_le_pow_right (by decide) (by rw[List.length_drop];omega)
 have:=decDigits_len (Nat.lt_of_lt_of_le h1 h2) (by omega)
 omega
theorem digits_round {gs:List Nat} (hd:Dig G9 gs) {k:Nat} (hk:k<gs.length) (hp:0<val G9 (gs.drop (k+1))) :
  Lib.decDigits (val G9 (gs.drop k))=Lib.decDigits (val G9 (gs.drop (k+1)))++(Lib.decDigits (G9+gs.getD k 0)).drop 1/\0<val G9 (gs.drop k):=by
 rw[val_drop_step hk];refine⟨decDigits_group hp (hd.getD (by decide) k),?_⟩;have:1*1<=G9*val G9 (gs.drop (k+1)):=Nat.mul_le_mul (by decide) hp
 omega
def FmtAt (w0:World) (P:Nat->Prop):Prop:=
 ∀ (w:World) (i:Nat) (z:Int),Below w0.heap.size w0 w->z=(i:Int)->P i->Calls Tryz.prog 142 #[.int .u64 z,.int .i64 10] w fun e w'=>e=.returned (.string ⟨(Lib.decDigits i).toArray⟩)/\Below w.heap.size w w'
theorem text_gen (P:Nat->Prop) (va:Value) (xs:List Nat) (w:World) (fmt:FmtAt w P) (hx:Sl w .u32 va xs) (dx:Dig L32 xs) (lx:xs.length<=10000)
  (hP1:∀ g,g<G9->(dig G9 (val L32 xs)).getD ((dig G9 (val L32 xs)).length - 1) 0=g->P g) (hP2:2<=(dig G9 (val L32 xs)).length->∀ g,g<G9->P (G9+g)) :
  Calls Tryz.prog 119 #[va] w fun e w'=>e=.returned (.string ⟨(Lib.decDigits (val L32 xs)).toArray⟩)/\Below w.heap.size w w':=by
 have FMT:=Lib.hid fmt;clear fmt
 have HGL:Hid ((dig G9 (val L32 xs)).length<=20000):=Lib.hid (Nat.le_trans (length_dig_le (B:=G9) (k:=2*xs.length) (by decide) (by
  have h1:=val_lt dx;have h2:L32 ^ xs.length<=G9 ^ (2*xs.length):=by rw[Nat.pow_mul];exact Nat.pow_le_pow_left (by decide) _
  omega)) (by omega))
 have DG:=decimalGroups_any va xs w hx dx (by omega);have DGH:=Lib.hid DG;clear DG;have dg:=Dig_dig (B:=G9) (by decide) (val L32 xs);have HV:=Lib.hid (val_dig (B:=G9) (by decide) (val L32 xs));have HLast:=Lib.hid (@dig_last G9 (val L32 xs) (by decide));have HP1:=Lib.hid hP1;have HP2:=Lib.hid hP2;clear hP1 hP2 dx;generalize dig G9 (val L32 xs)=gs at *;generalize val L32 xs=N at *
 by_cases h0:gs.length=0
 ·have HN:Hid (N=0):=Lib.hid (by have:=HV.out;rw[List.eq_nil_of_length_eq_zero h0] at this;simpa [val] using this.symm);have hz:(((gs.length:Nat):Int)==0)=true:=by rw[h0];rfl
  have H0:=Lib.hid h0;clear h0;go_enter Tryz.func119,Tryz.ntmps119
  go_wp2_with fail
  refine DGH.out.mono ?_;rintro e w1 ⟨v1,rfl,hs1,hb1⟩;obtain⟨ao,ac,rfl⟩:=sl_shape hs1;go_wp2_with fail
  go_ret
  exact⟨by rw[HN.out,Lib.decDigits_one (i:=0) (by decide)];rfl,hb1⟩
 have hz:(((gs.length:Nat):Int)==0)=false:=by rw[beq_eq_false_iff_ne];omega
 have hp:1<=gs.length:=by omega
 clear h0;go_enter Tryz.func119,Tryz.ntmps119
 go_wp2_with fail
 refine DGH.out.mono ?_;rintro e w1 ⟨v1,rfl,hs1,hb1⟩;have HS1:=Lib.hid hs1;obtain⟨ao,ac,rfl,a1,a2,a3,a4⟩:=hs1;obtain⟨a,rfl,hca⟩:=a4 (gs.length - 1) (by omega);clear a4;have g1:0<=nth gs (gs.length - 1)/\nth gs (gs.length - 1)<1000000000:=by have:=dg.getD (by decide) (gs.length - 1);have hG:G9=1000000000:=rfl;unfold nth;omega
 have hgl:=HGL.out
 have hcal:(w1.alloc (.cells #[.pointer none,.slice none 0 0] 82)).cell? (a.add (gs.length - 1))=some (.int .u32 (nth gs (gs.length - 1))):=by
  rw[World.cell?_alloc_lt _ _ _ (cell_lt hca)];exact hca
 have hBld:Bld w1.heap.size w1.heap.size [] (w1.alloc (.cells #[.pointer none,.slice none 0 0] 82)):=Lib.fresh_isBuilder 82 5 w1;have hbW:Below w1.heap.size w1 (w1.alloc (.cells #[.pointer none,.slice none 0 0] 82)):=(Below.refl _ _).alloc (Nat.le_refl _) _;have hsW:w1.heap.size<(w1.alloc (.cells #[.pointer none,.slice none 0 0] 82)).heap.size:=by simp
 have hg0:=dg.getD (by decide) (gs.length - 1);have hlast:=HLast.out (by omega)
 have hdrop:val G9 (gs.drop (gs.length - 1))=gs.getD (gs.length - 1) 0:=by
  rw[val_drop_step (by omega),List.drop_eq_nil_of_le (by omega)];simp[val]
 have HD0:=Lib.hid hdrop;have HLA:=Lib.hid hlast;clear hdrop hlast;go_wp2_with fail
 generalize (w1.alloc (.cells #[.pointer none,.slice none 0 0] 82))=W2 at *;have hbW':Below w.heap.size w W2:=hb1.trans (hbW.mono hb1.size);refine (FMT.out W2 (gs.getD (gs.length - 1) 0) _ hbW' rfl (HP1.out _ hg0 rfl)).mono ?_;rintro e w3 ⟨rfl,hb3⟩;have hbl3:=hBld.below hb3;have hs3:=hb3.size;have hb3w:Below w.heap.size w w3:=hbW'.trans (hb3.mono hbW'.size);have hb3B:Below w1.heap.size w1 w3:=hbW.trans (hb3.mono (by omega));rw[<-HD0.out];have hdl:=digits_len dg (gs.length - 1) hgl;have hpos:0<val G9 (gs.drop (gs.length - 1)):=by rw[HD0.out];have:=HLA.out;omega
 have HPOS:=Lib.hid hpos;clear hpos;generalize hL:Lib.decDigits (val G9 (gs.drop (gs.length - 1)))=L at *;have HL:=Lib.hid hL;clear hL;generalize hS:(⟨L.toArray⟩:ByteArray)=sv at *;have HS:=Lib.hid hS;clear hS;go_wp2_with fail
 refine (writeString_any w1.heap.size w1.heap.size [] L sv w3 hbl3 HS.out.symm (by simp;omega) (by omega)).mono ?_;rintro e w4 ⟨v4,rfl,hbl4,hb4⟩;rw[List.nil_append] at hbl4;have hb4w:Below w.heap.size w w4:=hb3w.trans (hb4.mono hb1.size);have hb4B:Below w1.heap.size w1 w4:=hb3B.trans hb4;have hs4:=hb4.size;go_wp2_with fail
 go_loopw [6] (fun i wr=>∃ k:Nat,k<=gs.length - 1/\i=.int .i64 ((k:Int) - 1)/\Bld w1.heap.size w1.heap.size (Lib.decDigits (val G9 (gs.drop k))) wr/\Hid (0<val G9 (gs.drop k))/\Below w.heap.size w wr/\Below w1.heap.size w1 wr/\w1.heap.size<wr.heap.size) (fun i _=>(intOf i+1).toNat)
 case atStart=>exact⟨gs.length - 1,Nat.le_refl _,by congr 1;omega,by rw[HL.out];exact hbl4,HPOS,hb4w,hb4B,by omega⟩
 case round =>
  clear hbl3 hb3w hb3B hbl4 hb4w hb4B hs4 hs3 hb3 hb4 HPOS HL HS hBld hbW hsW hbW' hcal hdl;obtain⟨k,hk,rfl,hbl,HPOS,hb,hbB,hsz⟩:=hrel
  by_cases h0:0<k
  ·have hc:wr.cell? (a.add (k - 1))=some (.int .u32 (nth gs (k - 1))):=by
    have:=HS1.out.at (i:=k - 1) (by omega);rw[hbB.cell (cell_lt this)];exact this
   have gk:=dg.getD (by decide) (k - 1);have gk':0<=nth gs (k - 1)/\nth gs (k - 1)<1000000000:=by have hG:G9=1000000000:=rfl;unfold nth;omega
   have HR:=Lib.hid (digits_round dg (k:=k - 1) (by omega) (by rw[show k - 1+1=k by omega];exact HPOS.out));have hP:=HP2.out (by omega) _ gk;have hten:=decDigits_ten gk;have hdl:=digits_len dg k hgl;have hex:=extract_one (Lib.decDigits (G9+gs.getD (k - 1) 0));have hsize:(⟨(Lib.decDigits (G9+gs.getD (k - 1) 0)).toArray⟩:ByteArray).size=10:=by simpa [ByteArray.size] using hten
   have hdr:((Lib.decDigits (G9+gs.getD (k - 1) 0)).drop 1).length=9:=by rw[List.length_drop,hten]
   have HTEN:=Lib.hid hten;clear hten;go_wp2_with fail
   refine (FMT.out wr (G9+gs.getD (k - 1) 0) _ hb (by unfold nth;simp) hP).mono ?_;rintro e w5 ⟨rfl,hb5⟩;have hbl5:=hbl.below hb5;have hs5:=hb5.size;have hb5w:Below w.heap.size w w5:=hb.trans (hb5.mono hb.size);have hb5B:Below w1.heap.size w1 w5:=hbB.trans (hb5.mono (by omega));generalize hM:(Lib.decDigits (G9+gs.getD (k - 1) 0)).drop 1=M at *;generalize hS:(⟨(Lib.decDigits (G9+gs.getD (k - 1) 0)).toArray⟩:ByteArray)=sv at *;have HEX:=Lib.hid hex;have hsz1:1<=sv.size/\sv.size<=10:=by omega
   clear hex hS hM hsize;go_wp2_with fail
   refine (writeString_any w1.heap.size w1.heap.size _ M _ w5 hbl5 HEX.out (by omega) (by omega)).mono ?_;rintro e w6 ⟨v6,rfl,hbl6,hb6⟩;have hs6:=hb6.size;go_wp2_with fail
   go_roundw
   case rel =>
    refine⟨k - 1,by omega,by go_num,?_,Lib.hid HR.out.2,hb5w.trans (hb6.mono hb1.size),hb5B.trans hb6,by omega⟩;have h:=HR.out.1;rw[show k - 1+1=k by omega] at h;rw[h];exact hbl6
   case measure=>simp[intOf];omega
  have hk0:k=0:=by omega
  subst hk0;have HN:Hid (val G9 (gs.drop 0)=N):=Lib.hid (by rw[List.drop_zero];exact HV.out);go_wp2_with fail
  refine (Tryz.Builder_String_any w1.heap.size w1.heap.size _ wr hbl (by omega)).mono ?_;rintro e w7 ⟨rfl,hb7⟩;rw[HN.out];go_wp2_with fail
  go_ret
  exact⟨rfl,hb.trans (hb7.mono hb1.size)⟩
theorem times_step {t ys:List Nat} {S x k c z:Nat} (hy:k<ys.length) (ht:k<t.length) (hv:val L32 t+c*L32 ^ k=S+x*val L32 (ys.take k)) (hz:z=c+(x*ys.getD k 0+t.getD k 0)) :
  val L32 (t.set k (z % L32))+(z / L32)*L32 ^ (k+1)=S+x*val L32 (ys.take (k+1)):=by
 have h1:=val_set L32 t k (z % L32) ht;rw[val_take_succ L32 ys k hy,Nat.pow_succ];have h2:=Nat.mod_add_div z L32;generalize z % L32=r at *;generalize z / L32=q at *;generalize L32 ^ k=P at *;have h3:(r+L32*q)*P=(c+(x*ys.getD k 0+t.getD k 0))*P:=by rw[h2,hz]
 grind
theorem mul_bound {x y:Nat} (hx:x<4294967296) (hy:y<4294967296):x*y<=18446744065119617025:=
 Nat.le_trans (Nat.mul_le_mul (show x<=4294967295 by omega) (show y<=4294967295 by omega)) (by decide)
theorem addTimes_any (g:Nat) (pre s post ys:List Nat) (vs vb:Value) (x:Nat) (zx:Int) (w:World) (hw:Ws w .u32 113 vs g pre s post) (hb:Sl w .u32 vb ys) (ha:Apart g vb) (hl:ys.length<s.length)
  (hs:Dig L32 s) (hy:Dig L32 ys) (hzx:zx=(x:Int)) (hx:x<4294967296) (h0:s.getD ys.length 0=0) :
  Calls Tryz.prog 104 #[vs,vb,.int .u32 zx] w fun e w'=>∃ s',e=.returned (.tuple #[])/\Ws w' .u32 113 vs g pre s' post/\w.grownBy w' (some g)/\s'.length=s.length/\Dig L32 s' /\
   val L32 s'=val L32 s+x*val L32 ys:=by
 subst hzx;have H0:=Lib.hid h0;clear h0;obtain⟨ao,cap,rfl,h1,h2,h3,h4⟩:=hw;have HB:=Lib.hid hb;obtain⟨bo,bcap,rfl,k1,k2,k3,k4⟩:=hb;go_enter Tryz.func104,Tryz.ntmps104
 go_wp2
 go_loopw [6,11] (fun c i wr=>∃ (k:Nat) (t:List Nat) (cc:Nat),i=.int .i64 k/\c=.int .u64 (cc:Int)/\cc<4294967296/\k<=ys.length/\w.grownBy wr (some g)/\Hid (t.length=s.length)/\Dig 4294967296 t /\
   WsAt wr .u32 113 ao g pre t post s.length/\Hid (t.drop k=s.drop k)/\Hid (val L32 t+cc*L32 ^ k=val L32 s+x*val L32 (ys.take k)))
  (fun _ i _=>ys.length - (intOf i).toNat)
 case atStart=>exact⟨0,s,0,rfl,rfl,by omega,by omega,World.grownBy.refl _ _,Lib.hid rfl,hs,h4,Lib.hid rfl,Lib.hid (by simp[val])⟩
 case round =>
  obtain⟨k,t,cc,rfl,rfl,hcc,hk,hg,Ht,hdt,hB,HD,HV⟩:=hrel
  by_cases hlt:k<ys.length
  ·obtain⟨b,rfl,hcb⟩:=k4 k hlt;obtain⟨rfl,hB'⟩:=hB (by omega);have hkt:k<t.length:=by have:=Ht.out;omega
   have hcb':=(HB.out.grown hg ha).at hlt
   have hct:wr.cell? ⟨g,pre.length+k,none⟩=some (.int .u32 (nth t k)):=by
    rw[hB'.cell (by simp;omega),nth_mid _ _ _ _ hkt]
   have hft:=hB'.frozen (pre.length+k);have y1:=u32_wf hy k;have t1:=u32_wf hdt k;have y0:=hy.getD (by decide) k;have t0:=hdt.getD (by decide) k
   have hm:0<=(x:Int)*nth ys k/\(x:Int)*nth ys k<=18446744065119617025:=by
    have:=mul_bound hx y0;have e:(x:Int)*nth ys k=((x*ys.getD k 0:Nat):Int):=by unfold nth;simp
    rw[e];omega
   have HE:=Lib.hid (show (cc:Int)+((x:Int)*nth ys k+nth t k)=((cc+(x*ys.getD k 0+t.getD k 0):Nat):Int) by unfold nth;simp);have hzb:cc+(x*ys.getD k 0+t.getD k 0)<18446744073709551616:=by have:=mul_bound hx y0;omega
   have HS:=Lib.hid (times_step (x:=x) (ys:=ys) hlt hkt HV.out rfl);have HZ:=Lib.hid hzb;clear hcb hB h4 k4 y0 t0 hzb
   go_wp2
   go_roundw
   case rel =>
    have hE:=HE.out;have hz:=HZ.out;refine⟨k+1,t.set k ((cc+(x*ys.getD k 0+t.getD k 0)) % L32),(cc+(x*ys.getD k 0+t.getD k 0)) / L32,by go_num,?_,?_,by omega,grown_setCell hg _,Lib.hid (by rw[List.length_set];exact Ht.out),hdt.set (Nat.mod_lt _ (by decide)),fun _=>⟨rfl,?_⟩,Lib.hid ?_,HS⟩
    ·rw[hE];congr 1
    ·exact Nat.div_lt_of_lt_mul (by omega)
    ·rw[<-set_mid _ _ _ _ _ hkt];exact hB'.set _ _ _ (by rw[hE];rfl)
    rw[List.drop_set_of_lt (by omega)];have:=congrArg (List.drop 1) HD.out
    rwa [List.drop_drop,List.drop_drop] at this
   case measure=>simp[intOf];omega
  have hkk:k=ys.length:=by omega
  subst hkk;obtain⟨rfl,hB'⟩:=hB (by omega);have hkt:ys.length<t.length:=by have:=Ht.out;omega
  have hft:=hB'.frozen (pre.length+ys.length)
  have hct:wr.cell? ⟨g,pre.length+ys.length,none⟩=some (.int .u32 (nth t ys.length)):=by
   rw[hB'.cell (by simp;omega),nth_mid _ _ _ _ hkt]
  have ht0:t.getD ys.length 0=0:=by
   have:=congrArg (fun l=>l.getD 0 0) HD.out;simp only[List.getD_eq_getElem?_getD,List.getElem?_drop,Nat.add_zero] at this ⊢;rw[this];have h:=H0.out
   simpa using h
  have hfinv:val L32 (t.set ys.length cc)=val L32 s+x*val L32 ys:=by
   have h1:=val_set L32 t ys.length cc hkt;have h2:=HV.out;rw[List.take_length] at h2;rw[ht0] at h1
   omega
  have HF:=Lib.hid hfinv;clear hfinv ht0 hB h4 k4
  go_wp2
  go_end0
  refine⟨t.set ys.length cc,rfl,⟨some ⟨g,pre.length,none⟩,cap,by rw[List.length_set,Ht.out],by rw[List.length_set,Ht.out];exact h1,h2,h3,fun _=>⟨rfl,?_⟩⟩,grown_setCell hg _,by rw[List.length_set];exact Ht.out,hdt.set hcc,HF.out⟩;rw[<-set_mid _ _ _ _ _ hkt];exact hB'.set _ _ _ (by omega)
theorem high_zero {B:Nat} {xs:List Nat} (hB:2<=B) {m:Nat} (h:val B xs<B ^ m) {j:Nat} (hj:m<=j):xs.getD j 0=0:=by
 by_cases hl:j<xs.length
 ·have h1:=val_split B xs (j+1) (by omega);have h2:=val_take_succ B xs j hl;rw[h2] at h1;have h3:B ^ m<=B ^ j:=Nat.pow_le_pow_right (by omega) hj;rcases Nat.eq_zero_or_pos (xs.getD j 0) with h0 | h0
  ·exact h0
  have:1*B ^ j<=xs.getD j 0*B ^ j:=Nat.mul_le_mul_right _ h0
  omega
 exact getD_out (by omega)
theorem mul_step {P s' xs ys:List Nat} {i:Nat} (hi:i<=P.length) (hv:val L32 P=val L32 (xs.take i)*val L32 ys) (hs:val L32 s'=val L32 (P.drop i)+xs.getD i 0*val L32 ys) :
  val L32 (P.take i++s')=val L32 (xs.take (i+1))*val L32 ys:=by
 rw[val_append,hs,val_take_succ',Nat.add_mul,<-hv,val_split L32 P i hi,List.length_take,Nat.min_eq_left hi]
 grind
theorem mul_high {P xs ys:List Nat} {i:Nat} (dx:Dig L32 xs) (dy:Dig L32 ys) (hi:i<=xs.length) (hv:val L32 P=val L32 (xs.take i)*val L32 ys):(P.drop i).getD ys.length 0=0:=by
 have h1:=val_lt (dx.take i);have h2:=val_lt dy;rw[List.length_take,Nat.min_eq_left hi] at h1
 have h3:val L32 P<L32 ^ (i+ys.length):=by
  rw[hv,Nat.pow_add];exact Nat.mul_lt_mul'' h1 h2
 have:=high_zero (B:=L32) (xs:=P) (by decide) h3 (Nat.le_refl _)
 simpa [List.getD,List.getElem?_drop] using this
theorem ws_part {w:World} {T:TypeId} {g i n:Nat} {P:List Nat} (hB:Blk w g .u32 T P) (hi:i<P.length) (hn:n=P.length - i) (hm:P.length<=9223372036854775807) :
  Ws w .u32 T (.slice (some ⟨g,i,none⟩) n n) g (P.take i) (P.drop i) []:=by
 have e1:(P.drop i).length=n:=by simp;omega
 have e2:(P.take i).length=i:=by simp;omega
 refine⟨some ⟨g,i,none⟩,n,by rw[e1],by rw[e1];omega,by omega,(fun e=>by cases e),fun _=>⟨by rw[e2],?_⟩⟩;rw[List.take_append_drop,List.append_nil];exact hB
theorem ws_whole {w:World} {T:TypeId} {v:Value} {g:Nat} {pre s post:List Nat} (h:Ws w .u32 T v g pre s post) (h0:s.length≠0):Blk w g .u32 T (pre++s++post):=by
 obtain⟨_,_,_,_,_,_,h4⟩:=h;exact (h4 h0).2
theorem mul_any (va vb:Value) (xs ys:List Nat) (w:World) (hx:Sl w .u32 va xs) (hy:Sl w .u32 vb ys) (dx:Dig L32 xs) (dy:Dig L32 ys) (lx:xs.length<=1000000) (ly:ys.length<=1000000) :
  Calls Tryz.prog 69 #[va,vb] w fun e w'=>∃ v,e=.returned v/\Sl w' .u32 v (dig L32 (val L32 xs*val L32 ys))/\Below w.heap.size w w':=by
 obtain⟨i0,hi,hz0,hz1,hz2⟩:=info_parts info51;obtain⟨ao,ac,rfl⟩:=sl_shape hx;obtain⟨bo,bc,rfl⟩:=sl_shape hy;have nx:=nz_le xs;have ny:=nz_le ys;have hx':=hx.take (nz xs) nx;have hy':=hy.take (nz ys) ny;have dx':=dx.take (nz xs);have dy':=dy.take (nz ys);have VX:=val_take_nz (B:=L32) (by decide) dx;have VY:=val_take_nz (B:=L32) (by decide) dy;have ex:(xs.take (nz xs)).length=nz xs:=by simp;omega
 have ey:(ys.take (nz ys)).length=nz ys:=by simp;omega
 have HSX:=Lib.hid hx;have HSY:=Lib.hid hy;have SIGX:=Lib.hid (fun w=>sig_any ao xs.length ac xs w);have SIGY:=Lib.hid (fun w=>sig_any bo ys.length bc ys w);clear hx hy;rw[<-VX,<-VY];clear VX VY dx dy;generalize xs.take (nz xs)=X at *;generalize ys.take (nz ys)=Y at *;generalize nz xs=n at *;generalize nz ys=m at *
 have SX:Hid (∀ w1,Below w.heap.size w w1->∀ k,k<n->∃ a,ao=some a/\w1.cell? (a.add k)=some (.int .u32 (nth X k))):=by
  intro w1 hb k hk;obtain⟨ao',cap',e,_,_,_,q⟩:=hx'.below hb;injection e with e1 e2 e3;subst e1;exact q k (by omega)
 have EX:=Lib.hid ex;have EY:=Lib.hid ey;clear ex ey;go_enter Tryz.func69,Tryz.ntmps69
 go_wp2_with fail
 refine (SIGX.out _ HSX.out).mono ?_;rintro e w' ⟨rfl,rfl⟩;go_wp2_with fail
 refine (SIGY.out _ HSY.out).mono ?_;rintro e w' ⟨rfl,rfl⟩;go_wp2_with (at_make;refine wpList_make_blk _ rfl _ _ 24 rfl 113 i0 .u32 Tryz.underlying24 hi hz0 hz1 _ _ _ _ (n+m) rfl rfl (by omega) (by omega) (by omega) (by omega) ?_;intro w1 hB1 hb1 hs1)
 go_loopw [20] (fun j wr=>∃ (i:Nat) (P:List Nat),j=.int .i64 i/\i<=n/\Blk wr w.heap.size .u32 113 P/\Below w.heap.size w wr/\Dig L32 P/\Hid (P.length=n+m)/\Hid (val L32 P=val L32 (X.take i)*val L32 Y)) (fun j _=>n - (intOf j).toNat)
 case atStart=>exact⟨0,_,rfl,Nat.zero_le _,hB1,hb1,Dig.replicate (by decide) _,Lib.hid (by simp),Lib.hid (by rw[val_replicate_zero];simp[val])⟩
 case round =>
  clear hB1 hb1 hs1;obtain⟨i,P,rfl,hin,hB,hb,hdP,HL,HV⟩:=hrel
  by_cases hlt:i<n
  ·obtain⟨a,rfl,hca⟩:=SX.out wr hb i hlt;have hiP:i<P.length:=by have:=HL.out;omega
   have hx1:=u32_wf dx' i;have hx0:=dx'.getD (by decide) i;have hws:=ws_part (n:=n+m - i) hB hiP (by rw[HL.out]) (by have:=HL.out;omega);have hh0:=Lib.hid (mul_high dx' dy' (by rw[EX.out];exact hin) HV.out);have hap:Apart w.heap.size (.slice bo m bc):=sl_apart hy' (Nat.le_refl _);have hsize:Hid ((P.drop i).length=n+m - i):=Lib.hid (by rw[List.length_drop,HL.out]);have hyr:=hy'.below hb;go_wp2_with fail
   refine (addTimes_any w.heap.size (P.take i) (P.drop i) [] Y _ _ (X.getD i 0) _ wr hws hyr hap (by rw[hsize.out,EY.out];omega) (hdP.drop i) dy' rfl hx0 hh0.out).mono ?_;rintro e w3 ⟨s',rfl,hs3,hg3,hl3,hd3,hv3⟩;have hb3:Below w.heap.size w w3:=hb.trans (below_of_grown' hg3 (Nat.le_refl _) hb.size);have hB3:=ws_whole hs3 (by rw[hl3,hsize.out];omega);rw[List.append_nil] at hB3;have HV3:=Lib.hid (mul_step (by omega) HV.out hv3);have HL3:=Lib.hid hl3;clear hv3 hl3 hs3 hg3 hws hB;go_wp2_with fail
   go_roundw
   case rel=>exact⟨i+1,P.take i++s',by go_num,by omega,hB3,hb3,(hdP.take i).append hd3,Lib.hid (by rw[lsa,HL3.out,hsize.out,List.length_take,HL.out];omega),HV3⟩
   case measure=>simp[intOf];omega
  have hii:i=n:=by omega
  subst hii
  have hv:val L32 P=val L32 X*val L32 Y:=by
   have h:=HV.out
   rwa [List.take_of_length_le (by rw[EX.out];omega)] at h
  have HV':=Lib.hid hv;clear hv;have hsl:=hB.sl 0 (i+m) (i+m) (by rw[HL.out];omega) (Nat.le_refl _) (by omega);rw[List.drop_zero,List.take_of_length_le (by rw[HL.out];omega)] at hsl;go_wp2_with fail
  refine (trimmed_v _ P _ hsl hdP).mono ?_;rintro e w4 ⟨v4,rfl,ht4,rfl⟩;go_wp2_with fail
  go_ret
  refine⟨_,rfl,?_,hb⟩;rw[HV'.out] at ht4;exact ht4
def GN (w:World) (v:Value) (n k:Nat):Prop:=∃ xs,Sl w .u32 v xs/\Dig L32 xs/\val L32 xs=n/\xs.length<=k
theorem GN.below {w w':World} {v:Value} {n k:Nat} (h:GN w v n k) (hb:Below w.heap.size w w'):GN w' v n k:=by
 obtain⟨xs,h1,h2,h3,h4⟩:=h;exact⟨xs,h1.below hb,h2,h3,h4⟩
theorem GN.lt {w:World} {v:Value} {n k:Nat} (h:GN w v n k):n<L32 ^ k:=by
 obtain⟨xs,_,h2,h3,h4⟩:=h;rw[<-h3];exact Nat.lt_of_lt_of_le (val_lt h2) (Nat.pow_le_pow_right (by decide) h4)
theorem gn_dig {w:World} {v:Value} {n k:Nat} (h:Sl w .u32 v (dig L32 n)) (hn:n<L32 ^ k):GN w v n k:=
 ⟨_,h,Dig_dig (by decide) _,val_dig (by decide) _,length_dig_le (by decide) hn⟩
theorem pow_add_lt {m n k1 k2:Nat} (h1:m<L32 ^ k1) (h2:n<L32 ^ k2):m+n<L32 ^ (k1+k2+1):=by
 have a:L32 ^ k1<=L32 ^ (k1+k2):=Nat.pow_le_pow_right (by decide) (by omega);have b:L32 ^ k2<=L32 ^ (k1+k2):=Nat.pow_le_pow_right (by decide) (by omega);rw[Nat.pow_succ];have:L32 ^ (k1+k2)*2<=L32 ^ (k1+k2)*L32:=Nat.mul_le_mul_left _ (by decide)
 omega
theorem cmp_n {va vb:Value} {m n k1 k2:Nat} {w:World} (hx:GN w va m k1) (hy:GN w vb n k2) :
  Calls Tryz.prog 73 #[va,vb] w fun e w'=>e=.returned (.int .i64 (cmpN m n))/\Below w.heap.size w w':=by
 obtain⟨xs,hx,dx,rfl,lx⟩:=hx;obtain⟨ys,hy,dy,rfl,ly⟩:=hy;exact cmp_any _ _ _ _ w hx hy dx dy
theorem of_n (n:Nat) (z:Int) (w:World) (hz:z=(n:Int)) (hn:n<18446744073709551616) :
  Calls Tryz.prog 64 #[.int .u64 z] w fun e w'=>∃ v,e=.returned v/\GN w' v n 2/\Below w.heap.size w w':=
 (of_any n z w hz hn).mono fun _ _ ⟨v,he,hs,hb⟩=>⟨v,he,gn_dig hs (by
  have h:L32 ^ 2=18446744073709551616:=by decide
  omega),hb⟩
def bl (n:Nat):Nat:=(dig 2 n).length
theorem bl_zero:bl 0=0:=by unfold bl;rw[dig_zero];rfl
theorem bl_half {n:Nat} (h:0<n):bl n=1+bl (n / 2):=by unfold bl;rw[dig_pos (by decide) h];simp;omega
theorem bitLen_bl (n:Nat) (h:n<2 ^ 64):Lib.bitLen n=bl n:=by
 induction n using Nat.strongRecOn with
 | ind n ih =>
  by_cases h0:n=0
  ·subst h0;rw[bl_zero];decide
  rw[Lib.bitLen_half n h0 h,bl_half (by omega),ih (n / 2) (by omega) (by omega)]
theorem bl_top (k:Nat):∀ v t:Nat,v<2 ^ k->0<t->bl (v+t*2 ^ k)=k+bl t:=by
 induction k with
 | zero=>intro v t hv ht;simp at hv;subst hv;simp
 | succ k ih =>
  intro v t hv ht;have hp:0<2 ^ (k+1):=Nat.pow_pos (by decide);have hpos:0<v+t*2 ^ (k+1):=by have:=Nat.mul_pos ht hp;omega
  rw[bl_half hpos];have e:(v+t*2 ^ (k+1)) / 2=v / 2+t*2 ^ k:=by rw[Nat.pow_succ,<-Nat.mul_assoc];omega
  rw[e,ih (v / 2) t (by rw[Nat.pow_succ] at hv;omega) ht]
  omega
theorem bl_le {n k:Nat} (h:n<2 ^ k):bl n<=k:=length_dig_le (by decide) h
theorem bits_nat (va:Value) (xs:List Nat) (w:World) (hx:Sl w .u32 va xs) (dx:Dig L32 xs) (lx:xs.length<=1000000) :
  Calls Tryz.prog 107 #[va] w fun e w'=>e=.returned (.int .i64 ((bl (val L32 xs):Nat):Int))/\w=w':=by
 have HX:=Lib.hid hx;obtain⟨ao,ac,rfl,a1,a2,a3,a4⟩:=hx;have nx:=nz_le xs
 by_cases h0:nz xs=0
 ·have hv:val L32 xs=0:=by rw[<-val_take_nz (B:=L32) (by decide) dx,h0];rfl
  have HV:=Lib.hid hv;have hz:(((nz xs:Nat):Int)==0)=true:=by rw[h0];rfl
  clear h0 hv a4;go_enter Tryz.func107,Tryz.ntmps107
  go_wp2_with fail
  refine (sig_any _ _ _ xs _ HX.out).mono ?_;rintro e w' ⟨rfl,rfl⟩;go_wp2_with fail
  go_ret
  exact⟨by rw[HV.out,bl_zero];rfl,rfl⟩
 have hz:(((nz xs:Nat):Int)==0)=false:=by rw[beq_eq_false_iff_ne];omega
 have hp:1<=nz xs:=by omega
 obtain⟨a,rfl,hca⟩:=a4 (nz xs - 1) (by omega);have t1:=dx.getD (by decide) (nz xs - 1);have t2:=u32_wf dx (nz xs - 1);have hl:bl (xs.getD (nz xs - 1) 0)<=32:=bl_le t1
 have hbl:Lib.bitLen (nth xs (nz xs - 1)).toNat=bl (xs.getD (nz xs - 1) 0):=by
  unfold nth;rw[Int.toNat_natCast];exact bitLen_bl _ (Nat.lt_trans t1 (by decide))
 have htop:0<xs.getD (nz xs - 1) 0:=by
  rcases Nat.eq_zero_or_pos (xs.getD (nz xs - 1) 0) with h | h
  ·have h3:=nz_zero (xs:=xs.take (nz xs)) (k:=nz xs - 1) (by rw[List.length_take];omega) (by simpa [List.getD,show nz xs - 1<nz xs by omega] using h);have h5:(dig L32 (val L32 xs)).length=nz xs:=length_dig_val (by decide) dx;have h6:=take_nz (B:=L32) (by decide) (Dig_dig (B:=L32) (by decide) (val L32 xs));rw[val_dig (by decide)] at h6;have h7:=congrArg List.length h6;rw[List.length_take,h5,dig_val_take (by decide) dx] at h7
   have h8:nz ((xs.take (nz xs)).take (nz xs - 1+1))=nz (xs.take (nz xs)):=by
    rw[show nz xs - 1+1=nz xs by omega,List.take_take,Nat.min_self]
   have h9:=nz_le ((xs.take (nz xs)).take (nz xs - 1));rw[List.length_take,List.length_take] at h9
   omega
  exact h
 have hfin:bl (val L32 xs)=(nz xs - 1)*32+bl (xs.getD (nz xs - 1) 0):=by
  have e:=val_take_nz (B:=L32) (by decide) dx;have e2:=val_take_succ' L32 xs (nz xs - 1);rw[show nz xs - 1+1=nz xs by omega] at e2;have e3:L32 ^ (nz xs - 1)=2 ^ ((nz xs - 1)*32):=by rw[Nat.mul_comm,Nat.pow_mul]
  have e4:=val_lt (dx.take (nz xs - 1));rw[List.length_take,Nat.min_eq_left (by omega),e3] at e4;rw[<-e,e2,e3,bl_top _ _ _ e4 htop]
 generalize bl (xs.getD (nz xs - 1) 0)=b at *;have HF:=Lib.hid hfin;have HB:=Lib.hid hbl;clear h0 a4 hbl hfin;go_enter Tryz.func107,Tryz.ntmps107
 go_wp2_with fail
 refine (sig_any _ _ _ xs _ HX.out).mono ?_;rintro e w' ⟨rfl,rfl⟩;go_wp2_with fail
 refine (Tryz.bits_Len32 _ _ (by omega) (by omega)).mono ?_;rintro e w' ⟨rfl,rfl⟩;rw[HB.out];go_wp2_with fail
 go_ret
 refine⟨?_,rfl⟩;rw[HF.out,show (((nz xs - 1)*32+b:Nat):Int)=(((nz xs:Nat):Int) - 1)*32+(b:Int) by omega]
 rfl
theorem bits_n {va:Value} {n k:Nat} {w:World} (hx:GN w va n k) (hk:k<=1000000) :
  Calls Tryz.prog 107 #[va] w fun e w'=>e=.returned (.int .i64 ((bl n:Nat):Int))/\w=w':=by
 obtain⟨xs,hx,dx,rfl,lx⟩:=hx;exact bits_nat _ _ w hx dx (by omega)
theorem val_add_at (B:Nat) (P:List Nat) (k d:Nat) (h:k<P.length):val B (P.set k (P.getD k 0+d))=val B P+d*B ^ k:=by
 have:=val_set B P k (P.getD k 0+d) h;rw[Nat.add_mul] at this
 omega
theorem getD_set (P:List Nat) (i v t:Nat):(P.set i v).getD t 0=if t=i/\i<P.length then v else P.getD t 0:=by
 by_cases h:t=i
 ·subst h
  by_cases hl:t<P.length
  ·simp[List.getD,hl]
  simp[List.getD,hl]
 rw[List.getD_eq_getElem?_getD,List.getElem?_set_ne (fun e=>h e.symm),<-List.getD_eq_getElem?_getD,if_neg (by simp[h])]
def Keeps (w w':World):Prop:=∀ a k z,w.cell? a=some (.int k z)->w'.cell? a=some (.int k z)
theorem Keeps.refl (w:World):Keeps w w:=fun _ _ _ h=>h
theorem Keeps.trans {a b c:World} (h:Keeps a b) (k:Keeps b c):Keeps a c:=fun p i z hc=>k p i z (h p i z hc)
theorem Below.keeps {w w':World} (h:Below w.heap.size w w'):Keeps w w':=fun a k z hc=>by
 rw[h.cell (World.block_lt_of_cell? w a hc)];exact hc
theorem Keeps.set {w w':World} (h:Keeps w w') {p:Addr} {u:Value} (hc:w'.cell? p=some u) (hu:∀ k z,u ≠ .int k z) (x:Value):Keeps w (w'.setCell p x):=fun a k z h0=>by
 have h1:=h a k z h0;rw[World.cell?_setCell_other w' p a x (fun e=>by rw[<-e,hc] at h1;injection h1 with h1;exact hu _ _ h1)];exact h1
def noInt (c:Array Value):Bool:=c.toList.all fun v=>match v with | .int ..=>false | _=>true
theorem noInt_at {c:Array Value} (h:noInt c=true) {i:Nat} {v:Value} (hv:c[i]?=some v):∀ k z,v ≠ .int k z:=by
 rintro k z rfl;have:=List.all_eq_true.1 h (.int k z) (Array.mem_toList_iff.2 (Array.mem_of_getElem? hv))
 cases this
structure Priv (g:Nat) (w w':World):Prop where
 os:w'.os=w.os
 tape:w'.tape=w.tape
 output:w'.output=w.output
 size:w'.heap.size=w.heap.size
 block:∀ k,k≠g->w'.heap[k]?=w.heap[k]?
 keeps:Keeps w w'
 shape:∀ c T,w.heap[g]?=some (.cells c T (0,0))->noInt c=true->∃ c',w'.heap[g]?=some (.cells c' T (0,0))/\c'.size=c.size/\noInt c'=true
theorem Priv.refl (g:Nat) (w:World):Priv g w w:=⟨rfl,rfl,rfl,rfl,fun _ _=>rfl,Keeps.refl w,fun c _ h hn=>⟨c,h,rfl,hn⟩⟩
theorem Priv.set {g:Nat} {w w':World} (h:Priv g w w') {c:Array Value} {T:TypeId} (hB:w'.heap[g]?=some (.cells c T (0,0))) (hn:noInt c=true) {i:Nat} (hi:i<c.size) {v:Value} (hv:∀ k z,v ≠ .int k z):Priv g w (w'.setCell ⟨g,i,none⟩ v):=by
 have hc:w'.cell? ⟨g,i,none⟩=some c[i]:=by rw[cell_of_row w' g i _ T (0,0) hB];exact Array.getElem?_eq_getElem hi
 refine⟨h.os,h.tape,h.output,by rw[<-h.size];simp[World.setCell],fun k hk=>?_,h.keeps.set hc (noInt_at hn (Array.getElem?_eq_getElem hi)) v,fun c0 T0 h0 hn0=>?_⟩
 ·rw[Below.heap_setCell _ _ _ _ (by simpa using hk)];exact h.block k hk
 obtain⟨c',h1,h2,h3⟩:=h.shape c0 T0 h0 hn0;rw[hB] at h1;injection h1 with h1;injection h1 with h1 h4 h5;subst h1;subst h4;refine⟨c.setIfInBounds i v,by rw[heap_setCell_same w' g i _ T v hB],by simpa using h2,?_⟩;unfold noInt at *;rw[List.all_eq_true] at *;intro q hq;rw[Array.mem_toList_iff] at hq;rcases Array.mem_or_eq_of_mem_setIfInBounds hq with hq | rfl
 ·exact h3 q (Array.mem_toList_iff.2 hq)
 cases q<;>first | rfl | exact absurd rfl (hv _ _)
theorem cell_at {w:World} {g:Nat} {c:Array Value} {T:TypeId} (h:w.heap[g]?=some (.cells c T (0,0))) (i:Nat) {v:Value} (hv:c[i]?=some v):w.cell? ⟨g,i,none⟩=some v:=by
 rw[cell_of_row w g i _ T (0,0) h];exact hv
theorem froz_at {w:World} {g:Nat} {c:Array Value} {T:TypeId} (h:w.heap[g]?=some (.cells c T (0,0))) (i:Nat):w.frozen? ⟨g,i,none⟩=false:=frozen_of_row w g i _ T h
theorem hset2 {w:World} {g:Nat} {T:TypeId} {a b:Value} (h:w.heap[g]?=some (.cells #[a,b] T (0,0))) (x y:Value) :
  ((w.setCell ⟨g,0,none⟩ x).setCell ⟨g,1,none⟩ y).heap[g]?=some (.cells #[x,y] T (0,0)):=by
 rw[heap_setCell_same _ g 1 _ T y (heap_setCell_same w g 0 _ T x h)];rfl
theorem priv2 {w:World} {g:Nat} {T:TypeId} {a b:Value} (h:w.heap[g]?=some (.cells #[a,b] T (0,0))) (hn:noInt #[a,b]=true) {x y:Value} (hx:noInt #[x,y]=true) :
  Priv g w ((w.setCell ⟨g,0,none⟩ x).setCell ⟨g,1,none⟩ y):=by
 have h1:=heap_setCell_same w g 0 _ T x h;have p1:Priv g w (w.setCell ⟨g,0,none⟩ x):=(Priv.refl g w).set h hn (i:=0) (by simp) (noInt_at hx (i:=0) rfl);obtain⟨c,q1,-,q2⟩:=p1.shape _ _ h hn;rw[h1] at q1;injection q1 with q1;injection q1 with q1;subst q1;exact p1.set h1 q2 (i:=1) (by simp) (noInt_at hx (i:=1) rfl)
theorem made_at (W:World) (o:Obj) (g:Nat) (h:W.heap.size=g):(W.alloc o).heap[g]?=some o:=by
 subst h
 show (W.heap.push o)[W.heap.size]?=some o
 simp
theorem made_more {W:World} {g:Nat} {ob:Obj} (h:W.heap[g]?=some ob) (o:Obj):(W.alloc o).heap[g]?=some ob:=by
 rw[Below.heap_alloc W o g (Array.getElem?_eq_some_iff.1 h).1];exact h
theorem undrewK {w w':World} (h:Keeps w.drew w'):Keeps w w':=h
namespace Rely
abbrev Fact:=(Nat->Value)->Value->World->Prop
def mask (L:List Nat) (x:Nat->Value):Nat->Value:=fun j=>if L.contains j then x j else undef
theorem mask_in {L:List Nat} {x:Nat->Value} {j:Nat} (h:L.contains j=true):mask L x j=x j:=by
 unfold mask;rw[if_pos h]
def upd (x:Nat->Value) (k:Nat) (v:Value):Nat->Value:=fun j=>if j=k then v else x j
theorem upd_same (x:Nat->Value) (k:Nat) (v:Value):upd x k v k=v:=if_pos rfl
theorem upd_ne (x:Nat->Value) {k j:Nat} (v:Value) (h:j≠k):upd x k v j=x j:=if_neg h
theorem mask_upd {L:List Nat} {x:Nat->Value} {k:Nat} (v:Value) (h:L.contains k=false):mask L (upd x k v)=mask L x:=by
 funext j
 unfold mask
 by_cases hj:L.contains j=true
 ·rw[if_pos hj,if_pos hj,upd_ne];intro e;subst e;rw[h] at hj;cases hj
 rw[if_neg hj,if_neg hj]
def dstOf (ops:List Oper) (j:Nat):Option Tmp:=(ops[j]?).bind (·.dst)
def dep (D:List (List Nat)) (k:Nat):List Nat:=D.getD k []
def ok (ops:List Oper) (D:List (List Nat)) (m size:Nat):Bool:=
 decide (m<=ops.length) && (List.range ops.length).all fun k =>
  match ops[k]? with
  | none=>false
  | some o =>
   (o.after.all fun e=>!Region.binds .any e || decide (e.on<k)) &&
   ((dep D k).all fun j=>(o.after.any fun e=>Region.binds .any e && (e.on==j || (dep D e.on).contains j)) && ((dep D j).all fun i=>(dep D k).contains i) && decide (j<k)) &&
   (decide (k<m) || (List.range m).all fun j=>(dep D k).contains j) &&
   (match o.dst with | none=>true | some d=>decide (d<size) && (List.range k).all fun j=>dstOf ops j != some d)
def okSt (ops:List Oper) (D:List (List Nat)) (al:List Nat) (st:List (Nat × Nat)) (nq:Nat):Bool:=
 (List.range ops.length).all fun k=>match st.lookup k with
  | none=>true
  | some i=>(if i<1000 then (dep D k).contains i && al.contains i else decide (i - 1000<nq)) && (List.range ops.length).all fun j=>j==k || st.lookup j != some i
def pre (ops:List Oper) (D:List (List Nat)) (k t:Nat):Bool:=
 (List.range ops.length).all fun j=>dstOf ops j != some t || j==k || (dep D j).contains k
def fill:List Oper->(Nat->Value)->Nat->Array Value->Array Value
 | [],_,_,t=>t
 | o::l,x,k,t=>fill l x (k+1) (match o.dst with | some d=>t.setIfInBounds d (x k) | none=>t)
theorem fill_eq:∀ (l:List Oper) (x:Nat->Value) (k:Nat) (t T:Array Value),T.size=t.size ->
  (∀ j d,dstOf l j=some d->T[d]?=some (x (k+j)))->(∀ s,(∀ j,dstOf l j≠some s)->T[s]?=t[s]?)->fill l x k t=T
 | [],x,k,t,T,hs,_,hp=>by
  refine Array.ext_getElem? (fun i=>?_);rw[hp i (fun j=>by simp[dstOf])]
  rfl
 | o::l,x,k,t,T,hs,hd,hp=>by
  have hd':∀ j d,dstOf l j=some d->T[d]?=some (x (k+1+j)):=fun j d h=>by
   rw[hd (j+1) d (by simpa [dstOf] using h),Nat.add_right_comm,Nat.add_assoc]
  unfold fill
  cases ho:o.dst with
  | none =>
   refine fill_eq l x (k+1) t T hs hd' (fun s h=>hp s (fun j=>?_))
   cases j with
   | zero=>simp[dstOf,ho]
   | succ j=>simpa [dstOf] using h j
  | some d =>
   have h0:T[d]?=some (x k):=hd 0 d (by simp[dstOf,ho]);have hlt:d<t.size:=by rw[<-hs];exact (Array.getElem?_eq_some_iff.1 h0).1
   refine fill_eq l x (k+1) _ T (by simpa using hs) hd' (fun s h=>?_)
   by_cases e:d=s
   ·subst e;rw[h0]
    simp[hlt]
   rw[Array.getElem?_setIfInBounds_ne e];refine hp s (fun j=>?_)
   cases j with
   | zero=>simp[dstOf,ho,e]
   | succ j=>simpa [dstOf] using h j
def noQ:Exit->Act->World->Prop:=fun _ _ _=>False
def fact (F:List Fact) (j:Nat):Fact:=(F.reverse[j]?).getD fun _ _ _=>True
section
variable (P:Program) (ops:List Oper) (D:List (List Nat)) (al:List Nat) (st:List (Nat × Nat)) (og:Nat->Nat) (nq:Nat) (t0:Array Value) (ds:List Deferred) (w0:World)
def own (k:Nat):Option Nat:=st.lookup k
def tv (x:Nat->Value) (i:Nat):Value:=if i<1000 then x i else .pointer (some ⟨og (i - 1000),0,none⟩)
structure At (F:Nat->Fact) (k:Nat) (T:Array Value) (x:Nat->Value) (w:World):Prop where
 be:∀ B,B<=w0.heap.size->(∀ q,q<nq->B<=og q)->Below B w0 w
 bl:∀ b,b<w0.heap.size->(∀ q,q<nq->og q≠b)->w.heap[b]?=w0.heap[b]?
 kp:Keeps w0 w
 od:∀ q,q<nq->(∀ k',own st k'=some (1000+q)->k'=k\/(dep D k').contains k=true)->w.heap[og q]?=w0.heap[og q]?
 tm:∀ j d,(dep D k).contains j=true->dstOf ops j=some d->T[d]?=some (x j)
 fa:∀ j,(dep D k).contains j=true->F j (mask (dep D j) x) (x j) w
 pre:∀ t,Rely.pre ops D k t=true->T[t]?=t0[t]?
structure Next (V:Fact) (k:Nat) (x:Nat->Value) (w:World) (v:Value) (w':World):Prop where
 is:V x v w'
 bw:own st k=none->Below w.heap.size w w'
 pv:∀ i,own st k=some i->∃ g,tv og x i=.pointer (some ⟨g,0,none⟩)/\Priv g w w'
 al:al.contains k=true->∃ g,v=.pointer (some ⟨g,0,none⟩)/\w.heap.size<=g/\g<w'.heap.size
def Runs (F:Nat->Fact) (k:Nat) (o:Oper) (V:Fact):Prop:=
 ∀ (T:Array Value) (x:Nat->Value) (w:World),At ops D st og nq t0 w0 F k T x w ->
  ∀ K:Act->World->Prop,Hid (∀ v w',Next al st og V k x w v w'->K ((⟨T,ds⟩:Act).put o.dst v) w') ->
   if Region.wanted o (yielded ops.toArray T)=true then o.wp P ⟨T,ds⟩ w K noQ else K ((⟨T,ds⟩:Act).put o.dst undef) w
def Stays (k:Nat) (V:Fact):Prop:=(∀ x v w w',V x v w->Below w.heap.size w w'->V x v w')/\(st ≠ []->∀ x v w w' g,V x v w->(∀ i,own st k=some i->tv og x i ≠ .pointer (some ⟨g,0,none⟩))->Priv g w w'->V x v w')
def Left (F:Nat->Fact) (m:Nat) (x:Nat->Value) (w:World):Prop:=
 ((∀ B,B<=w0.heap.size->(∀ q,q<nq->B<=og q)->Below B w0 w)/\(∀ b,b<w0.heap.size->(∀ q,q<nq->og q≠b)->w.heap[b]?=w0.heap[b]?)/\Keeps w0 w)/\(∀ j,j<m->F j (mask (dep D j) x) (x j) w) /\
 (∀ i,al.contains i=true->i<m->∃ g,x i=.pointer (some ⟨g,0,none⟩)/\w0.heap.size<=g/\g<w.heap.size) /\
 (∀ i j,al.contains i=true->al.contains j=true->i<m->j<m->i≠j->x i≠x j)
def Chain (m:Nat) (G:(Nat->Value)->World->Prop):List Oper->Nat->List Fact->Prop
 | [],k,F=>k=m/\∀ x w,Left D al og nq w0 (fact F) m x w->G x w
 | o::rest,k,F=>(k=m/\∀ x w,Left D al og nq w0 (fact F) m x w->G x w) \/
  ∃ V,Stays st og k V/\Runs P ops D al st og nq t0 ds w0 (fact F) k o V/\Chain m G rest (k+1) (V::F)
variable {P ops D al st og nq t0 ds w0}
theorem Chain.done {m:Nat} {G:(Nat->Value)->World->Prop} {l:List Oper} {F:List Fact} (h:∀ x w,Left D al og nq w0 (fact F) m x w->G x w):Chain P ops D al st og nq t0 ds w0 m G l m F:=by
 cases l with
 | nil=>exact⟨rfl,h⟩
 | cons o l=>exact Or.inl ⟨rfl,h⟩
theorem Chain.step {m k:Nat} {G:(Nat->Value)->World->Prop} {o:Oper} {l:List Oper} {F:List Fact} (V:Fact) (hs:Stays st og k V) (hr:Runs P ops D al st og nq t0 ds w0 (fact F) k o V)
  (h:Chain P ops D al st og nq t0 ds w0 m G l (k+1) (V::F)):Chain P ops D al st og nq t0 ds w0 m G (o::l) k F:=Or.inr ⟨V,hs,hr,h⟩
def plain (al:List Nat) (st:List (Nat × Nat)) (k:Nat):Bool:=!al.contains k && (own st k).isNone
theorem Next.plain {V:Fact} {k:Nat} {x:Nat->Value} {w:World} {v:Value} {w':World} (hp:plain al st k=true) (h:V x v w') (hb:Below w.heap.size w w'):Next al st og V k x w v w':=by
 unfold Rely.plain at hp;simp only[Bool.and_eq_true,Bool.not_eq_true',Option.isNone_iff_eq_none] at hp;exact⟨h,fun _=>hb,fun i hi=>(by rw[hp.2] at hi;cases hi),fun e=>(by rw[hp.1] at e;cases e)⟩
theorem Chain.det {m k:Nat} {G:(Nat->Value)->World->Prop} {o:Oper} {l:List Oper} {F:List Fact} (f:(Nat->Value)->Value) (hp:plain al st k=true)
  (hr:∀ (T:Array Value) (x:Nat->Value) (w:World),At ops D st og nq t0 w0 (fact F) k T x w->Region.wanted o (yielded ops.toArray T)=true/\(execOp (Act.eval ⟨T,ds⟩) o).run P w=.ok (.value (f x)) w)
  (h:Chain P ops D al st og nq t0 ds w0 m G l (k+1) ((fun x v _=>v=f x)::F)):Chain P ops D al st og nq t0 ds w0 m G (o::l) k F:=by
 refine Chain.step (fun x v _=>v=f x) ⟨fun _ _ _ _ e _=>e,fun _ _ _ _ _ _ e _ _=>e⟩ (fun T x w hA K hK=>?_) h;obtain⟨hw,he⟩:=hr T x w hA;rw[if_pos hw];unfold Oper.wp;rw[he];exact hK.out _ _ (Next.plain hp rfl (Below.refl _ _))
theorem Chain.call {m k:Nat} {G:(Nat->Value)->World->Prop} {o:Oper} {l:List Oper} {F:List Fact} (V:Fact) (hs:∀ x v w w',V x v w->Below w.heap.size w w'->V x v w') (hs2:∀ x v w w' g,V x v w->Priv g w w'->V x v w') (hp:plain al st k=true)
  (hr:∀ (T:Array Value) (x:Nat->Value) (w:World),At ops D st og nq t0 w0 (fact F) k T x w->Region.wanted o (yielded ops.toArray T)=true /\
   ∀ K:Act->World->Prop,Hid (∀ v w',V x v w'->Below w.heap.size w w'->K ((⟨T,ds⟩:Act).put o.dst v) w')->o.wp P ⟨T,ds⟩ w K noQ)
  (h:Chain P ops D al st og nq t0 ds w0 m G l (k+1) (V::F)):Chain P ops D al st og nq t0 ds w0 m G (o::l) k F:=by
 refine Chain.step V ⟨hs,fun _ x v w w' g h _ hp=>hs2 x v w w' g h hp⟩ (fun T x w hA K hK=>?_) h;obtain⟨hw,he⟩:=hr T x w hA;rw[if_pos hw];exact he K fun v w' hv hb=>hK.out v w' (Next.plain hp hv hb)
theorem own_one {st:List (Nat × Nat)} {i k:Nat} (h:(st.all fun p=>p.2 != i || p.1==k)=true):∀ k',own st k'=some i->k'=k:=by
 intro k' hk;unfold own at hk;rw[List.all_eq_true] at h
 have:∀ (l:List (Nat × Nat)),(∀ p ∈ l,(p.2 != i || p.1==k)=true)->l.lookup k'=some i->k'=k:=by
  intro l
  induction l with
  | nil=>intro _ h;cases h
  | cons p l ih =>
   intro hp hl;obtain⟨a,b⟩:=p;rw[List.lookup_cons] at hl
   split at hl
   ·rename_i he
    injection hl with hl;have h1:=hp (a,b) (List.mem_cons_self ..);simp only[Bool.or_eq_true,bne_iff_ne,ne_eq,beq_iff_eq] at h1;rw[beq_iff_eq] at he;rcases h1 with h1 | h1
    ·exact absurd hl h1
    exact he.trans h1
   exact ih (fun p hp'=>hp p (List.mem_cons_of_mem _ hp')) hl
 exact this st h hk
theorem Chain.storeOld {m k:Nat} {G:(Nat->Value)->World->Prop} {o:Oper} {l:List Oper} {F:List Fact} (q j:Nat) (T:TypeId) (ho:own st k=some (1000+q)) (hal:al.contains k=false) (hq:q<nq)
  (hone:∀ k',own st k'=some (1000+q)->k'=k)
  (hr:∀ (Ts:Array Value) (x:Nat->Value) (w:World),At ops D st og nq t0 w0 (fact F) k Ts x w->w.heap[og q]?=w0.heap[og q]? -> Region.wanted o (yielded ops.toArray Ts)=true /\
   ∀ K:Act->World->Prop,Hid (∀ w' c',x j=.agg c'->w'.heap[og q]?=some (.cells c' T (0,0))->Priv (og q) w w'->K ((⟨Ts,ds⟩:Act).put o.dst undef) w')->o.wp P ⟨Ts,ds⟩ w K noQ)
  (h:Chain P ops D al st og nq t0 ds w0 m G l (k+1) ((fun x _ w=>∃ c,x j=.agg c/\w.heap[og q]?=some (.cells c T (0,0)))::F)):Chain P ops D al st og nq t0 ds w0 m G (o::l) k F:=by
 have htv:∀ x,tv og x (1000+q)=.pointer (some ⟨og q,0,none⟩):=fun x=>by unfold tv;rw[if_neg (by omega),Nat.add_sub_cancel_left]
 refine Chain.step _ ⟨fun x v w w' hv hb=>?_,fun _ x v w w' g' hv hne hp=>?_⟩ (fun Ts x w hA K hK=>?_) h
 ·obtain⟨c,h2,hg⟩:=hv;exact⟨c,h2,by rw[hb.block _ (Array.getElem?_eq_some_iff.1 hg).1];exact hg⟩
 ·obtain⟨c,h2,hg⟩:=hv;refine⟨c,h2,?_⟩;rw[hp.block _ (fun e=>hne _ ho (by rw[htv,e]))];exact hg
 obtain⟨hw,he⟩:=hr Ts x w hA (hA.od q hq fun k' hk'=>Or.inl (hone k' hk'));rw[if_pos hw];exact he K fun w' c' hj hB hP=>hK.out _ _ ⟨⟨c',hj,hB⟩,fun e=>(by rw[ho] at e;cases e),fun i' hi'=>(by rw[ho] at hi';injection hi' with e;subst e;exact⟨_,htv x,hP⟩),fun e=>(by rw[hal] at e;cases e)⟩
theorem wanted_at {o:Oper} {T:Array Value} {g d:Nat} {want b:Bool} (hg:o.guard=some (g,want)) (hd:dstOf ops g=some d) (hT:T[d]?=some (.bool b)):Region.wanted o (yielded ops.toArray T)=(b==want):=by
 have hy:yielded ops.toArray T g=some b:=by
  have hd':(ops.toArray[g]?).bind (·.dst)=some d:=by simpa [dstOf] using hd
  unfold yielded;rw[hd'];simp only[Option.bind_some,hT]
 unfold Region.wanted;rw[hg];simp only[hy]
 cases b<;>cases want<;>rfl
theorem fact_lt {V:Fact} {F:List Fact} {j:Nat} (h:j<F.length):fact (V::F) j=fact F j:=by
 unfold fact;rw[List.reverse_cons,List.getElem?_append_left (by simpa using h)]
theorem fact_len {V:Fact} {F:List Fact}:fact (V::F) F.length=V:=by
 unfold fact;rw[List.reverse_cons,List.getElem?_append_right (by simp)]
 simp
theorem At.congr {F F':Nat->Fact} {k:Nat} {T:Array Value} {x:Nat->Value} {w:World} (h:At ops D st og nq t0 w0 F k T x w) (e:∀ j,(dep D k).contains j=true->F j=F' j):At ops D st og nq t0 w0 F' k T x w:=
 ⟨h.be,h.bl,h.kp,h.od,h.tm,fun j hj=>by rw[<-e j hj];exact h.fa j hj,h.pre⟩
theorem Chain.all {m:Nat} {G:(Nat->Value)->World->Prop} (hlt:∀ k j,k<m->(dep D k).contains j=true->j<k):∀ (l:List Oper) (k:Nat) (F:List Fact),F.length=k->k<=m->(∀ j,l[j]?=ops[k+j]?) ->
  Chain P ops D al st og nq t0 ds w0 m G l k F->∃ H:Nat->Fact,(∀ j,j<k->H j=fact F j) /\
   (∀ j,k<=j->j<m->Stays st og j (H j)/\∃ o,ops[j]?=some o/\Runs P ops D al st og nq t0 ds w0 H j o (H j))/\∀ x w,Left D al og nq w0 H m x w->G x w:=by
 intro l
 induction l with
 | nil=>intro k F hF hk hl h;exact⟨fact F,fun _ _=>rfl,fun j h1 h2=>by have:=h.1;omega,h.2⟩
 | cons o l ih =>
  intro k F hF hk hl h;rcases h with ⟨rfl,h⟩ | ⟨V,hs,hr,h⟩
  ·exact⟨fact F,fun _ _=>rfl,fun j h1 h2=>by omega,h⟩
  by_cases hkm:k<m
  ·obtain⟨H,h1,h2,h3⟩:=ih (k+1) (V::F) (by simp[hF]) hkm (fun j=>by have:=hl (j+1);simp at this;rw[this,Nat.add_right_comm,Nat.add_assoc]) h;refine⟨H,fun j hj=>by rw[h1 j (by omega),fact_lt (by omega)],fun j hj hjm=>?_,h3⟩;rcases Nat.lt_or_ge k j with hkj | hkj
   ·exact h2 j hkj hjm
   obtain rfl:j=k:=by omega
   have hH:H j=V:=by rw[h1 j (by omega),<-hF,fact_len]
   refine⟨by rw[hH];exact hs,o,by have:=hl 0;simpa using this.symm,?_⟩;rw[hH];intro T x w hA;exact hr T x w (hA.congr (fun i hi=>by have:=hlt j i hkm hi;rw[h1 i (by omega),fact_lt (by omega)]))
  obtain rfl:k=m:=by omega
  have hl0:∀ (l:List Oper) (k':Nat) (F:List Fact),k<k'->¬ Chain P ops D al st og nq t0 ds w0 k G l k' F:=by
   intro l
   induction l with
   | nil=>intro k' F hk' h;have:=h.1;omega
   | cons o l ih=>intro k' F hk' h;rcases h with ⟨e,_⟩ | ⟨_,_,_,h⟩;(omega);exact ih _ _ (by omega) h
  exact absurd h (hl0 _ _ _ (by omega))
theorem Oper.wp_noQ {o:Oper} {a:Act} {w:World} {K:Act->World->Prop} {Q:Exit->Act->World->Prop} (h:o.wp P a w K noQ):o.wp P a w K Q:=by
 unfold Oper.wp at *;generalize (execOp a.eval o).run P w=r at *
 cases r with
 | ok n w' =>
  cases n<;>simp only[Oper.upon] at h ⊢ <;>
   first
    | exact h
    | exact Calls.mono h (fun e w'' he=>by
      cases e with
      | returned v=>exact he
      | panicked c=>exact False.elim he
      | outgrown=>obtain⟨_,_,hh⟩:=he;exact False.elim hh)
 | halt x w'=>cases x<;>simp only[Oper.upon] at h ⊢<;>exact False.elim h
structure Inv (H:Nat->Fact) (m:Nat) (listed:Array Bool) (a:Act) (w:World) (x:Nat->Value):Prop where
 tm:∀ j d,listed.getD j false=true->dstOf ops j=some d->a.tmps[d]?=some (x j)
 pre:∀ t,(∀ j,listed.getD j false=true->dstOf ops j≠some t)->a.tmps[t]?=t0[t]?
 sz:a.tmps.size=t0.size
 df:a.defers=ds
 be:∀ B,B<=w0.heap.size->(∀ q,q<nq->B<=og q)->Below B w0 w
 bl:∀ b,b<w0.heap.size->(∀ q,q<nq->og q≠b)->w.heap[b]?=w0.heap[b]?
 kp:Keeps w0 w
 od:∀ q,q<nq->(∀ k',listed.getD k' false=true->own st k'≠some (1000+q))->w.heap[og q]?=w0.heap[og q]?
 sw:w0.heap.size<=w.heap.size
 ls:listed.size=ops.length
 dn:∀ j,listed.getD j false=true->∀ i,(dep D j).contains i=true->listed.getD i false=true
 lt:∀ j,listed.getD j false=true->j<m
 fa:∀ j,listed.getD j false=true->H j (mask (dep D j) x) (x j) w
 pt:∀ i,al.contains i=true->listed.getD i false=true->∃ g,x i=.pointer (some ⟨g,0,none⟩)/\w0.heap.size<=g/\g<w.heap.size
 ne:∀ i j,al.contains i=true->al.contains j=true->listed.getD i false=true->listed.getD j false=true->i≠j->x i≠x j
section
variable {m size:Nat} (hok:ok ops D m size=true)
include hok
theorem ok_len:m<=ops.length:=by
 unfold ok at hok;simp only[Bool.and_eq_true,decide_eq_true_eq] at hok;exact hok.1
theorem ok_at {k:Nat} {o:Oper} (ho:ops[k]?=some o) :
  (∀ e ∈ o.after,Region.binds .any e=true->e.on<k) /\
  (∀ j,(dep D k).contains j=true->(∃ e ∈ o.after,Region.binds .any e=true/\(e.on=j\/(dep D e.on).contains j=true))/\(∀ i,(dep D j).contains i=true->(dep D k).contains i=true)/\j<k) /\
  (k<m\/∀ j,j<m->(dep D k).contains j=true) /\
  (∀ d,o.dst=some d->d<size/\∀ j,j<k->dstOf ops j≠some d):=by
 unfold ok at hok;simp only[Bool.and_eq_true,decide_eq_true_eq,List.all_eq_true,List.mem_range] at hok;have h:=hok.2 k (List.getElem?_eq_some_iff.1 ho).1;rw[ho] at h;simp only[Bool.and_eq_true,Bool.or_eq_true,Bool.not_eq_true',decide_eq_true_eq,List.all_eq_true,List.mem_range,Array.all_eq_true_iff_forall_mem] at h;obtain⟨⟨⟨h1,h2⟩,h3⟩,h4⟩:=h;refine⟨fun e he hb=>(h1 e he).resolve_left (by rw[hb];exact Bool.noConfusion),fun j hj=>?_,h3,fun d hd=>?_⟩
 ·obtain⟨⟨h5,h6⟩,h7⟩:=h2 j (by simpa using hj);obtain⟨e,he,hb⟩:=Array.any_eq_true'.1 h5;simp only[Bool.and_eq_true,Bool.or_eq_true,beq_iff_eq] at hb;exact⟨⟨e,he,hb.1,hb.2⟩,fun i hi=>h6 i (by simpa using hi),h7⟩
 rw[hd] at h4;simp only[Bool.and_eq_true,decide_eq_true_eq,List.all_eq_true,List.mem_range,bne_iff_ne,ne_eq] at h4;exact h4
theorem ok_lt {k j:Nat} (h:(dep D k).contains j=true) (hk:k<ops.length):j<k:=((ok_at hok (List.getElem?_eq_getElem hk)).2.1 j h).2.2
end
theorem okSt_at (h:okSt ops D al st nq=true) {k:Nat} (hk:k<ops.length):∀ i,own st k=some i->(i<1000->(dep D k).contains i=true/\al.contains i=true)/\(¬ i<1000->i - 1000<nq)/\∀ j,j<ops.length->j≠k->own st j≠some i:=by
 intro i hi;unfold okSt at h;rw[List.all_eq_true] at h;have h1:=h k (List.mem_range.2 hk);unfold own at hi;rw[hi] at h1;simp only[Bool.and_eq_true,List.all_eq_true,List.mem_range,Bool.or_eq_true,beq_iff_eq,bne_iff_ne,ne_eq] at h1;refine⟨fun h2=>?_,fun h2=>?_,fun j hj hjk=>(h1.2 j hj).resolve_left hjk⟩
 ·have h3:=h1.1;rw[if_pos h2] at h3
  simpa using h3
 have h3:=h1.1;rw[if_neg h2] at h3
 simpa using h3
theorem tv_mask {L:List Nat} {x:Nat->Value} {i:Nat} (h:i<1000->L.contains i=true):tv og (mask L x) i=tv og x i:=by
 unfold tv
 split
 ·rename_i hi;exact mask_in (h hi)
 rfl
theorem getD_set {l:Array Bool} {i j:Nat} (h:i<l.size):(l.setIfInBounds i true).getD j false=(decide (j=i) || l.getD j false):=by
 by_cases e:i=j
 ·subst e;simp[h]
 rw[getD_set_ne false e]
 simp[show ¬ j=i from fun x=>e x.symm]
theorem count_false {l:List Bool} {i:Nat} (h:l[i]?=some false):(l.set i true).count false+1=l.count false:=by
 obtain⟨hi,hv⟩:=List.getElem?_eq_some_iff.1 h;rw[List.count_set hi,hv];have:0<l.count false:=List.count_pos_iff.2 (hv ▸ List.getElem_mem hi)
 simp
 omega
section
variable {m:Nat} {Q:Exit->Act->World->Prop} {H:Nat->Fact}
theorem Inv.step (hok:ok ops D m t0.size=true) (hoks:okSt ops D al st nq=true) (hog:∀ q,q<nq->og q<w0.heap.size) (hod:∀ q q',q<nq->q'<nq->q≠q'->og q≠og q') (hst:∀ j,j<m->Stays st og j (H j)) {listed:Array Bool} {a:Act} {w:World} {x:Nat->Value} (I:Inv (ops:=ops) (D:=D) (al:=al) (st:=st) (og:=og) (nq:=nq) (t0:=t0) (ds:=ds) (w0:=w0) H m listed a w x)
  {k:Nat} {o:Oper} (ho:ops[k]?=some o) (hkm:k<m) (hun:listed.getD k false=false) (hdep:∀ j,(dep D k).contains j=true->listed.getD j false=true) {v:Value} {w':World}
  (hN:Next al st og (H k) k (mask (dep D k) x) w v w'):Inv (ops:=ops) (D:=D) (al:=al) (st:=st) (og:=og) (nq:=nq) (t0:=t0) (ds:=ds) (w0:=w0) H m (listed.setIfInBounds k true) (a.put o.dst v) w' (upd x k v):=by
 have hkl:k<ops.length:=(List.getElem?_eq_some_iff.1 ho).1;have hks:k<listed.size:=by rw[I.ls];exact hkl
 obtain⟨c1,c2,c3,c4⟩:=ok_at hok ho;have hdk:dstOf ops k=o.dst:=by simp[dstOf,ho]
 have hsp:=okSt_at hoks hkl
 -- where operation k stores
 have hpv:∀ i,own st k=some i->∃ g,tv og x i=.pointer (some ⟨g,0,none⟩)/\Priv g w w'/\((i<1000/\w0.heap.size<=g)\/(¬ i<1000/\i - 1000<nq/\g=og (i - 1000))):=by
  intro i ho';obtain⟨g,hg,hp⟩:=hN.pv i ho';obtain⟨h1,h2,h3⟩:=hsp i ho';rw[tv_mask (fun h=>(h1 h).1)] at hg;refine⟨g,hg,hp,?_⟩
  by_cases hi:i<1000
  ·obtain⟨g',e,h4,h5⟩:=I.pt i (h1 hi).2 (hdep i (h1 hi).1);unfold tv at hg;rw[if_pos hi] at hg;rw[hg] at e;injection e with e;injection e with e;injection e with e;subst e;exact Or.inl ⟨hi,h4⟩
  unfold tv at hg;rw[if_neg hi] at hg;injection hg with e;injection e with e;injection e with e;exact Or.inr ⟨hi,h2 hi,e.symm⟩
 have hsw:w.heap.size<=w'.heap.size:=by
  cases ho':own st k with
  | none=>exact (hN.bw ho').size
  | some i=>obtain⟨g,hg,hp,_⟩:=hpv i ho';rw[hp.size];exact Nat.le_refl _
 have hbe:∀ B,B<=w0.heap.size->(∀ q,q<nq->B<=og q)->Below B w0 w':=fun B hB hq=>by
  refine (I.be B hB hq).trans ?_
  cases ho':own st k with
  | none=>exact (hN.bw ho').mono (by have:=I.sw;omega)
  | some i =>
   obtain⟨g,hg,hp,hc⟩:=hpv i ho';refine⟨hp.os,hp.tape,hp.output,hsw,fun q hqB=>hp.block q ?_⟩;rcases hc with ⟨_,hc⟩ | ⟨_,h1,hc⟩
   ·omega
   have:=hq _ h1;omega
 have hbl:∀ b,b<w0.heap.size->(∀ q,q<nq->og q≠b)->w'.heap[b]?=w0.heap[b]?:=fun b hb hq=>by
  rw[<-I.bl b hb hq]
  cases ho':own st k with
  | none=>exact (hN.bw ho').block b (by have:=I.sw;omega)
  | some i =>
   obtain⟨g,hg,hp,hc⟩:=hpv i ho';refine hp.block b ?_;rcases hc with ⟨_,hc⟩ | ⟨_,h1,hc⟩
   ·omega
   rw[hc];exact fun e=>hq _ h1 e.symm
 have hkp:Keeps w0 w':=by
  refine I.kp.trans ?_
  cases ho':own st k with
  | none=>exact Below.keeps (hN.bw ho')
  | some i=>obtain⟨g,hg,hp,_⟩:=hpv i ho';exact hp.keeps
 have hne:∀ j,listed.getD j false=true->j≠k:=fun j hj e=>by subst e;rw[hun] at hj;cases hj
 have hset:∀ j,(listed.setIfInBounds k true).getD j false=true->j=k\/listed.getD j false=true:=fun j hj=>by
  rw[getD_set hks] at hj;simpa using hj
 have hput:(a.put o.dst v).tmps=match o.dst with | some d=>a.tmps.setIfInBounds d v | none=>a.tmps:=by cases o.dst<;>rfl
 have hself:(dep D k).contains k=false:=by
  cases h:(dep D k).contains k with
  | false=>rfl
  | true=>have:=(c2 k h).2.2;omega
 -- two operations write two slots
 have hds:∀ j d,dstOf ops j=some d->o.dst=some d->j=k:=fun j d h1 h2=>by
  rcases Nat.lt_trichotomy j k with h | h | h
  ·exact absurd h1 ((c4 d h2).2 j h)
  ·exact h
  cases hoj:ops[j]? with
  | none=>simp[dstOf,hoj] at h1
  | some oj=>exact absurd (hdk.trans h2) (((ok_at hok hoj).2.2.2 d (by simpa [dstOf,hoj] using h1)).2 k h)
 refine⟨fun j d hj hd=>?_,fun t ht=>?_,?_,?_,hbe,hbl,hkp,fun q hq hl=>?_,Nat.le_trans I.sw hsw,by simpa using I.ls,fun j hj i hi=>?_,fun j hj=>?_,fun j hj=>?_,fun i hi hl=>?_,fun i j hi hj hli hlj hij=>?_⟩
 ·rw[hput];rcases hset j hj with rfl | hj'
  ·rw[hdk] at hd;rw[hd,upd_same];have:=(c4 d hd).1;rw[<-I.sz] at this
   simp[this]
  rw[upd_ne _ _ (hne j hj')]
  cases hod:o.dst with
  | none=>exact I.tm j d hj' hd
  | some e =>
   by_cases hde:e=d
   ·subst hde;exact absurd (hds j e hd hod) (hne j hj')
   simp only[];rw[Array.getElem?_setIfInBounds_ne hde];exact I.tm j d hj' hd
 ·rw[hput];have h1:a.tmps[t]?=t0[t]?:=I.pre t fun j hj=>ht j (by rw[getD_set hks];simp only[hj,Bool.or_true])
  cases hod:o.dst with
  | none=>exact h1
  | some e =>
   have:=ht k (by rw[getD_set hks];simp);rw[hdk,hod] at this;simp only[];rw[Array.getElem?_setIfInBounds_ne (fun h=>this (by rw[h]))];exact h1
 ·rw[hput,<-I.sz];cases o.dst<;>simp
 ·rw[<-I.df];cases o.dst<;>rfl
 ·rw[<-I.od q hq fun k' hk'=>hl k' (by rw[getD_set hks];simp only[hk',Bool.or_true])];have hlt:=hog q hq
  cases ho':own st k with
  | none=>exact (hN.bw ho').block _ (by have:=I.sw;omega)
  | some i =>
   obtain⟨g,hg,hp,hc⟩:=hpv i ho';refine hp.block _ ?_;rcases hc with ⟨_,hc⟩ | ⟨hi,h1,hc⟩
   ·omega
   rw[hc];refine hod q _ hq h1 (fun e=>hl k (by rw[getD_set hks];simp) ?_);rw[ho',e];congr 1;omega
 ·rw[getD_set hks];rcases hset j hj with rfl | hj'
  ·simp only[hdep i hi,Bool.or_true]
  simp only[I.dn j hj' i hi,Bool.or_true]
 ·rcases hset j hj with rfl | hj'
  ·exact hkm
  exact I.lt j hj'
 ·rcases hset j hj with rfl | hj'
  ·rw[mask_upd _ hself,upd_same];exact hN.is
  rw[upd_ne _ _ (hne j hj'),mask_upd]
  ·cases ho':own st k with
   | none=>exact (hst j (I.lt j hj')).1 _ _ _ _ (I.fa j hj') (hN.bw ho')
   | some i =>
    obtain⟨g,hg,hp,hc⟩:=hpv i ho';obtain⟨h1,h2,h3⟩:=hsp i ho';refine (hst j (I.lt j hj')).2 (fun e=>by subst e;cases ho') _ _ _ _ g (I.fa j hj') (fun i' hi'=>?_) hp;have hjl:j<ops.length:=by have:=I.lt j hj';have:=ok_len hok;omega
    obtain⟨h4,h5,h6⟩:=okSt_at hoks hjl i' hi';have hii:i'≠i:=fun e=>by subst e;exact h3 j hjl (hne j hj') hi'
    rw[tv_mask (fun h=>(h4 h).1)]
    by_cases hi1:i'<1000
    ·obtain⟨g',e',q1,q2⟩:=I.pt i' (h4 hi1).2 (I.dn j hj' i' (h4 hi1).1);have ht:tv og x i'=x i':=if_pos hi1;rw[ht];rcases hc with ⟨hi2,hc⟩ | ⟨hi2,hq2,hc⟩
     ·have ht2:tv og x i=x i:=if_pos hi2;rw[ht2] at hg;exact fun e=>I.ne i' i (h4 hi1).2 (h1 hi2).2 (I.dn j hj' i' (h4 hi1).1) (hdep i (h1 hi2).1) hii (e.trans hg.symm)
     intro e;rw[e'] at e;injection e with e;injection e with e;injection e with e;have:=hog _ hq2;omega
    have ht:tv og x i'=.pointer (some ⟨og (i' - 1000),0,none⟩):=if_neg hi1;rw[ht];intro e;injection e with e;injection e with e;injection e with e;have hl':=hog _ (h5 hi1);rcases hc with ⟨hi2,hc⟩ | ⟨hi2,hq2,hc⟩
    ·omega
    exact hod _ _ (h5 hi1) hq2 (by omega) (e.trans hc)
  cases h:(dep D j).contains k with
  | false=>rfl
  | true=>have:=I.dn j hj' k h;rw[hun] at this;cases this
 ·rcases hset i hl with rfl | hl'
  ·obtain⟨g,h1,h2,h3⟩:=hN.al hi;exact⟨g,by rw[upd_same];exact h1,by have:=I.sw;omega,h3⟩
  obtain⟨g,h1,h2,h3⟩:=I.pt i hi hl';exact⟨g,by rw[upd_ne _ _ (hne i hl')];exact h1,h2,by omega⟩
 rcases hset i hli with rfl | hli'<;>rcases hset j hlj with rfl | hlj'
 ·exact absurd rfl hij
 ·obtain⟨g,h1,h2,h3⟩:=hN.al hi;obtain⟨g',h1',h2',h3'⟩:=I.pt j hj hlj';rw[upd_same,upd_ne _ _ (hne j hlj'),h1,h1'];intro e;injection e with e;injection e with e;injection e with e;omega
 ·obtain⟨g,h1,h2,h3⟩:=hN.al hj;obtain⟨g',h1',h2',h3'⟩:=I.pt i hi hli';rw[upd_same,upd_ne _ _ (hne i hli'),h1,h1'];intro e;injection e with e;injection e with e;injection e with e;omega
 rw[upd_ne _ _ (hne i hli'),upd_ne _ _ (hne j hlj')];exact I.ne i j hi hj hli' hlj' hij
def Rest (P:Program) (ops:List Oper) (Q:Exit->Act->World->Prop) (t0:Array Value) (ds:List Deferred) (m:Nat) (x:Nat->Value) (w:World):Prop:=
 wpAny P .any ops.toArray Q (ops.length - m) (List.replicate m true++List.replicate (ops.length - m) false).toArray ⟨fill (ops.take m) x 0 t0,ds⟩ w
theorem dstOf_take {m j:Nat} (h:j<m):dstOf (ops.take m) j=dstOf ops j:=by
 unfold dstOf;rw[List.getElem?_take_of_lt h]
theorem dstOf_take_ge {m j:Nat} (h:m<=j):dstOf (ops.take m) j=none:=by
 unfold dstOf;rw[List.getElem?_eq_none (by simp;omega)];rfl
theorem finish (hml:m<=ops.length) {listed:Array Bool} {a:Act} {w:World} {x:Nat->Value}
  (I:Inv (ops:=ops) (D:=D) (al:=al) (st:=st) (og:=og) (nq:=nq) (t0:=t0) (ds:=ds) (w0:=w0) H m listed a w x) (hall:∀ j,j<m->listed.getD j false=true)
  (hG:∀ x w,Left D al og nq w0 H m x w->Rest P ops Q t0 ds m x w):wpAny P .any ops.toArray Q (listed.toList.count false) listed a w:=by
 have h:=hG x w ⟨⟨I.be,I.bl,I.kp⟩,fun j hj=>I.fa j (hall j hj),fun i hi him=>I.pt i hi (hall i him),fun i j hi hj him hjm hij=>I.ne i j hi hj (hall i him) (hall j hjm) hij⟩
 have hl:listed=(List.replicate m true++List.replicate (ops.length - m) false).toArray:=by
  apply Array.ext
  ·rw[I.ls];simp;omega
  intro i h1 h2;rw[I.ls] at h1
  by_cases hi:i<m
  ·have:=hall i hi;rw[Array.getD_eq_getD_getElem?,Array.getElem?_eq_getElem (by rw[I.ls];exact h1)] at this;simp only[Option.getD_some] at this;rw[this]
   simp[List.getElem_append_left,hi]
  have h3:listed.getD i false=false:=by
   cases h:listed.getD i false with
   | false=>rfl
   | true=>exact absurd (I.lt i h) hi
  rw[Array.getD_eq_getD_getElem?,Array.getElem?_eq_getElem (by rw[I.ls];exact h1)] at h3;simp only[Option.getD_some] at h3;rw[h3]
  simp[List.getElem_append,hi]
 have ha:a=⟨fill (ops.take m) x 0 t0,ds⟩:=by
  have e:fill (ops.take m) x 0 t0=a.tmps:=by
   refine fill_eq _ x 0 t0 a.tmps I.sz (fun j d hd=>?_) (fun t ht=>?_)
   ·rcases Nat.lt_or_ge j m with hj | hj
    ·rw[dstOf_take hj] at hd;rw[Nat.zero_add];exact I.tm j d (hall j hj) hd
    rw[dstOf_take_ge hj] at hd;cases hd
   refine I.pre t fun j hj=>?_
   have:=ht j
   rwa [dstOf_take (I.lt j hj)] at this
  rw[e,<-I.df]
 have hc:listed.toList.count false=ops.length - m:=by rw[hl];simp[List.count_replicate]
 rw[hc,hl,ha];exact h
theorem main (hok:ok ops D m t0.size=true) (hoks:okSt ops D al st nq=true) (hog:∀ q,q<nq->og q<w0.heap.size) (hod:∀ q q',q<nq->q'<nq->q≠q'->og q≠og q') (hst:∀ j,j<m->Stays st og j (H j)) (hrun:∀ j,j<m->∃ o,ops[j]?=some o/\Runs P ops D al st og nq t0 ds w0 H j o (H j))
  (hG:∀ x w,Left D al og nq w0 H m x w->Rest P ops Q t0 ds m x w) :
  ∀ (fuel:Nat) (listed:Array Bool) (a:Act) (w:World) (x:Nat->Value),listed.toList.count false=fuel->Inv (ops:=ops) (D:=D) (al:=al) (st:=st) (og:=og) (nq:=nq) (t0:=t0) (ds:=ds) (w0:=w0) H m listed a w x->wpAny P .any ops.toArray Q fuel listed a w:=by
 have hml:=ok_len hok;intro fuel
 induction fuel with
 | zero =>
  intro listed a w x hc I;rw[<-hc];refine finish hml I (fun j hj=>?_) hG;rw[Array.getD_eq_getD_getElem?,Array.getElem?_eq_getElem (by rw[I.ls];omega)];simp only[Option.getD_some];have h0:=List.count_eq_zero.1 hc
  cases h:listed[j]'(by rw[I.ls];omega) with
  | true=>rfl
  | false=>exact absurd (by rw[<-h];simp) h0
 | succ fuel ih =>
  intro listed a w x hc I
  by_cases hall:∀ j,j<m->listed.getD j false=true
  ·rw[<-hc];exact finish hml I hall hG
  -- what may come up is one of the first m
  have hready:∀ i,i ∈ Region.ready .any ops.toArray listed->listed.getD i false=false/\∃ o,ops[i]?=some o/\(∀ j,(dep D i).contains j=true->listed.getD j false=true)/\i<m:=by
   intro i hi;obtain⟨h1,o,ho,h2⟩:=mem_ready.1 hi;have ho':ops[i]?=some o:=by simpa using ho
   have hlt:i<ops.length:=(List.getElem?_eq_some_iff.1 ho').1;obtain⟨c1,c2,c3,c4⟩:=ok_at hok ho'
   have hd:∀ j,(dep D i).contains j=true->listed.getD j false=true:=fun j hj=>by
    obtain⟨⟨e,he,hb,h3⟩,_⟩:=c2 j hj;rcases h3 with rfl | h3
    ·exact h2 e he hb
    exact I.dn _ (h2 e he hb) j h3
   refine⟨?_,o,ho',hd,c3.resolve_right fun h=>hall fun j hj=>hd j (h j hj)⟩;rw[Array.getD_eq_getD_getElem?,Array.getElem?_eq_getElem (by rw[I.ls];exact hlt)] at h1 ⊢;exact h1
  refine⟨fun hr=>?_,fun i hi=>?_⟩
  ·-- the least that has not come up may come up
   exfalso
   have hex:∃ j,listed.getD j false=false/\j<m:=by
    refine Classical.byContradiction fun h=>hall fun j hj=>?_
    cases h2:listed.getD j false with
    | true=>rfl
    | false=>exact absurd ⟨j,h2,hj⟩ h
   have hmin:∃ j,(listed.getD j false=false/\j<m)/\∀ i,i<j->listed.getD i false=true:=by
    obtain⟨j,h1,h2⟩:=hex
    induction j using Nat.strongRecOn with
    | ind j ihj =>
     by_cases hlow:∃ i,i<j/\listed.getD i false=false
     ·obtain⟨i,h3,h4⟩:=hlow;exact ihj i h3 h4 (by omega)
     refine⟨j,⟨h1,h2⟩,fun i hi=>?_⟩
     cases h5:listed.getD i false with
     | true=>rfl
     | false=>exact absurd ⟨i,hi,h5⟩ hlow
   obtain⟨j,⟨h1,h2⟩,h3⟩:=hmin;have hjo:ops[j]?=some (ops[j]'(by omega)):=List.getElem?_eq_getElem (by omega)
   have:j ∈ Region.ready .any ops.toArray listed:=mem_ready.2 ⟨by
    rw[Array.getD_eq_getD_getElem?,Array.getElem?_eq_getElem (by rw[I.ls];omega)] at h1 ⊢
    exact h1,_,by rw[gsa];exact hjo,fun e he hb=>h3 _ ((ok_at hok hjo).1 e he hb)⟩
   rw[hr] at this;cases this
  obtain⟨hun,o,ho,hd,him⟩:=hready i hi;obtain⟨o',ho',hR⟩:=hrun i him;obtain rfl:o=o':=by rw[ho] at ho';exact Option.some.inj ho'
  have hil:i<ops.length:=(List.getElem?_eq_some_iff.1 ho).1
  have hA:At ops D st og nq t0 w0 H i a.tmps (mask (dep D i) x) w:=by
   obtain⟨c1,c2,c3,c4⟩:=ok_at hok ho;refine⟨I.be,I.bl,I.kp,fun q hq hk'=>I.od q hq fun k' hlk hok'=>?_,fun j d hj hd'=>?_,fun j hj=>?_,fun t ht=>I.pre t fun j hj hjt=>?_⟩
   ·rcases hk' k' hok' with e | e
    ·subst e;rw[hun] at hlk;cases hlk
    have:=I.dn k' hlk i e;rw[hun] at this;cases this
   ·rw[mask_in hj];exact I.tm j d (hd j hj) hd'
   ·have e:mask (dep D j) (mask (dep D i) x)=mask (dep D j) x:=by
     funext q
     unfold mask
     by_cases hq:(dep D j).contains q=true
     ·rw[if_pos hq,if_pos hq,if_pos ((c2 j hj).2.1 q hq)]
     rw[if_neg hq,if_neg hq]
    rw[e,mask_in hj];exact I.fa j (hd j hj)
   have hjl:j<ops.length:=by have:=I.lt j hj;omega
   unfold Rely.pre at ht;rw[List.all_eq_true] at ht;have h1:=ht j (List.mem_range.2 hjl);simp only[Bool.or_eq_true,bne_iff_ne,ne_eq,beq_iff_eq] at h1;rcases h1 with (h1 | h1) | h1
   ·exact h1 hjt
   ·subst h1;rw[hun] at hj;cases hj
   have:=I.dn j hj i h1;rw[hun] at this;cases this
  have hrun1:=hR a.tmps (mask (dep D i) x) w hA (fun a' w'=>∃ v,a'=(a.put o.dst v)/\Next al st og (H i) i (mask (dep D i) x) w v w') (fun v w' hN=>⟨v,by rw[<-I.df],hN⟩);have hil':i<listed.size:=by rw[I.ls];exact hil
  have hcount:(listed.setIfInBounds i true).toList.count false=fuel:=by
   have h1:listed.toList[i]?=some false:=by
    rw[Array.getD_eq_getD_getElem?,Array.getElem?_eq_getElem (by rw[I.ls];exact hil)] at hun;rw[List.getElem?_eq_getElem (by simpa using hil')]
    simpa using hun
   have:=count_false h1;rw[hc] at this;rw[Array.toList_setIfInBounds]
   omega
  have hgo:∀ a' w',(∃ v,a'=(a.put o.dst v)/\Next al st og (H i) i (mask (dep D i) x) w v w')->wpAny P .any ops.toArray Q fuel (listed.setIfInBounds i true) a' w':=by
   rintro a' w' ⟨v,rfl,hN⟩;exact ih _ _ _ _ hcount (I.step hok hoks hog hod hst ho him hun hd hN)
  unfold wpOp;rw[show ops.toArray[i]?=some o by simpa using ho];simp only[];have hae:(⟨a.tmps,ds⟩:Act)=a:=by rw[<-I.df]
  rw[hae] at hrun1
  split
  ·rename_i hw
   rw[if_pos hw] at hrun1;exact Or.inl (Oper.wp_noQ (Go.Oper.wp_mono hgo hrun1))
  rename_i hw
  rw[if_neg hw] at hrun1;exact hgo _ _ hrun1
theorem region {id:Nat} {w:World} (hm:P.follows .mixedOrders=true) (D:List (List Nat)) (al:List Nat) (st:List (Nat × Nat)) (og:Nat->Nat) (nq:Nat) (m:Nat) (hok:ok ops D m t0.size=true) (hoks:okSt ops D al st nq=true) (hog:∀ q,q<nq->og q<w.heap.size) (hod:∀ q q',q<nq->q'<nq->q≠q'->og q≠og q')
  (h:Chain P ops D al st og nq t0 ds w.drew m (Rest P ops Q t0 ds m) ops 0 []):(Code.region id ops.toArray true).wp P Q ⟨t0,ds⟩ w:=by
 refine wp_region_any hm ?_;have hml:=ok_len hok;obtain⟨H,_,h2,h3⟩:=Chain.all (fun k j hk hj=>ok_lt hok hj (by omega)) ops 0 [] rfl (Nat.zero_le _) (fun j=>by rw[Nat.zero_add]) h;have hc:(Array.replicate ops.toArray.size false).toList.count false=ops.toArray.size:=by simp
 refine main (w0:=w.drew) hok hoks hog hod (fun j hj=>(h2 j (Nat.zero_le _) hj).1) (fun j hj=>(h2 j (Nat.zero_le _) hj).2) h3 _ _ _ _ (fun _=>undef) hc ?_
 have hno:∀ j,(Array.replicate ops.toArray.size false).getD j false=true->False:=fun j hj=>by
  rw[Array.getD_eq_getD_getElem?] at hj
  by_cases h:j<ops.length<;>simp[h] at hj
 exact⟨fun j _ hj=>(hno j hj).elim,fun _ _=>rfl,rfl,rfl,fun B _ _=>Below.refl _ _,fun _ _ _=>rfl,Keeps.refl _,fun _ _ _=>rfl,Nat.le_refl _,by simp,fun j hj=>(hno j hj).elim,fun j hj=>(hno j hj).elim,fun j hj=>(hno j hj).elim,fun j _ hj=>(hno j hj).elim,fun i j _ _ hj=>(hno i hj).elim⟩
theorem rest_done {x:Nat->Value} {w:World} (h:Q .normal ⟨fill ops x 0 t0,ds⟩ w):Rest P ops Q t0 ds ops.length x w:=by
 unfold Rest;rw[Nat.sub_self,List.take_length];refine⟨?_,h⟩;simp only[List.replicate_zero,List.append_nil];refine List.eq_nil_iff_forall_not_mem.2 (fun i hi=>?_);obtain⟨h1,o,ho,_⟩:=mem_ready.1 hi;have hlt:i<ops.length:=by have:=(Array.getElem?_eq_some_iff.1 ho).1;simpa using this
 simp[Array.getD_eq_getD_getElem?,hlt] at h1
end
end
end Rely
def clampN (z:Int):Nat:=(min (max z 0) 4096).toNat
theorem clampN_le (z:Int):clampN z<=4096:=by unfold clampN;omega
theorem shift_any (z:Int) (w:World) :
  Calls Tryz.prog 144 #[.int .i64 z] w fun e w'=>e=.returned (.tuple #[.int .i64 ((clampN z / 32:Nat):Int),.int .i64 ((clampN z % 32:Nat):Int)])/\w=w':=by
 have e1:((clampN z / 32:Nat):Int)=min (max z 0) 4096 / 32:=by unfold clampN;omega
 have e2:((clampN z % 32:Nat):Int)=min (max z 0) 4096 % 32:=by unfold clampN;omega
 rw[e1,e2];clear e1 e2;go_enter Tryz.func144,Tryz.ntmps144
 go_wp2
 go_ret2
 exact⟨rfl,rfl⟩
theorem shl_lt {x r:Nat} (hx:x<4294967296) (hr:r<32):x*2 ^ r<18446744073709551616/\x*2 ^ r / 4294967296<2 ^ r/\x*2 ^ r % 4294967296 % 2 ^ r=0:=by
 have hp:0<2 ^ r:=Nat.pow_pos (by decide);have h32:2 ^ r*2 ^ (32 - r)=4294967296:=by rw[<-Nat.pow_add,show r+(32 - r)=32 by omega]
 refine⟨?_,?_,?_⟩
 ·have h1:2 ^ r<=2 ^ 31:=Nat.pow_le_pow_right (by decide) (by omega);have:=Nat.mul_lt_mul_of_lt_of_le hx h1 (by decide)
  omega
 ·apply Nat.div_lt_of_lt_mul
  rw[Nat.mul_comm x];exact Nat.mul_comm 4294967296 (2 ^ r) ▸ (Nat.mul_lt_mul_left hp).2 hx
 rw[<-h32,Nat.mod_mod_of_dvd _ (Nat.dvd_mul_right _ _)];exact Nat.mul_mod_left _ _
theorem shl_low {P:List Nat} {x r j:Nat} (hr:r<32) (hT:P.getD j 0<2 ^ r):P.getD j 0+x*2 ^ r % L32<L32:=by
 have h32:2 ^ r*2 ^ (32 - r)=4294967296:=by rw[<-Nat.pow_add,show r+(32 - r)=32 by omega]
 have h1:x*2 ^ r % 4294967296=2 ^ r*(x % 2 ^ (32 - r)):=by rw[<-h32,Nat.mul_comm x,Nat.mul_mod_mul_left]
 have h2:x % 2 ^ (32 - r)<2 ^ (32 - r):=Nat.mod_lt _ (Nat.pow_pos (by decide));have h3:2 ^ r*(x % 2 ^ (32 - r)+1)<=2 ^ r*2 ^ (32 - r):=Nat.mul_le_mul_left _ h2;rw[Nat.mul_add,Nat.mul_one] at h3
 show P.getD j 0+x*2 ^ r % 4294967296<4294967296
 omega
theorem shl_ints {P X:List Nat} {i j r:Nat} (hx:X.getD i 0<L32) (hr:r<32) (hT:P.getD j 0<2 ^ r) :
  bits BinOp.or IntKind.u32 (nth P j) (IntKind.u64.wrap (nth X i*2 ^ r) % 4294967296)=((P.getD j 0+X.getD i 0*2 ^ r % L32:Nat):Int) /\
  IntKind.u64.wrap (nth X i*2 ^ r) / 4294967296 % 4294967296=((X.getD i 0*2 ^ r / L32:Nat):Int):=by
 obtain⟨q1,q2,q3⟩:=shl_lt hx hr;have hp:2 ^ r<=2 ^ 31:=Nat.pow_le_pow_right (by decide) (by omega);have e0:nth X i*2 ^ r=((X.getD i 0*2 ^ r:Nat):Int):=by unfold nth;simp
 have e1:IntKind.u64.wrap (nth X i*2 ^ r)=((X.getD i 0*2 ^ r:Nat):Int):=by rw[e0,IntWalk.u64_in _ (by omega)]
 rw[e1];generalize hw:X.getD i 0*2 ^ r=wide at *;refine⟨?_,?_⟩
 ·have e2:((wide:Nat):Int) % 4294967296=((wide % 4294967296:Nat):Int):=by omega
  rw[e2]
  show bits BinOp.or IntKind.u32 ((P.getD j 0:Nat):Int) _=_
  rw[u32_or_nat _ _ (by omega) (by omega),Nat.or_comm,nat_join r _ _ q3 hT,Nat.add_comm]
 show _=((wide / 4294967296:Nat):Int)
 omega
theorem shl_step {P xs:List Nat} {i m r wide:Nat} (hi:i+m+1<P.length) (hv:val L32 P=val L32 (xs.take i)*(2 ^ r*L32 ^ m)) (hw:wide=xs.getD i 0*2 ^ r) (h0:P.getD (i+m+1) 0=0) :
  val L32 ((P.set (i+m) (P.getD (i+m) 0+wide % L32)).set (i+m+1) (wide / L32))=val L32 (xs.take (i+1))*(2 ^ r*L32 ^ m):=by
 have h1:=val_add_at L32 P (i+m) (wide % L32) (by omega);have h2:=val_set L32 (P.set (i+m) (P.getD (i+m) 0+wide % L32)) (i+m+1) (wide / L32) (by rw[List.length_set];omega);rw[getD_set,if_neg (by omega),h0,h1,hv,Nat.pow_succ,Nat.zero_mul,Nat.add_zero] at h2;rw[h2,val_take_succ',Nat.add_mul];have h3:=Nat.mod_add_div wide L32;generalize wide % L32=lo at *;generalize wide / L32=hi' at *;rw[Nat.pow_add];generalize L32 ^ i=pi at *;generalize L32 ^ m=pm at *;generalize 2 ^ r=pr at *;subst hw;have h4:(lo+L32*hi')*(pi*pm)=xs.getD i 0*pr*(pi*pm):=by rw[h3]
 grind
theorem getD_zeros (n t:Nat):(List.replicate n 0).getD t 0=0:=by
 by_cases h:t<n
 ·simp[List.getD,h]
 simp[List.getD,Nat.le_of_not_lt h]
set_option maxRecDepth 100000 in
theorem shl_any (va:Value) (xs:List Nat) (z:Int) (w:World) (hx:Sl w .u32 va xs) (dx:Dig L32 xs) (lx:xs.length<=1000000) :
  Calls Tryz.prog 132 #[va,.int .i64 z] w fun e w'=>∃ v,e=.returned v/\Sl w' .u32 v (dig L32 (val L32 xs*2 ^ clampN z))/\Below w.heap.size w w':=by
 obtain⟨i0,hi,hz0,hz1,hz2⟩:=info_parts info51;obtain⟨ao,ac,rfl⟩:=sl_shape hx;have nx:=nz_le xs;have hx':=hx.take (nz xs) nx;have dx':=dx.take (nz xs);have VX:=val_take_nz (B:=L32) (by decide) dx;have ex:(xs.take (nz xs)).length=nz xs:=by simp;omega
 have HSX:=Lib.hid hx;have SIGX:=Lib.hid (fun w=>sig_any ao xs.length ac xs w);have cz:=clampN_le z;have SH:=Lib.hid (fun w=>shift_any z w)
 have hpow:2 ^ clampN z=2 ^ (clampN z % 32)*L32 ^ (clampN z / 32):=by
  rw[show L32=2 ^ 32 from rfl,<-Nat.pow_mul,<-Nat.pow_add]
  congr 1;omega
 clear hx;rw[<-VX,hpow];have hr:clampN z % 32<32:=Nat.mod_lt _ (by decide);have hm:clampN z / 32<=128:=by omega
 clear VX dx hpow cz;generalize clampN z % 32=r at *;generalize clampN z / 32=m at *;generalize xs.take (nz xs)=X at *;generalize nz xs=n at *
 have SX:Hid (∀ w1,Below w.heap.size w w1->∀ k,k<n->∃ a,ao=some a/\w1.cell? (a.add k)=some (.int .u32 (nth X k))):=by
  intro w1 hb k hk;obtain⟨ao',cap',e,_,_,_,q⟩:=hx'.below hb;injection e with e1 e2 e3;subst e1;exact q k (by omega)
 have EX:=Lib.hid ex;clear ex;go_enter Tryz.func132,Tryz.ntmps132
 go_wp2_with fail
 refine (SIGX.out _ HSX.out).mono ?_;rintro e w' ⟨rfl,rfl⟩;go_wp2_with fail
 refine (SH.out _).mono ?_;rintro e w' ⟨rfl,rfl⟩;go_wp2_with (at_make;refine wpList_make_blk _ rfl _ _ 24 rfl 113 i0 .u32 Tryz.underlying24 hi hz0 hz1 _ _ _ _ (n+m+1) rfl rfl (by omega) (by omega) (by omega) (by omega) ?_;intro w1 hB1 hb1 hs1)
 go_loopw [26] (fun j wr=>∃ (i:Nat) (P:List Nat),j=.int .i64 i/\i<=n/\Blk wr w.heap.size .u32 113 P/\Below w.heap.size w wr/\Dig L32 P/\Hid (P.length=n+m+1)/\Hid (∀ t,i+m<t->P.getD t 0=0)/\Hid (P.getD (i+m) 0<2 ^ r)/\Hid (val L32 P=val L32 (X.take i)*(2 ^ r*L32 ^ m))) (fun j _=>n - (intOf j).toNat)
 case atStart=>exact⟨0,_,rfl,Nat.zero_le _,hB1,hb1,Dig.replicate (by decide) _,Lib.hid (by simp),Lib.hid (fun t _=>getD_zeros _ _),Lib.hid (by rw[getD_zeros];exact Nat.pow_pos (by decide)),Lib.hid (by rw[val_replicate_zero];simp[val])⟩
 case round =>
  clear hB1 hb1 hs1;obtain⟨i,P,rfl,hin,hB,hb,hdP,HL,HZ,HT,HV⟩:=hrel
  by_cases hlt:i<n
  ·obtain⟨a,rfl,hca⟩:=SX.out wr hb i hlt;have x1:=u32_wf dx' i;have x0:=dx'.getD (by decide) i;obtain⟨q1,q2,q3⟩:=shl_lt x0 hr;have hc0:wr.cell? ⟨w.heap.size,i+m,none⟩=some (.int .u32 (nth P (i+m))):=hB.cell (by rw[HL.out];omega);have hc1:wr.cell? ⟨w.heap.size,i+m+1,none⟩=some (.int .u32 (nth P (i+m+1))):=hB.cell (by rw[HL.out];omega);have hf0:=hB.frozen (i+m);have hf1:=hB.frozen (i+m+1);have hE:=shl_ints (P:=P) (X:=X) (i:=i) (j:=i+m) x0 hr HT.out;have E1:=Lib.hid hE.1;have E2:=Lib.hid hE.2;have HS:=Lib.hid (shl_step (wide:=X.getD i 0*2 ^ r) (by rw[HL.out];omega) HV.out rfl (HZ.out (i+m+1) (by omega)));have Q1:=Lib.hid q1;have Q2:=Lib.hid q2;have HT1:=Lib.hid (shl_low (P:=P) (x:=X.getD i 0) (j:=i+m) hr HT.out);clear hE q1 q2 q3;go_wp2_with fail
   go_roundw
   case rel =>
    refine⟨i+1,_,by go_num,by omega,Blk.set (Blk.set hB (i+m) _ _ E1.out) (i+m+1) _ _ E2.out,(hb.setCell (p:=⟨w.heap.size,i+m,none⟩) (Nat.le_refl _) _).setCell (p:=⟨w.heap.size,i+m+1,none⟩) (Nat.le_refl _) _,(hdP.set HT1.out).set (Nat.div_lt_of_lt_mul Q1.out),Lib.hid (by rw[List.length_set,List.length_set];exact HL.out),Lib.hid ?_,Lib.hid ?_,HS⟩
    ·intro t ht;rw[getD_set,if_neg (by omega),getD_set,if_neg (by omega)];exact HZ.out t (by omega)
    rw[getD_set,List.length_set,if_pos ⟨by omega,by rw[HL.out];omega⟩];exact Q2.out
   case measure=>simp[intOf];omega
  have hii:i=n:=by omega
  subst hii
  have hv:val L32 P=val L32 X*(2 ^ r*L32 ^ m):=by
   have h:=HV.out
   rwa [List.take_of_length_le (by rw[EX.out];omega)] at h
  have HV':=Lib.hid hv;clear hv;have hsl:=hB.sl 0 (i+m+1) (i+m+1) (by rw[HL.out];omega) (Nat.le_refl _) (by omega);rw[List.drop_zero,List.take_of_length_le (by rw[HL.out];omega)] at hsl;go_wp2_with fail
  refine (trimmed_v _ P _ hsl hdP).mono ?_;rintro e w4 ⟨v4,rfl,ht4,rfl⟩;go_wp2_with fail
  go_ret
  refine⟨_,rfl,?_,hb⟩;rw[HV'.out] at ht4;exact ht4
theorem shr_step {P Y:List Nat} {i r S:Nat} (hr:r<32) (hi:i<Y.length) (hd:Dig L32 Y) (hip:i<P.length) (hv:val L32 (P.take i)+(val L32 (Y.drop i) / 2 ^ r)*L32 ^ i=S) :
  val L32 ((P.set i ((Y.getD i 0+L32*Y.getD (i+1) 0) / 2 ^ r % L32)).take (i+1))+(val L32 (Y.drop (i+1)) / 2 ^ r)*L32 ^ (i+1)=S:=by
 have hp:0<2 ^ r:=Nat.pow_pos (by decide);have h32:2 ^ r*2 ^ (32 - r)=L32:=by rw[<-Nat.pow_add,show r+(32 - r)=32 by omega]
 have e1:val L32 (Y.drop i)=Y.getD i 0+L32*val L32 (Y.drop (i+1)):=val_drop_step hi
 have e2:val L32 (Y.drop (i+1))=Y.getD (i+1) 0+L32*val L32 (Y.drop (i+2)):=by
  by_cases h:i+1<Y.length
  ·exact val_drop_step h
  rw[List.drop_eq_nil_of_le (by omega),List.drop_eq_nil_of_le (by omega),getD_out (by omega)];simp[val]
 have hq:val L32 (Y.drop i) / 2 ^ r % L32=(Y.getD i 0+L32*Y.getD (i+1) 0) / 2 ^ r % L32:=by
  rw[e1,e2,Nat.mul_add,<-Nat.add_assoc]
  have:L32*(L32*val L32 (Y.drop (i+2)))=2 ^ r*(2 ^ (32 - r)*(L32*val L32 (Y.drop (i+2)))):=by
   rw[<-Nat.mul_assoc (2 ^ r),h32]
  rw[this,Nat.add_mul_div_left _ _ hp]
  have h3:2 ^ (32 - r)*(L32*val L32 (Y.drop (i+2)))=L32*(2 ^ (32 - r)*val L32 (Y.drop (i+2))):=by
   rw[<-Nat.mul_assoc,Nat.mul_comm (2 ^ (32 - r)),Nat.mul_assoc]
  rw[h3,Nat.add_mul_mod_self_left]
 have hq2:val L32 (Y.drop i) / 2 ^ r / L32=val L32 (Y.drop (i+1)) / 2 ^ r:=by
  rw[Nat.div_div_eq_div_mul,Nat.mul_comm,<-Nat.div_div_eq_div_mul,e1,Nat.add_mul_div_left _ _ (by decide),Nat.div_eq_of_lt (hd.getD (by decide) i),Nat.zero_add]
 have h4:=Nat.mod_add_div (val L32 (Y.drop i) / 2 ^ r) L32;rw[hq,hq2] at h4;rw[val_take_succ',getD_set,if_pos ⟨rfl,hip⟩,List.take_set_of_le (Nat.le_refl i),<-hv,<-h4,Nat.pow_succ];generalize (Y.getD i 0+L32*Y.getD (i+1) 0) / 2 ^ r % L32=p;generalize val L32 (Y.drop (i+1)) / 2 ^ r=u;generalize L32 ^ i=t;rw[Nat.add_mul,Nat.add_assoc]
 congr 2
 grind
theorem shr_whole {X:List Nat} {m r:Nat} (dx:Dig L32 X) (hm:m<=X.length):val L32 (X.drop m) / 2 ^ r=val L32 X / (2 ^ r*L32 ^ m):=by
 have h1:=val_lt (dx.take m);rw[List.length_take,Nat.min_eq_left hm] at h1;rw[val_split L32 X m hm,Nat.mul_comm (2 ^ r),<-Nat.div_div_eq_div_mul,Nat.add_mul_div_left _ _ (Nat.pow_pos (by decide)),Nat.div_eq_of_lt h1,Nat.zero_add]
theorem shr_ints {y y1 r:Nat} (hy:y<L32) (hy1:y1<L32) :
  bits BinOp.or IntKind.u64 (y:Int) ((y1:Int)*4294967296) / 2 ^ r % 4294967296=(((y+L32*y1) / 2 ^ r % L32:Nat):Int):=by
 have e:(y1:Int)*4294967296=((y1*4294967296:Nat):Int):=by simp
 have hy':y<4294967296:=hy;have hy1':y1<4294967296:=hy1;rw[e,u64_or_nat _ _ (by omega) (by omega),Nat.or_comm,nat_join 32 _ _ (by omega) hy'];have e2:y1*4294967296+y=y+L32*y1:=by show y1*4294967296+y=y+4294967296*y1;omega
 rw[e2];simp
theorem shr_ints0 {y r:Nat}:(y:Int) / 2 ^ r % 4294967296=(((y+L32*0) / 2 ^ r % L32:Nat):Int):=by simp
set_option maxRecDepth 100000 in
theorem shr_any (va:Value) (xs:List Nat) (z:Int) (w:World) (hx:Sl w .u32 va xs) (dx:Dig L32 xs) (lx:xs.length<=1000000) :
  Calls Tryz.prog 134 #[va,.int .i64 z] w fun e w'=>∃ v,e=.returned v/\Sl w' .u32 v (dig L32 (val L32 xs / 2 ^ clampN z))/\Below w.heap.size w w':=by
 obtain⟨i0,hi,hz0,hz1,hz2⟩:=info_parts info51;obtain⟨ao,ac,rfl⟩:=sl_shape hx;have nx:=nz_le xs;have hx':=hx.take (nz xs) nx;have dx':=dx.take (nz xs);have VX:=val_take_nz (B:=L32) (by decide) dx;have ex:(xs.take (nz xs)).length=nz xs:=by simp;omega
 have HSX:=Lib.hid hx;have SIGX:=Lib.hid (fun w=>sig_any ao xs.length ac xs w);have cz:=clampN_le z;have SH:=Lib.hid (fun w=>shift_any z w)
 have hpow:2 ^ clampN z=2 ^ (clampN z % 32)*L32 ^ (clampN z / 32):=by
  rw[show L32=2 ^ 32 from rfl,<-Nat.pow_mul,<-Nat.pow_add]
  congr 1;omega
 have hac:xs.length<=ac:=by obtain⟨_,_,e,h,_⟩:=hx;injection e with _ _ e3;omega
 clear hx;rw[<-VX,hpow];have hr:clampN z % 32<32:=Nat.mod_lt _ (by decide);have hm:clampN z / 32<=128:=by omega
 clear VX dx hpow cz;generalize clampN z % 32=r at *;generalize clampN z / 32=m at *;generalize xs.take (nz xs)=X at *;generalize nz xs=n at *
 have SX:Hid (∀ w1,Below w.heap.size w w1->∀ k,k<n->∃ a,ao=some a/\w1.cell? (a.add k)=some (.int .u32 (nth X k))):=by
  intro w1 hb k hk;obtain⟨ao',cap',e,_,_,_,q⟩:=hx'.below hb;injection e with e1 e2 e3;subst e1;exact q k (by omega)
 have EX:=Lib.hid ex;clear ex
 by_cases hmn:n<=m
 ·have hv0:val L32 X / (2 ^ r*L32 ^ m)=0:=by
   apply Nat.div_eq_of_lt
   have h1:=val_lt dx';rw[EX.out] at h1;have h2:L32 ^ n<=L32 ^ m:=Nat.pow_le_pow_right (by decide) hmn;have h3:1*L32 ^ m<=2 ^ r*L32 ^ m:=Nat.mul_le_mul_right _ (Nat.pow_pos (by decide))
   omega
  have HV0:=Lib.hid hv0;clear hv0;go_enter Tryz.func134,Tryz.ntmps134
  go_wp2_with fail
  refine (SIGX.out _ HSX.out).mono ?_;rintro e w' ⟨rfl,rfl⟩;go_wp2_with fail
  refine (SH.out _).mono ?_;rintro e w' ⟨rfl,rfl⟩;go_wp2_with fail
  go_ret
  refine⟨_,rfl,?_,Below.refl _ _⟩;rw[HV0.out,dig_zero];exact Sl.nil _ _
 obtain⟨a,rfl,_⟩:=SX.out w (Below.refl _ _) 0 (by omega);have hWH:=Lib.hid (shr_whole (X:=X) (m:=m) (r:=r) dx' (by rw[EX.out];omega));have dY:=dx'.drop m;have lY:(X.drop m).length=n - m:=by rw[List.length_drop,EX.out]
 have LY:=Lib.hid lY;clear lY;have hcm:¬ ac=m:=by omega
 have SY:Hid (∀ w1,Below w.heap.size w w1->∀ k,k<n - m->w1.cell? ((a.add m).add k)=some (.int .u32 (nth (X.drop m) k))):=by
  intro w1 hb k hk;obtain⟨a',e,hc⟩:=SX.out w1 hb (m+k) (by omega);injection e with e;subst e;rw[addr_add_add,hc];unfold nth;simp[List.getD]
 go_enter Tryz.func134,Tryz.ntmps134
 go_wp2_with fail
 refine (SIGX.out _ HSX.out).mono ?_;rintro e w' ⟨rfl,rfl⟩;go_wp2_with fail
 refine (SH.out _).mono ?_;rintro e w' ⟨rfl,rfl⟩;go_wp2_with (at_make;refine wpList_make_blk _ rfl _ _ 24 rfl 113 i0 .u32 Tryz.underlying24 hi hz0 hz1 _ _ _ _ (n - m) rfl rfl (by omega) (by omega) (by omega) (by omega) ?_;intro w1 hB1 hb1 hs1)
 generalize a.add m=b at *;generalize X.drop m=Y at *;generalize hN:n - m=N at *;have hN1:0<N/\N<=1000000:=by omega
 clear hN
 go_loopw [29] (fun j wr=>∃ (i:Nat) (P:List Nat),j=.int .i64 i/\i<=N/\Blk wr w.heap.size .u32 113 P/\Below w.heap.size w wr/\Dig L32 P/\Hid (P.length=N)/\Hid (val L32 (P.take i)+(val L32 (Y.drop i) / 2 ^ r)*L32 ^ i=val L32 Y / 2 ^ r)) (fun j _=>N - (intOf j).toNat)
 case atStart=>exact⟨0,_,rfl,Nat.zero_le _,hB1,hb1,Dig.replicate (by decide) _,Lib.hid (by simp),Lib.hid (by simp[val])⟩
 case round =>
  clear hB1 hb1 hs1;obtain⟨i,P,rfl,hin,hB,hb,hdP,HL,HV⟩:=hrel
  by_cases hlt:i<N
  ·have hc0:=SY.out wr hb i hlt;have x1:=u32_wf dY i;have y0:=dY.getD (by decide) i;have y1:=dY.getD (by decide) (i+1);have hcp:wr.cell? ⟨w.heap.size,i,none⟩=some (.int .u32 (nth P i)):=hB.cell (by rw[HL.out];omega);have hf:=hB.frozen i;have HS:=Lib.hid (shr_step (P:=P) (Y:=Y) (i:=i) hr (by rw[LY.out];exact hlt) dY (by rw[HL.out];exact hlt) HV.out);have HD1:=Lib.hid (hdP.set (i:=i) (v:=(Y.getD i 0+L32*Y.getD (i+1) 0) / 2 ^ r % L32) (Nat.mod_lt _ (by decide)));have HL1:=Lib.hid (show (P.set i ((Y.getD i 0+L32*Y.getD (i+1) 0) / 2 ^ r % L32)).length=N by rw[List.length_set];exact HL.out)
   by_cases hlt2:i+1<N
   ·have hc1:wr.cell? ⟨b.block,b.off+(i+1),none⟩=some (.int .u32 (nth Y (i+1))):=by
     have:=SY.out wr hb (i+1) hlt2
     simpa [Addr.add] using this
    have x2:=u32_wf dY (i+1);have E1:=Lib.hid (shr_ints (r:=r) y0 y1);clear y0 y1;go_wp2_with fail
    go_roundw
    case rel=>exact⟨i+1,_,by go_num,by omega,Blk.set hB i _ _ E1.out,hb.setCell (p:=⟨w.heap.size,i,none⟩) (Nat.le_refl _) _,HD1.out,HL1,HS⟩
    case measure=>simp[intOf];omega
   have y1':Y.getD (i+1) 0=0:=getD_out (by rw[LY.out];omega);have E1:Hid (nth Y i / 2 ^ r % 4294967296=(((Y.getD i 0+L32*Y.getD (i+1) 0) / 2 ^ r % L32:Nat):Int)):=Lib.hid (by rw[y1'];exact shr_ints0);clear y0 y1 y1';go_wp2_with fail
   go_roundw
   case rel=>exact⟨i+1,_,by go_num,by omega,Blk.set hB i _ _ E1.out,hb.setCell (p:=⟨w.heap.size,i,none⟩) (Nat.le_refl _) _,HD1.out,HL1,HS⟩
   case measure=>simp[intOf];omega
  have hii:i=N:=by omega
  subst hii
  have hv:val L32 P=val L32 Y / 2 ^ r:=by
   have h:=HV.out;rw[List.take_of_length_le (by rw[HL.out];omega),List.drop_eq_nil_of_le (by rw[LY.out];omega)] at h
   simpa [val] using h
  have HV':=Lib.hid hv;clear hv;have hsl:=hB.sl 0 i i (by rw[HL.out];omega) (Nat.le_refl _) (by omega);rw[List.drop_zero,List.take_of_length_le (by rw[HL.out];omega)] at hsl;go_wp2_with fail
  refine (trimmed_v _ P _ hsl hdP).mono ?_;rintro e w4 ⟨v4,rfl,ht4,rfl⟩;go_wp2_with fail
  go_ret
  refine⟨_,rfl,?_,hb⟩;rw[HV'.out,hWH.out] at ht4;exact ht4
end Go.Proofs.YtdkfnbbebpbhaaaGreatDoor
