/-
 Joined texts: LxM,KBase,KNat,KRef,Shelf,KText,KMul,Rely,KSh,KDiv,KPar,KWhoA,KWhoF,PsM,PsR,PsE.
-/
import Init
import Derived.WalkKit
import Derived.WalkSpells
import Derived.WalkLawsBesides
import Derived.Lib.Hide
import Derived.Laws.CopyOwn
import Derived.Laws.AppendOwnNone
import Derived.Test.YtkocdbgmckdcpaaGreatDoorRows
import Derived.Deep.QuietTactic
import Derived.BigQuiet
import Derived.Shelf.Strings.Builder1
import Derived.Shelf.Small.Bits
import Derived.Shelf.Small.Strs
import Derived.Shelf.Small.Wraps
import Derived.Shelf.Strconv.Itoa0
import Derived.Shelf.Strconv.Itoa1
import Derived.Shelf.LaysM
import Derived.Shelf.Strconv.Itoa2
import Derived.Shelf.Strconv.Clone
import Derived.Shelf.Strings.Search1
import Derived.Shelf.Strings.Prefix
import Derived.Ground.Names2Prog
import Derived.Shelf.Slices.SearchI
import Derived.Test.YtkocdbgmckdcpaaGreatDoorProg
import Derived.Lib.Builder
import Derived.Lib.ItoaNum
import Derived.Lib.AppendStr
import Derived.RegionTactic
import Derived.StillTailTactics
import Derived.Deep.RegionHeld3
import Derived.Lib.ItoaMem
import Derived.Deep.DeepCutAuto
set_option maxHeartbeats 32000000
namespace Go.Proofs.YtkocdbgmckdcpaaGreatDoor
set_option maxRecDepth 100000
theorem gsa {α:Type _} {xs:List α} {i:Nat}:xs.toArray[i]?=xs[i]?:=List.getElem?_toArray
theorem gsc {α:Type _} {a:α} {xs:List α} {i:Nat}:(a::xs)[i+1]?=xs[i]?:=List.getElem?_cons_succ
theorem gsz {α:Type _} {a:α} {l:List α}:(a::l)[0]?=some a:=List.getElem?_cons_zero
theorem lsa {α:Type _} {xs ys:List α}:(xs++ys).length=xs.length+ys.length:=List.length_append
theorem lsc {α:Type _} {a:α} {xs:List α}:(a::xs).length=xs.length+1:=List.length_cons
theorem lsn {α:Type _}:([]:List α).length=0:=List.length_nil
theorem t1_ {α:Type _} {a:α} {xs:List α} {i:Nat}:(a::xs).take (i+1)=a::xs.take i:=List.take_succ_cons
theorem t2_ {α:Type _} {l:List α}:l.take 0=[]:=List.take_zero
theorem t3_ {α:Type _} {a:α} {l:List α} {i:Nat}:(a::l).drop (i+1)=l.drop i:=List.drop_succ_cons
theorem t4_ {α:Type _} {l:List α}:l.drop 0=l:=List.drop_zero
theorem t5_ {α:Type _} {l:List α} {i:Nat} {a:α}:l.toArray.setIfInBounds i a=(l.set i a).toArray:=List.setIfInBounds_toArray _ _ _
theorem t6_ {α:Type _} {x:α} {xs:List α} {a:α}:(x::xs).set 0 a=a::xs:=List.set_cons_zero
theorem t7_ {α:Type _} {x:α} {xs:List α} {n:Nat} {a:α}:(x::xs).set (n+1) a=x::xs.set n a:=List.set_cons_succ
abbrev Bs:=List UInt8
def isL (c:UInt8):Bool:=(97<=c && c<=122) || (65<=c && c<=90) || c==95
def isD (c:UInt8):Bool:=48<=c && c<=57
def isLD (c:UInt8):Bool:=isL c || isD c
def spn (p:UInt8->Bool):Bs->Nat
 | []=>0
 | c::l=>if p c then spn p l+1 else 0
theorem spn_le (p:UInt8->Bool) (l:Bs):spn p l<=l.length:=by
 induction l with
 | nil=>simp[spn]
 | cons c l ih=>simp only[spn,lsc];split<;>omega
theorem spn_step {p:UInt8->Bool} {l:Bs} {k:Nat} (h:k<l.length) (hp:p l[k]=true):spn p (l.drop k)=spn p (l.drop (k+1))+1:=by
 rw[List.drop_eq_getElem_cons h,spn,if_pos hp]
theorem spn_stop {p:UInt8->Bool} {l:Bs} {k:Nat} (h:k<l.length) (hp:p l[k]=false):spn p (l.drop k)=0:=by
 rw[List.drop_eq_getElem_cons h,spn,hp];rfl
theorem spn_end {p:UInt8->Bool} {l:Bs} {k:Nat} (h:l.length<=k):spn p (l.drop k)=0:=by
 rw[List.drop_of_length_le h];rfl
theorem spn_app {p:UInt8->Bool} (l:Bs) {c:UInt8} (hc:p c=false) (r:Bs):spn p (l.take (spn p l)++c::r)=spn p l:=by
 induction l with
 | nil=>simp[spn,hc]
 | cons a l ih =>
  by_cases h:p a=true
  ·simp only[spn,h,if_true,List.take_succ_cons,List.cons_append,ih]
  simp[spn,h,hc]
theorem spn_all {p:UInt8->Bool} (l:Bs):∀ c ∈ l.take (spn p l),p c=true:=by
 induction l with
 | nil=>simp[spn]
 | cons a l ih =>
  by_cases h:p a=true
  ·simp only[spn,h,if_true,List.take_succ_cons];intro c hc;rcases List.mem_cons.1 hc with rfl | hc
   ·exact h
   exact ih c hc
  simp[spn,h]
def wds:List Bs:=[[102,117,110],[113,117,97,108,105,102],[108,101,116],[105,110],[105,102],[116,104,101,110],[101,108,115,101],[109,97,116,99,104],[119,105,116,104],[97,115,115,101,114,116],[110,111,116],[116,114,117,101],[102,97,108,115,101],[105,110,116],[98,111,111,108],[108,105,115,116],[108,101,110],[104,100],[116,108],[118]]
def isW (l:Bs):Bool:=wds.contains l
def pairB (a b:UInt8):Bool:=(a==58 && b==58) || (a==45 && b==62) || (a==38 && b==38) || (a==124 && b==124) || (a==91 && b==93) || (a==60 && b==62) || (a==60 && b==61) || (a==62 && b==61)
def sglB (a:UInt8):Bool:=a==40 || a==41 || a==123 || a==125 || a==44 || a==58 || a==59 || a==124 || a==61 || a==60 || a==62 || a==43 || a==45 || a==42 || a==47 || a==37
def sgn:Bs->Nat
 | []=>0
 | [a]=>if sglB a then 1 else 0
 | a::b::_=>if pairB a b then 2 else if sglB a then 1 else 0
theorem sgn_le (l:Bs):sgn l<=2/\sgn l<=l.length:=by
 unfold sgn
 split
 ·simp
 ·split<;>simp
 split
 ·simp
 split<;>simp
theorem pair_gap (a c:UInt8) (h:c=32\/c=10\/c=9):pairB a c=false:=by
 rcases h with rfl | rfl | rfl<;>simp[pairB]
theorem sgn_app (l:Bs) (h:0<sgn l) (c:UInt8) (hc:c=32\/c=10\/c=9) (r:Bs):sgn (l.take (sgn l)++c::r)=sgn l:=by
 match l,h with
 | [],h=>simp[sgn] at h
 | [a],h =>
  have e:sgn [a]=1:=by
   cases hs:sglB a with
   | true=>simp[sgn,hs]
   | false=>simp[sgn,hs] at h
  have e2:sglB a=true:=by
   cases hs:sglB a with
   | true=>rfl
   | false=>simp[sgn,hs] at h
  rw[e];simp[sgn,pair_gap a c hc,e2]
 | a::b::r',h =>
  by_cases h1:pairB a b=true
  ·simp[sgn,h1]
  by_cases h2:sglB a=true
  ·simp[sgn,h1,h2,pair_gap a c hc]
  simp[sgn,h1,h2] at h
def blk (c:UInt8):Bool:=c==32 || c==9 || c==10 || c==13
def gapL:Bool->Bs->Nat
 | _,[]=>0
 | true,c::l=>if c=10 then gapL false l+1 else gapL true l+1
 | false,c::l=>if c=35 then gapL true l+1 else if blk c then gapL false l+1 else 0
theorem gap_le (b:Bool) (l:Bs):gapL b l<=l.length:=by
 induction l generalizing b with
 | nil=>cases b<;>simp[gapL]
 | cons c l ih =>
  have h1:=ih true;have h2:=ih false
  cases b<;>simp only[gapL,lsc]<;>split<;>(try split)<;>omega
theorem gap_end {b:Bool} {l:Bs} {k:Nat} (h:l.length<=k):gapL b (l.drop k)=0:=by
 rw[List.drop_of_length_le h];cases b<;>rfl
theorem gap_blank {l:Bs} {k:Nat} (h:k<l.length) (hp:blk l[k]=true):gapL false (l.drop k)=gapL false (l.drop (k+1))+1:=by
 rw[List.drop_eq_getElem_cons h,gapL,if_neg (fun e=>by rw[e] at hp;simp[blk] at hp),if_pos hp]
theorem gap_hash {l:Bs} {k:Nat} (h:k<l.length) (hp:l[k]=35):gapL false (l.drop k)=gapL true (l.drop (k+1))+1:=by
 rw[List.drop_eq_getElem_cons h,gapL,if_pos hp]
theorem gap_stop {l:Bs} {k:Nat} (h:k<l.length) (hb:blk l[k]=false) (hp:l[k]≠35):gapL false (l.drop k)=0:=by
 rw[List.drop_eq_getElem_cons h,gapL,if_neg hp,hb];rfl
def notNl (c:UInt8):Bool:=c != 10
theorem gap_cmt (l:Bs):gapL true l=spn notNl l+gapL false (l.drop (spn notNl l)):=by
 induction l with
 | nil=>simp[gapL,spn]
 | cons c l ih =>
  by_cases h:c=10
  ·subst h;simp[gapL,spn,notNl,blk]
  simp only[gapL,spn,notNl,if_neg h];have:(c != 10)=true:=by simp[h]
  simp only[this,if_true,List.drop_succ_cons];have e:spn (fun c=>c != 10) l=spn notNl l:=rfl;rw[ih];omega
theorem gap_cmt' {l:Bs} {k:Nat} (h:k<l.length) (hp:l[k]=35):gapL false (l.drop k)=spn notNl (l.drop k)+gapL false (l.drop (k+spn notNl (l.drop k))):=by
 rw[gap_hash h hp,gap_cmt,List.drop_drop];have e:spn notNl (l.drop k)=spn notNl (l.drop (k+1))+1:=spn_step h (by rw[hp];rfl);rw[e,show k+(spn notNl (l.drop (k+1))+1)=k+1+spn notNl (l.drop (k+1)) from by omega]
 omega
def stepP (p:Nat × Nat) (c:UInt8):Nat × Nat:=if c=10 then (p.1+1,1) else (p.1,p.2+1)
def adv (p:Nat × Nat) (l:Bs):Nat × Nat:=l.foldl stepP p
theorem adv_cons (p:Nat × Nat) (c:UInt8) (l:Bs):adv p (c::l)=adv (stepP p c) l:=rfl
theorem adv_app (p:Nat × Nat) (l r:Bs):adv p (l++r)=adv (adv p l) r:=by simp[adv]
theorem adv_take_succ (p:Nat × Nat) (l:Bs) (k:Nat) (h:k<l.length):adv p (l.take (k+1))=stepP (adv p (l.take k)) l[k]:=by
 rw[List.take_succ_eq_append_getElem h,adv_app];rfl
theorem stepP_nl {p:Nat × Nat} {c:UInt8} (h:c=10):stepP p c=(p.1+1,1):=by rw[stepP,if_pos h]
theorem stepP_no {p:Nat × Nat} {c:UInt8} (h:c≠10):stepP p c=(p.1,p.2+1):=by rw[stepP,if_neg h]
theorem adv_bd (p:Nat × Nat) (l:Bs):(adv p l).1<=p.1+l.length/\(adv p l).2<=p.2+1+l.length:=by
 induction l generalizing p with
 | nil=>simp[adv]
 | cons c l ih =>
  rw[adv_cons];have:=ih (stepP p c)
  by_cases h:c=10
  ·rw[stepP_nl h] at this ⊢;simp only[lsc] at this ⊢;omega
  rw[stepP_no h] at this ⊢;simp only[lsc] at this ⊢;omega
inductive Meas where | ok (kind len:Nat) | bad (e:Nat)
def meas:Bs->Meas
 | []=>.ok 4 0
 | a::r =>
  if isL a then
   if 40<spn isLD (a::r) then .bad 2 else if isW ((a::r).take (spn isLD (a::r))) then .ok 3 (spn isLD (a::r)) else .ok 0 (spn isLD (a::r))
  else if isD a then
   if 1<spn isD (a::r)/\a=48 then .bad 1 else if 300<spn isD (a::r) then .bad 2 else .ok 1 (spn isD (a::r))
  else if 0<sgn (a::r) then .ok 2 (sgn (a::r)) else .bad 1
theorem meas_cons (a:UInt8) (r:Bs):meas (a::r) =
  if isL a then
   if 40<spn isLD (a::r) then .bad 2 else if isW ((a::r).take (spn isLD (a::r))) then .ok 3 (spn isLD (a::r)) else .ok 0 (spn isLD (a::r))
  else if isD a then
   if 1<spn isD (a::r)/\a=48 then .bad 1 else if 300<spn isD (a::r) then .bad 2 else .ok 1 (spn isD (a::r))
  else if 0<sgn (a::r) then .ok 2 (sgn (a::r)) else .bad 1:=rfl
theorem isLD_ne {c:UInt8} (h:isLD c=true):c≠10/\blk c=false/\c≠35:=by
 have hc:∀ x:UInt8,(x=10\/x=32\/x=9\/x=13\/x=35)->isLD x=false:=by
  intro x hx;rcases hx with rfl | rfl | rfl | rfl | rfl<;>rfl
 refine⟨fun e=>?_,?_,fun e=>?_⟩
 ·rw[hc c (.inl e)] at h;cases h
 ·cases hb:blk c with
  | false=>rfl
  | true =>
   have:c=32\/c=9\/c=10\/c=13:=by simpa [blk,or_assoc] using hb
   rw[hc c (by rcases this with e | e | e | e<;>simp[e])] at h;cases h
 rw[hc c (by simp[e])] at h;cases h
theorem isD_LD {c:UInt8} (h:isD c=true):isLD c=true:=by simp[isLD,h]
theorem isL_LD {c:UInt8} (h:isL c=true):isLD c=true:=by simp[isLD,h]
theorem sgl_ne {c:UInt8} (h:sglB c=true):c≠10/\blk c=false/\c≠35:=by
 have hc:∀ x:UInt8,(x=10\/x=32\/x=9\/x=13\/x=35)->sglB x=false:=by
  intro x hx;rcases hx with rfl | rfl | rfl | rfl | rfl<;>rfl
 refine⟨fun e=>?_,?_,fun e=>?_⟩
 ·rw[hc c (.inl e)] at h;cases h
 ·cases hb:blk c with
  | false=>rfl
  | true =>
   have:c=32\/c=9\/c=10\/c=13:=by simpa [blk,or_assoc] using hb
   rw[hc c (by rcases this with e | e | e | e<;>simp[e])] at h;cases h
 rw[hc c (by simp[e])] at h;cases h
theorem pair_ne {a b:UInt8} (h:pairB a b=true):(a≠10/\blk a=false/\a≠35)/\b≠10:=by
 simp only[pairB,Bool.or_eq_true,Bool.and_eq_true,beq_iff_eq] at h;rcases h with ((((((⟨rfl,rfl⟩ | ⟨rfl,rfl⟩) | ⟨rfl,rfl⟩) | ⟨rfl,rfl⟩) | ⟨rfl,rfl⟩) | ⟨rfl,rfl⟩) | ⟨rfl,rfl⟩) | ⟨rfl,rfl⟩<;>exact⟨⟨by decide,rfl,by decide⟩,by decide⟩
theorem meas_ok {l:Bs} {k n:Nat} (hl:l ≠ []) (h:meas l=.ok k n):k<4/\1<=n/\n<=l.length/\(∀ c ∈ l.take n,c≠10)/\(∀ c,l.head?=some c->blk c=false/\c≠35):=by
 match l,hl with
 | a::r,_ =>
  rw[meas_cons] at h
  by_cases h1:isL a=true
  ·rw[if_pos h1] at h;have e:spn isLD (a::r)=spn isLD r+1:=by rw[spn,if_pos (isL_LD h1)]
   have hne:=isLD_ne (isL_LD h1);have hle:=spn_le isLD (a::r);have hall:=spn_all (p:=isLD) (a::r)
   split at h
   ·cases h
   ·split at h<;>(injection h with hk hn;subst hk;subst hn;exact⟨by omega,by omega,hle,fun c hc=>(isLD_ne (hall c hc)).1,fun c hc=>by simp at hc;subst hc;exact hne.2⟩)
  rw[if_neg h1] at h
  by_cases h2:isD a=true
  ·rw[if_pos h2] at h;have e:spn isD (a::r)=spn isD r+1:=by rw[spn,if_pos h2]
   have hne:=isLD_ne (isD_LD h2);have hle:=spn_le isD (a::r);have hall:=spn_all (p:=isD) (a::r)
   split at h
   ·cases h
   split at h
   ·cases h
   injection h with hk hn;subst hk;subst hn;exact⟨by omega,by omega,hle,fun c hc=>(isLD_ne (isD_LD (hall c hc))).1,fun c hc=>by simp at hc;subst hc;exact hne.2⟩
  rw[if_neg h2] at h
  split at h
  ·rename_i h3
   injection h with hk hn;subst hk;subst hn;have hle:=(sgn_le (a::r)).2
   match r,h3,hle with
   | [],h3,hle =>
    have e2:sglB a=true:=by
     cases hs:sglB a with
     | true=>rfl
     | false=>simp[sgn,hs] at h3
    have e1:sgn [a]=1:=by simp[sgn,e2]
    have hne:=sgl_ne e2;exact⟨by omega,by omega,hle,fun c hc=>by rw[e1] at hc;simp at hc;subst hc;exact hne.1,fun c hc=>by simp at hc;subst hc;exact hne.2⟩
   | b::r',h3,hle =>
    by_cases e2:pairB a b=true
    ·have e1:sgn (a::b::r')=2:=by simp[sgn,e2]
     have hne:=pair_ne e2;exact⟨by omega,by omega,hle,fun c hc=>by rw[e1] at hc;simp at hc;rcases hc with rfl | rfl;exact hne.1.1;exact hne.2,fun c hc=>by simp at hc;subst hc;exact hne.1.2⟩
    have e3:sglB a=true:=by
     cases hs:sglB a with
     | true=>rfl
     | false=>simp[sgn,e2,hs] at h3
    have e1:sgn (a::b::r')=1:=by simp[sgn,e2,e3]
    have hne:=sgl_ne e3;exact⟨by omega,by omega,hle,fun c hc=>by rw[e1] at hc;simp at hc;subst hc;exact hne.1,fun c hc=>by simp at hc;subst hc;exact hne.2⟩
  cases h
theorem gap_no {c:UInt8} (hc:c=32\/c=10\/c=9):isLD c=false/\isD c=false:=by
 rcases hc with rfl | rfl | rfl<;>exact⟨rfl,rfl⟩
theorem meas_app {l:Bs} {k n:Nat} (hl:l ≠ []) (h:meas l=.ok k n) (c:UInt8) (hc:c=32\/c=10\/c=9) (r:Bs):meas (l.take n++c::r)=.ok k n:=by
 match l,hl with
 | a::r',_ =>
  have hno:=gap_no hc;have hm:=h;rw[meas_cons] at h
  by_cases h1:isL a=true
  ·rw[if_pos h1] at h;have e:spn isLD (a::r')=spn isLD r'+1:=by rw[spn,if_pos (isL_LD h1)]
   have hn:n=spn isLD (a::r'):=by
    split at h
    ·cases h
    split at h<;>(injection h with hk hn;exact hn.symm)
   subst hn;have ht:=spn_app (p:=isLD) (a::r') hno.1 r
   have e3:((a::r').take (spn isLD (a::r'))++c::r).take (spn isLD (a::r'))=(a::r').take (spn isLD (a::r')):=by
    rw[List.take_append_of_le_length (by simp;have:=spn_le isLD (a::r');simp at this;omega),List.take_take];simp
   have e4:(a::r').take (spn isLD (a::r'))++c::r=a::(r'.take (spn isLD r')++c::r):=by rw[e];simp
   rw[e4] at ht e3 ⊢;rw[meas_cons,if_pos h1,ht,e3];exact h
  rw[if_neg h1] at h
  by_cases h2:isD a=true
  ·rw[if_pos h2] at h;have e:spn isD (a::r')=spn isD r'+1:=by rw[spn,if_pos h2]
   have hn:n=spn isD (a::r'):=by
    split at h
    ·cases h
    split at h
    ·cases h
    injection h with hk hn;exact hn.symm
   subst hn;have ht:=spn_app (p:=isD) (a::r') hno.2 r;have e4:(a::r').take (spn isD (a::r'))++c::r=a::(r'.take (spn isD r')++c::r):=by rw[e];simp
   rw[e4] at ht ⊢;rw[meas_cons,if_neg h1,if_pos h2,ht];exact h
  rw[if_neg h2] at h
  split at h
  ·rename_i h3
   have hn:n=sgn (a::r'):=by injection h with hk hn;exact hn.symm
   subst hn;have ht:=sgn_app (a::r') h3 c hc r;obtain⟨m,hmm⟩:∃ m,sgn (a::r')=m+1:=⟨sgn (a::r') - 1,by omega⟩
   have e4:(a::r').take (sgn (a::r'))++c::r=a::(r'.take m++c::r):=by rw[hmm];simp
   rw[e4] at ht ⊢;rw[meas_cons,if_neg h1,if_neg h2,ht,if_pos h3];exact h
  cases h
structure Tok where
 kind:Nat
 text:Bs
 line:Nat
 col:Nat
def lexS (s:Bs) (p:Nat × Nat):List Tok × Nat:=
 if _h:s.drop (gapL false s)=[] then ([⟨4,[],(adv p (s.take (gapL false s))).1,(adv p (s.take (gapL false s))).2⟩],0)
 else match meas (s.drop (gapL false s)) with
  | .bad e=>([⟨4,[],(adv p (s.take (gapL false s))).1,(adv p (s.take (gapL false s))).2⟩],e)
  | .ok k n =>
   let r:=lexS ((s.drop (gapL false s)).drop (n - 1+1)) (adv (adv p (s.take (gapL false s))) ((s.drop (gapL false s)).take (n - 1+1)))
   (⟨k,(s.drop (gapL false s)).take n,(adv p (s.take (gapL false s))).1,(adv p (s.take (gapL false s))).2⟩::r.1,r.2)
termination_by s.length
decreasing_by
 have:0<(s.drop (gapL false s)).length:=List.length_pos_iff.2 _h
 simp at this ⊢;omega
theorem lex_end {s:Bs} {p:Nat × Nat} (h:s.drop (gapL false s)=[]):lexS s p=([⟨4,[],(adv p s).1,(adv p s).2⟩],0):=by
 have e:s.take (gapL false s)=s:=List.take_of_length_le (List.drop_eq_nil_iff.1 h);rw[lexS,dif_pos h,e]
theorem lex_bad {s:Bs} {p:Nat × Nat} {e:Nat} (h:s.drop (gapL false s) ≠ []) (hm:meas (s.drop (gapL false s))=.bad e):lexS s p=([⟨4,[],(adv p (s.take (gapL false s))).1,(adv p (s.take (gapL false s))).2⟩],e):=by
 rw[lexS,dif_neg h,hm]
theorem lex_tok {s:Bs} {p:Nat × Nat} {k n:Nat} (h:s.drop (gapL false s) ≠ []) (hm:meas (s.drop (gapL false s))=.ok k n) :
  lexS s p=(⟨k,(s.drop (gapL false s)).take n,(adv p (s.take (gapL false s))).1,(adv p (s.take (gapL false s))).2⟩::(lexS ((s.drop (gapL false s)).drop n) (adv (adv p (s.take (gapL false s))) ((s.drop (gapL false s)).take n))).1,
   (lexS ((s.drop (gapL false s)).drop n) (adv (adv p (s.take (gapL false s))) ((s.drop (gapL false s)).take n))).2):=by
 have h1:=(meas_ok h hm).2.1;have e:n - 1+1=n:=by omega
 rw[lexS,dif_neg h,hm];simp only[e]
def Gap (b:Bs):Prop:=∀ s,gapL false (b++s)=b.length+gapL false s
theorem lex_gap {b:Bs} (hb:Gap b) (s:Bs) (p:Nat × Nat):lexS (b++s) p=lexS s (adv p b):=by
 have h1:(b++s).drop (gapL false (b++s))=s.drop (gapL false s):=by rw[hb,List.drop_append];simp
 have h2:adv p ((b++s).take (gapL false (b++s)))=adv (adv p b) (s.take (gapL false s)):=by
  rw[hb,<-adv_app]
  congr 1
  rw[List.take_append,List.take_of_length_le (by omega)];simp
 rw[lexS,lexS,h1,h2]
theorem lex_ne (s:Bs) (p:Nat × Nat):(lexS s p).1 ≠ []:=by
 rw[lexS];split
 ·simp
 split<;>simp
theorem meas_bad {l:Bs} {e:Nat} (h:meas l=.bad e):e=1\/e=2:=by
 match l with
 | []=>cases h
 | a::r =>
  rw[meas_cons] at h
  repeat' split at h
  all_goals first | (injection h with h;omega) | cases h
theorem lex_code (s:Bs) (p:Nat × Nat):(lexS s p).2=0\/(lexS s p).2=1\/(lexS s p).2=2:=by
 induction hn:s.length using Nat.strongRecOn generalizing s p with
 | ind n ih =>
  by_cases h:s.drop (gapL false s)=[]
  ·rw[lex_end h];exact .inl rfl
  cases hm:meas (s.drop (gapL false s)) with
  | bad e=>rw[lex_bad h hm];rcases meas_bad hm with e | e<;>simp[e]
  | ok k m =>
   rw[lex_tok h hm];have:=meas_ok h hm;exact ih _ (by subst hn;have h1:=List.length_pos_iff.2 h;simp only[List.length_drop] at this h1 ⊢;omega) _ _ rfl
theorem lex_ind {C:Bs->Nat × Nat->List Tok->Prop} (hend:∀ s p,s.drop (gapL false s)=[]->C s p [⟨4,[],(adv p s).1,(adv p s).2⟩])
  (htok:∀ s p k n ts,s.drop (gapL false s) ≠ []->meas (s.drop (gapL false s))=.ok k n->C ((s.drop (gapL false s)).drop n) (adv (adv p (s.take (gapL false s))) ((s.drop (gapL false s)).take n)) ts ->
   lexS ((s.drop (gapL false s)).drop n) (adv (adv p (s.take (gapL false s))) ((s.drop (gapL false s)).take n))=(ts,0) ->
   C s p (⟨k,(s.drop (gapL false s)).take n,(adv p (s.take (gapL false s))).1,(adv p (s.take (gapL false s))).2⟩::ts))
  (s:Bs) (p:Nat × Nat) (h0:(lexS s p).2=0):C s p (lexS s p).1:=by
 induction hn:s.length using Nat.strongRecOn generalizing s p with
 | ind n ih =>
  by_cases h:s.drop (gapL false s)=[]
  ·rw[lex_end h];exact hend s p h
  cases hm:meas (s.drop (gapL false s)) with
  | bad e=>rw[lex_bad h hm] at h0;rcases meas_bad hm with e | e<;>simp[e] at h0
  | ok k m =>
   rw[lex_tok h hm] at h0 ⊢;have:=meas_ok h hm;refine htok s p k m _ h hm (ih _ (by subst hn;have h1:=List.length_pos_iff.2 h;simp only[List.length_drop] at this h1 ⊢;omega) _ _ h0 rfl) ?_;exact Prod.ext rfl h0
def Tok.bare (t:Tok):Nat × Bs:=(t.kind,t.text)
def textSum (ts:List Tok):Nat:=(ts.map fun t=>t.text.length).sum
theorem lex_sum (s:Bs) (p:Nat × Nat):(lexS s p).1.length<=s.length+1/\textSum (lexS s p).1<=s.length:=by
 induction hn:s.length using Nat.strongRecOn generalizing s p with
 | ind n ih =>
  by_cases h:s.drop (gapL false s)=[]
  ·rw[lex_end h];simp[textSum]
  cases hm:meas (s.drop (gapL false s)) with
  | bad e=>rw[lex_bad h hm];simp[textSum]
  | ok k m =>
   rw[lex_tok h hm];have h2:=meas_ok h hm;have h3:=ih _ (by subst hn;have h1:=List.length_pos_iff.2 h;simp only[List.length_drop] at h2 h1 ⊢;omega) ((s.drop (gapL false s)).drop m) (adv (adv p (s.take (gapL false s))) ((s.drop (gapL false s)).take m)) rfl;simp only[textSum,List.length_drop,lsc,List.map_cons,List.sum_cons,List.length_take] at h2 h3 ⊢
   omega
def Placed (s:Bs) (p:Nat × Nat):Nat->List Tok->Prop
 | off,[]=>off=s.length
 | off,t::ts=>∃ o,off<=o/\o+t.text.length<=s.length/\adv p (s.take o)=(t.line,t.col)/\(s.drop o).take t.text.length=t.text/\(∀ c ∈ t.text,c≠10)/\Placed s p (o+t.text.length) ts
theorem lex_placed (s0:Bs) (p0:Nat × Nat) (h0:(lexS s0 p0).2=0):Placed s0 p0 0 (lexS s0 p0).1:=by
 refine lex_ind (C:=fun s p ts=>∀ off,off<=s0.length->s=s0.drop off->p=adv p0 (s0.take off)->Placed s0 p0 off ts) ?_ ?_ s0 p0 h0 0 (Nat.zero_le _) rfl rfl
 ·intro s p h off ho hs hp;refine⟨s0.length,ho,by simp,?_,by simp,by simp,by simp[Placed]⟩;rw[hs,hp,<-adv_app,List.take_append_drop,List.take_length]
 intro s p k n ts h hm ih he off ho hs hp;have h2:=meas_ok h hm;have hg:=gap_le false s;have hl:s.length=s0.length - off:=by rw[hs,List.length_drop]
 have h3:n<=s.length - gapL false s:=by have:=h2.2.2.1;simpa using this
 have hp1:adv p (s.take (gapL false s))=adv p0 (s0.take (off+gapL false s)):=by
  rw[hp,<-adv_app,List.take_add];rw[<-hs]
 have hdd:(s.drop (gapL false s))=s0.drop (off+gapL false s):=by rw[<-List.drop_drop,<-hs]
 have hlen:((s.drop (gapL false s)).take n).length=n:=by rw[List.length_take,List.length_drop];omega
 refine⟨off+gapL false s,by omega,by rw[hlen];omega,by rw[<-hp1],by rw[hlen,<-hdd],h2.2.2.2.1,?_⟩;rw[hlen];refine ih _ (by omega) (by rw[hdd,List.drop_drop]) ?_;rw[hp1,hdd,<-adv_app,<-List.take_add]
def val (B:Nat):List Nat->Nat
 | []=>0
 | x::xs=>x+B*val B xs
def Dig (B:Nat) (xs:List Nat):Prop:=∀ x ∈ xs,x<B
theorem val_append (B:Nat) (xs ys:List Nat):val B (xs++ys)=val B xs+B ^ xs.length*val B ys:=by
 induction xs with
 | nil=>simp[val]
 | cons x xs ih=>simp only[List.cons_append,val,ih,lsc,Nat.pow_succ];grind
theorem val_lt {B:Nat} {xs:List Nat} (h:Dig B xs):val B xs<B ^ xs.length:=by
 induction xs with
 | nil=>simp[val]
 | cons x xs ih =>
  have h1:x<B:=h x (by simp);have h2:=ih (fun y hy=>h y (by simp[hy]));simp only[val,lsc,Nat.pow_succ];have:B*(val B xs+1)<=B*B ^ xs.length:=Nat.mul_le_mul_left _ h2
  grind
theorem val_take_succ (B:Nat) (xs:List Nat) (k:Nat) (h:k<xs.length):val B (xs.take (k+1))=val B (xs.take k)+xs.getD k 0*B ^ k:=by
 rw[List.take_succ_eq_append_getElem h,val_append];have e:(xs.take k).length=k:=by simp;omega
 simp[val,e,List.getD,h,Nat.mul_comm]
theorem val_replicate_zero (B n:Nat):val B (List.replicate n 0)=0:=by
 induction n with
 | zero=>rfl
 | succ n ih=>simp[List.replicate_succ,val,ih]
theorem Dig.set {B:Nat} {xs:List Nat} (h:Dig B xs) {i v:Nat} (hv:v<B):Dig B (xs.set i v):=by
 intro x hx;rcases List.mem_or_eq_of_mem_set hx with h' | h'
 ·exact h x h'
 omega
theorem Dig.append {B:Nat} {xs ys:List Nat} (h:Dig B xs) (k:Dig B ys):Dig B (xs++ys):=by
 intro x hx;rcases List.mem_append.1 hx with h' | h'
 ·exact h x h'
 exact k x h'
theorem Dig.take {B:Nat} {xs:List Nat} (h:Dig B xs) (n:Nat):Dig B (xs.take n):=fun x hx=>h x (List.mem_of_mem_take hx)
theorem Dig.drop {B:Nat} {xs:List Nat} (h:Dig B xs) (n:Nat):Dig B (xs.drop n):=fun x hx=>h x (List.mem_of_mem_drop hx)
theorem Dig.getD {B:Nat} {xs:List Nat} (h:Dig B xs) (hB:0<B) (i:Nat):xs.getD i 0<B:=by
 by_cases hi:i<xs.length
 ·have:=h xs[i] (List.getElem_mem hi);simpa [List.getD,hi] using this
 simpa [List.getD,Nat.le_of_not_lt hi] using hB
theorem Dig.replicate {B:Nat} (hB:0<B) (n:Nat):Dig B (List.replicate n 0):=fun x hx=>by rw[List.eq_of_mem_replicate hx];exact hB
theorem Dig.nil (B:Nat):Dig B []:=fun x hx=>by cases hx
def nz (xs:List Nat):Nat:=(xs.reverse.dropWhile (· == 0)).length
theorem nz_le (xs:List Nat):nz xs<=xs.length:=by
 unfold nz;have:=(List.dropWhile_suffix (p:=(· == 0)) (l:=xs.reverse)).length_le
 simpa using this
theorem nz_zero {xs:List Nat} {k:Nat} (h:k<xs.length) (h0:xs.getD k 0=0):nz (xs.take (k+1))=nz (xs.take k):=by
 unfold nz;rw[List.take_succ_eq_append_getElem h]
 simp[List.getD,h] at h0
 simp[h0]
theorem nz_pos {xs:List Nat} {k:Nat} (h:k<xs.length) (h0:xs.getD k 0≠0):nz (xs.take (k+1))=k+1:=by
 unfold nz;rw[List.take_succ_eq_append_getElem h]
 simp[List.getD,h] at h0
 have e:(xs[k]==0)=false:=by simpa using h0
 rw[List.reverse_append,List.reverse_singleton,List.singleton_append,List.dropWhile_cons,e]
 simp;omega
def dig (B:Nat) (n:Nat):List Nat:=
 if _h:2<=B/\0<n then n % B::dig B (n / B) else []
termination_by n
decreasing_by exact Nat.div_lt_self _h.2 (by omega)
theorem dig_zero (B:Nat):dig B 0=[]:=by unfold dig;simp
theorem dig_pos {B n:Nat} (hB:2<=B) (h:0<n):dig B n=n % B::dig B (n / B):=by rw[dig];simp[hB,h]
theorem val_dig {B:Nat} (hB:2<=B) (n:Nat):val B (dig B n)=n:=by
 induction n using Nat.strongRecOn with
 | ind n ih =>
  by_cases h:0<n
  ·rw[dig_pos hB h];simp only[val];rw[ih _ (Nat.div_lt_self h (by omega))];have:=Nat.mod_add_div n B;omega
  have:n=0:=by omega
  subst this;simp[dig_zero,val]
theorem Dig_dig {B:Nat} (hB:2<=B) (n:Nat):Dig B (dig B n):=by
 induction n using Nat.strongRecOn with
 | ind n ih =>
  by_cases h:0<n
  ·rw[dig_pos hB h];intro x hx;rcases List.mem_cons.1 hx with rfl | hx
   ·exact Nat.mod_lt _ (by omega)
   exact ih _ (Nat.div_lt_self h (by omega)) x hx
  have:n=0:=by omega
  subst this;simp[dig_zero,Dig]
theorem take_nz {B:Nat} (hB:2<=B) {xs:List Nat} (h:Dig B xs):xs.take (nz xs)=dig B (val B xs):=by
 induction xs with
 | nil=>simp[nz,val,dig_zero]
 | cons x xs ih =>
  have hx:x<B:=h x (by simp);have hd:Dig B xs:=fun y hy=>h y (by simp[hy])
  have ih':=ih hd
  by_cases hz:nz xs=0
  ·have hv:val B xs=0:=by
    have:dig B (val B xs)=[]:=by rw[<-ih',hz];rfl
    by_cases h0:0<val B xs
    ·rw[dig_pos hB h0] at this;cases this
    omega
   have hall:xs.reverse.dropWhile (· == 0)=[]:=List.eq_nil_of_length_eq_zero hz;simp only[val,hv,Nat.mul_zero,Nat.add_zero]
   have e:nz (x::xs)=if x=0 then 0 else 1:=by
    unfold nz;rw[List.reverse_cons,List.dropWhile_append,hall]
    by_cases hx0:x=0
    ·simp[hx0]
    simp[hx0,List.dropWhile]
    have:(x==0)=false:=by simpa using hx0
    simp[this]
   by_cases hx0:x=0
   ·rw[e,if_pos hx0,hx0,dig_zero];rfl
   rw[e,if_neg hx0,dig_pos hB (by omega),Nat.mod_eq_of_lt hx,Nat.div_eq_of_lt hx,dig_zero];rfl
  have hne:xs.reverse.dropWhile (· == 0) ≠ []:=fun e=>hz (by unfold nz;rw[e];rfl)
  have e:nz (x::xs)=nz xs+1:=by
   unfold nz;rw[List.reverse_cons,List.dropWhile_append,if_neg (by simpa using hne)]
   simp
  have hv:0<val B xs:=by
   rcases Nat.eq_zero_or_pos (val B xs) with h0 | h0
   ·rw[h0,dig_zero] at ih';have:=congrArg List.length ih'
    simp at this
    have hl:=nz_le xs;rcases this with h1 | h1
    ·omega
    subst h1;simp[nz] at hz
   exact h0
  have hv':0<x+B*val B xs:=by
   have h1:1<=B:=by omega
   have:=Nat.mul_le_mul h1 hv;omega
  rw[e,List.take_succ_cons,ih',val,dig_pos (n:=x+B*val B xs) hB hv'];rw[Nat.add_mul_mod_self_left,Nat.mod_eq_of_lt hx,Nat.add_mul_div_left _ _ (by omega),Nat.div_eq_of_lt hx,Nat.zero_add]
theorem dig_val_take {B:Nat} (hB:2<=B) {xs:List Nat} (h:Dig B xs):dig B (val B xs)=xs.take (nz xs):=(take_nz hB h).symm
theorem length_dig_val {B:Nat} (hB:2<=B) {xs:List Nat} (h:Dig B xs):(dig B (val B xs)).length=nz xs:=by
 rw[dig_val_take hB h,List.length_take];have:=nz_le xs;omega
theorem val_take_nz {B:Nat} (hB:2<=B) {xs:List Nat} (h:Dig B xs):val B (xs.take (nz xs))=val B xs:=by rw[take_nz hB h,val_dig hB]
theorem length_dig_le {B:Nat} (hB:2<=B) {n k:Nat} (h:n<B ^ k):(dig B n).length<=k:=by
 induction k generalizing n with
 | zero=>simp at h;subst h;simp[dig_zero]
 | succ k ih =>
  by_cases h0:0<n
  ·rw[dig_pos hB h0,lsc];have:n / B<B ^ k:=Nat.div_lt_of_lt_mul (by rw[Nat.pow_succ] at h;rw[Nat.mul_comm];exact h);have:=ih this;omega
  have:n=0:=by omega
  subst this;simp[dig_zero]
theorem lt_pow_of_length {B:Nat} (hB:2<=B) {n k:Nat} (h:(dig B n).length<=k):n<B ^ k:=by
 have h1:=val_lt (Dig_dig hB n);rw[val_dig hB] at h1;exact Nat.lt_of_lt_of_le h1 (Nat.pow_le_pow_right (by omega) h)
theorem le_of_length {B:Nat} (hB:2<=B) {n k:Nat} (h:k<(dig B n).length):B ^ k<=n:=by
 rcases Nat.lt_or_ge n (B ^ k) with h1 | h1
 ·have:=length_dig_le hB h1;omega
 exact h1
end Go.Proofs.YtkocdbgmckdcpaaGreatDoor
namespace Go.Proofs.YtkocdbgmckdcpaaGreatDoor
open Go.RowKit
set_option maxRecDepth 100000
def nth (xs:List Nat) (i:Nat):Int:=((xs.getD i 0:Nat):Int)
theorem nth_eq {xs:List Nat} {i:Nat} (h:i<xs.length):nth xs i=((xs[i]:Nat):Int):=by
 unfold nth;simp[List.getD,h]
def Sl (w:World) (k:IntKind) (v:Value) (xs:List Nat):Prop:=
 ∃ (ao:Option Addr) (cap:Nat),v=.slice ao xs.length cap/\xs.length<=cap/\cap<=9223372036854775807/\(ao=none->cap=0) /\
  ∀ i,i<xs.length->∃ a,ao=some a/\w.cell? (a.add i)=some (.int k (nth xs i))
theorem cell_lt {w:World} {a:Addr} {v:Value} (h:w.cell? a=some v):a.block<w.heap.size:=World.block_lt_of_cell? w a h
theorem Sl.nil (w:World) (k:IntKind):Sl w k (.slice none 0 0) []:=
 ⟨none,0,rfl,by simp,by omega,fun _=>rfl,fun i hi=>by simp at hi⟩
theorem Sl.below {w w':World} {k:IntKind} {v:Value} {xs:List Nat} (h:Sl w k v xs) (hb:Below w.heap.size w w'):Sl w' k v xs:=by
 obtain⟨ao,cap,rfl,h1,h2,h3,h4⟩:=h;refine⟨ao,cap,rfl,h1,h2,h3,fun i hi=>?_⟩;obtain⟨a,ha,hc⟩:=h4 i hi;exact⟨a,ha,by rw[hb.cell (cell_lt hc)];exact hc⟩
theorem Sl.take {w:World} {k:IntKind} {ao:Option Addr} {n cap:Nat} {xs:List Nat} (h:Sl w k (.slice ao n cap) xs) (m:Nat) (hm:m<=xs.length):Sl w k (.slice ao m cap) (xs.take m):=by
 obtain⟨ao',cap',e,h1,h2,h3,h4⟩:=h;injection e with e1 e2 e3;subst e1;subst e3;have hl:(xs.take m).length=m:=by simp;omega
 refine⟨ao,cap,by rw[hl],by rw[hl];omega,h2,h3,fun i hi=>?_⟩;rw[hl] at hi;obtain⟨a,ha,hc⟩:=h4 i (by omega);refine⟨a,ha,?_⟩;rw[hc];unfold nth
 simp[List.getD,hi]
def Blk (w:World) (g:Nat) (k:IntKind) (T:TypeId) (l:List Nat):Prop:=
 w.heap[g]?=some (.cells ((l.map fun (n:Nat)=>Value.int k ((n:Nat):Int)).toArray) T (0,0))
theorem Blk.lt {w:World} {g:Nat} {k:IntKind} {T:TypeId} {l:List Nat} (h:Blk w g k T l):g<w.heap.size:=lt_of_block h
theorem Blk.cell {w:World} {g:Nat} {k:IntKind} {T:TypeId} {l:List Nat} (h:Blk w g k T l) {i:Nat} (hi:i<l.length):w.cell? ⟨g,i,none⟩=some (.int k (nth l i)):=by
 rw[cell_of_row w g i _ T (0,0) h]
 simp[hi,nth_eq hi]
theorem Blk.frozen {w:World} {g:Nat} {k:IntKind} {T:TypeId} {l:List Nat} (h:Blk w g k T l) (i:Nat):w.frozen? ⟨g,i,none⟩=false:=frozen_of_row w g i _ T h
theorem Blk.set {w:World} {g:Nat} {k:IntKind} {T:TypeId} {l:List Nat} (h:Blk w g k T l) (i:Nat) (n:Nat) (z:Int) (hz:z=(n:Int)):Blk (w.setCell ⟨g,i,none⟩ (.int k z)) g k T (l.set i n):=by
 subst hz;unfold Blk;rw[heap_setCell_same w g i _ T _ h]
 simp[List.map_set]
theorem Blk.below {w w':World} {B g:Nat} {k:IntKind} {T:TypeId} {l:List Nat} (h:Blk w g k T l) (hg:Below B w w') (hB:g<B):Blk w' g k T l:=by
 unfold Blk at *;rw[hg.block g hB];exact h
theorem addr_at (g off i:Nat):(⟨g,off,none⟩:Addr).add i=⟨g,off+i,none⟩:=by simp[Addr.add]
theorem Blk.sl {w:World} {g:Nat} {k:IntKind} {T:TypeId} {l:List Nat} (h:Blk w g k T l) (off n cap:Nat) (hn:off+n<=l.length) (hc:n<=cap) (hm:cap<=9223372036854775807) :
  Sl w k (.slice (some ⟨g,off,none⟩) n cap) ((l.drop off).take n):=by
 have hl:((l.drop off).take n).length=n:=by simp;omega
 refine⟨some ⟨g,off,none⟩,cap,by rw[hl],by rw[hl];exact hc,hm,(fun e=>by cases e),fun i hi=>⟨_,rfl,?_⟩⟩;rw[hl] at hi;rw[addr_at,h.cell (i:=off+i) (by omega)];unfold nth
 simp[List.getD,hi]
theorem grown_setCell {w0 w:World} {g i:Nat} (h:w0.grownBy w (some g)) (v:Value):w0.grownBy (w.setCell ⟨g,i,none⟩ v) (some g):=
 ⟨h.os,h.tape,h.output,by simpa [World.setCell] using h.size,fun k hk hne=>by
  rw[Below.heap_setCell _ _ _ _ (fun e=>hne (by rw[e]))];exact h.block k hk hne⟩
theorem grown_drew {w0 w:World} {row:Option Nat} (h:w0.grownBy w row):w0.grownBy w.drew row:=⟨h.os,h.tape,h.output,h.size,h.block⟩
def Ws (w:World) (k:IntKind) (T:TypeId) (v:Value) (g:Nat) (pre s post:List Nat):Prop:=
 ∃ (ao:Option Addr) (cap:Nat),v=.slice ao s.length cap/\s.length<=cap/\cap<=9223372036854775807/\(ao=none->cap=0) /\
  (s.length≠0->ao=some ⟨g,pre.length,none⟩/\Blk w g k T (pre++s++post))
def WsAt (w:World) (k:IntKind) (T:TypeId) (ao:Option Addr) (g:Nat) (pre s post:List Nat) (n:Nat):Prop:=
 n≠0->ao=some ⟨g,pre.length,none⟩/\Blk w g k T (pre++s++post)
theorem u32_wf {xs:List Nat} (h:Dig 4294967296 xs) (i:Nat):0<=nth xs i/\nth xs i<4294967296:=by
 have h1:=h.getD (by omega) i;unfold nth;omega
theorem Sl.at {w:World} {k:IntKind} {b:Addr} {n c:Nat} {xs:List Nat} (h:Sl w k (.slice (some b) n c) xs) {i:Nat} (hi:i<xs.length):w.cell? (b.add i)=some (.int k (nth xs i)):=by
 obtain⟨_,_,e,_,_,_,q⟩:=h;injection e with e1 e2 e3;subst e1;obtain⟨b',e,q⟩:=q i hi;injection e with e;subst e;exact q
theorem Ws.sl {w:World} {k:IntKind} {T:TypeId} {v:Value} {g:Nat} {pre s post:List Nat} (h:Ws w k T v g pre s post):Sl w k v s:=by
 obtain⟨ao,cap,rfl,h1,h2,h3,h4⟩:=h;refine⟨ao,cap,rfl,h1,h2,h3,fun i hi=>?_⟩;obtain⟨rfl,hb⟩:=h4 (by omega);refine⟨_,rfl,?_⟩;rw[addr_at,hb.cell (by simp;omega)];unfold nth
 simp[List.getD,List.getElem?_append_left,List.getElem?_append_right,hi]
theorem nth_mid (pre s post:List Nat) (i:Nat) (h:i<s.length):nth (pre++s++post) (pre.length+i)=nth s i:=by
 unfold nth
 simp[List.getD,List.getElem?_append_left,List.getElem?_append_right,h]
theorem set_mid (pre s post:List Nat) (i n:Nat) (h:i<s.length):(pre++s++post).set (pre.length+i) n=pre++s.set i n++post:=by
 rw[List.append_assoc,List.set_append_right _ _ (by omega),List.set_append_left _ _ (by omega),List.append_assoc]
 simp
theorem heap_of_owns {w:World} {base:Nat} {e:TypeId} {g n cap:Nat} {xs:List Value} (h:w.ownsRow base e 1 (.slice (some ⟨g,0,none⟩) n cap) n xs) (hn:n=cap):w.heap[g]?=some (.cells xs.toArray e (0,0)):=by
 obtain⟨hl,h2⟩:=h;rcases h2 with ⟨e1,_⟩ | ⟨g',cap',cur,e1,_,hg,_,_,hs,ht⟩
 ·cases e1
 injection e1 with e1 e2 e3;injection e1 with e1;injection e1 with e1;subst e1;subst e3;subst hn;rw[hg,<-ht,Nat.mul_one]
 congr 2
 rw[List.take_of_length_le (by simp[hs])]
theorem wpList_make_blk {P:Program} (w:World) {ops:Array Oper} {rest:List Oper} {o:Oper} {a:Act} {Q:Exit->Act->World->Prop}
  (hg:o.guard=none) (l c:Operand) (t:TypeId) (hop:o.op=Op.makeSlice t l c)
  (e:TypeId) (i:TypeInfo) (k:IntKind) (h1:P.underlying t=some (.slice e)) (h2:P.info? e=some i) (h3:i.zero=some (.int k 0)) (h4:i.size=1)
  (kl kc:IntKind) (L C:Int) (n:Nat) (hl:a.eval l=.int kl L) (hc:a.eval c=.int kc C) (hL:L=(n:Int)) (hC:C=(n:Int)) (b2:i.bytes<=8) (b3:n<=35184372088832)
  (hK:∀ w',Blk w' w.heap.size k e (List.replicate n 0)->Below w.heap.size w w'->w.heap.size<w'.heap.size->wpList P ops Q rest (a.put o.dst (.slice (some ⟨w.heap.size,0,none⟩) n n)) w') :
  wpList P ops Q (o::rest) a w:=by
 have hb:i.bytes*n<=281474976710656:=Nat.le_trans (Nat.mul_le_mul b2 b3) (by omega);refine wpList_make_full w hg l c t hop w.heap.size e i (.int k 0) 1 h1 h2 h3 h4 kl kc L C n hl hc hL hC hb (by unfold maxLen;omega) (Nat.le_refl _) ?_;intro w' ho hgr;have hh:=heap_of_owns ho rfl
 have hB:Blk w' w.heap.size k e (List.replicate n 0):=by
  unfold Blk;rw[hh]
  have:(madeCells (Value.cells (.int k 0)) (n*1)).toList=List.replicate n (.int k 0):=by
   rw[Nat.mul_one];exact toList_madeCells_one _ _
  rw[this]
  simp
 exact hK w' hB ⟨hgr.os,hgr.tape,hgr.output,hgr.size,fun j hj=>hgr.block j hj (by simp)⟩ hB.lt
theorem cells_of_sl {w:World} {k:IntKind} {sp:Option Addr} {n c:Nat} {xs:List Nat} (h:Sl w k (.slice sp n c) xs) (m:Nat) (hm:m<=xs.length) (h0:0<m) :
  ∃ ad,sp=some ad/\∀ j v,((xs.take m).map fun (x:Nat)=>Value.int k ((x:Nat):Int))[j]?=some v->w.cell? (ad.add j)=some v:=by
 obtain⟨ao,cap,e,h1,h2,h3,h4⟩:=h;injection e with e1 e2 e3;subst e1;obtain⟨a,rfl,_⟩:=h4 0 (by omega);refine⟨a,rfl,fun j v hj=>?_⟩
 have hjl:j<m:=by
  have:=(List.getElem?_eq_some_iff.1 hj).1
  simp at this;omega
 obtain⟨b,e,q⟩:=h4 j (by omega);injection e with e;subst e;rw[q,<-hj]
 simp[hjl,nth_eq (show j<xs.length by omega),show j<xs.length by omega]
theorem sl_len {w:World} {k:IntKind} {sp:Option Addr} {n c:Nat} {xs:List Nat} (h:Sl w k (.slice sp n c) xs):n=xs.length:=by
 obtain⟨ao,cap,e,_⟩:=h;injection e
theorem ints_one (k:IntKind) (xs:List Nat):∀ u ∈ (xs.map fun (x:Nat)=>Value.int k ((x:Nat):Int)),u.oneCell'=true:=by
 intro u hu;obtain⟨x,_,rfl⟩:=List.mem_map.1 hu
 rfl
theorem wpList_copy_blk {P:Program} {w:World} {ops:Array Oper} {rest:List Oper} {o:Oper} {a:Act} {Q:Exit->Act->World->Prop} (hgd:o.guard=none) (d s:Operand) (dT sT:TypeId)
  (ho:o.op=.call { callee:=.builtin .copy,args:=#[d,s],argTypes:=#[dT,sT] }) (elem:TypeId) (hu:P.underlying dT=some (.slice elem)) (hsz:(P.info? elem).map (·.size)=some 1)
  (g n dCap:Nat) (sp:Option Addr) (sLen sCap:Nat) (hd:a.eval d=.slice (some ⟨g,0,none⟩) n dCap) (hs:a.eval s=.slice sp sLen sCap)
  (k:IntKind) (T:TypeId) (l xs:List Nat) (hB:Blk w g k T l) (hn:n=l.length) (hx:Sl w k (.slice sp sLen sCap) xs) (hle:xs.length<=n)
  (B:Nat) (w0:World) (hb:Below B w0 w) (hBg:B<=g)
  (h:∀ w',Blk w' g k T (xs++l.drop xs.length)->Below B w0 w'->wpList P ops Q rest (a.put o.dst (.int .i64 xs.length)) w') :
  wpList P ops Q (o::rest) a w:=by
 have hsl:=sl_len hx;have hmin:Nat.min sLen n=xs.length:=by rw[hsl];exact Nat.min_eq_left hle
 refine wpList_copy_splice hgd d s dT sT ho elem hu hsz (some ⟨g,0,none⟩) sp n dCap sLen sCap hd hs g 0 (l.map fun (x:Nat)=>Value.int k ((x:Nat):Int)) T hB (xs.map fun (x:Nat)=>Value.int k ((x:Nat):Int)) (by rw[hmin];simp) ?_ (by simp;omega) (ints_one k xs) B w0 hb hBg ?_
 ·intro h0;refine⟨rfl,?_⟩;have:=cells_of_sl hx xs.length (Nat.le_refl _) (by simpa using h0)
  rwa [List.take_length] at this
 intro w' hh hb'
 have:=h w' (by
  unfold Blk;rw[hh.out]
  congr 2
  simp[splice]) hb'
 simpa [goInt] using this
def Ow (w:World) (base:Nat) (k:IntKind) (T:TypeId) (v:Value) (xs:List Nat):Prop:=
 w.ownsRow base T 1 v xs.length (xs.map fun (x:Nat)=>Value.int k ((x:Nat):Int))
theorem Ow.nil (w:World) (base:Nat) (k:IntKind) (T:TypeId):Ow w base k T (.slice none 0 0) []:=World.ownsRow_nil w base T 1
theorem Ow.alloc {w:World} {base:Nat} {k:IntKind} {T:TypeId} {v:Value} {xs:List Nat} (h:Ow w base k T v xs) (o:Obj):Ow (w.alloc o) base k T v xs:=World.ownsRow.alloc h o
theorem Ow.sl {w:World} {base:Nat} {k:IntKind} {T:TypeId} {v:Value} {xs:List Nat} (h:Ow w base k T v xs):Sl w k v xs:=by
 have h':=h;obtain⟨h1,h2⟩:=h;rcases h2 with ⟨rfl,h2⟩ | ⟨g,cap,cur,rfl,hb,hg,hn,hm,hs,ht⟩
 ·have:xs=[]:=List.eq_nil_of_length_eq_zero h2;subst this;exact Sl.nil _ _
 refine⟨some ⟨g,0,none⟩,cap,rfl,hn,by unfold maxLen at hm;omega,(fun e=>by cases e),fun i hi=>⟨_,rfl,?_⟩⟩;rw[addr_at,Nat.zero_add,World.ownsRow.cellAt h' i (by omega)]
 simp[hi,nth_eq hi]
theorem Ow.base_le {w:World} {base:Nat} {k:IntKind} {T:TypeId} {v:Value} {xs:List Nat} (h:Ow w base k T v xs):∀ j,v.ownBlock=some j->base<=j:=fun j hj=>(World.ownsRow.lt h j hj).1
theorem wpList_append_one {P:Program} (w:World) {ops:Array Oper} {rest:List Oper} {o:Oper} {a:Act} {Q:Exit->Act->World->Prop} (hgd:o.guard=none) (s x:Operand) (t:TypeId)
  (ho:o.op=.call { callee:=.builtin .append,args:=#[s,x],argTypes:=#[t,t] })
  (e:TypeId) (i:TypeInfo) (k:IntKind) (ht:P.underlying t=some (.slice e)) (hi:P.info? e=some i) (hz:i.zero=some (.int k 0)) (hsize:i.size=1) (hby:i.bytes<=8)
  (base:Nat) (v:Value) (xs:List Nat) (hs:a.eval s=v) (hown:Ow w base k e v xs)
  (h:Nat) (z:Int) (n:Nat) (hx:a.eval x=.slice (some ⟨h,0,none⟩) 1 1) (hc:w.cell? ⟨h,0,none⟩=some (.int k z)) (hzn:z=(n:Int))
  (hlen:xs.length<=1000000000) (hbase:base<=w.heap.size)
  (hK:∀ v' w',Ow w' base k e v' (xs++[n])->Below base w w'->wpList P ops Q rest (a.put o.dst v') w'):wpList P ops Q (o::rest) a w:=by
 have hb2:(xs.length+1)*i.bytes<=140737488355328:=Nat.le_trans (Nat.mul_le_mul (show xs.length+1<=1000000001 by omega) hby) (by omega);refine wpList_append_own w hgd s x t ho base e i (.int k 0) 1 i.bytes ht hi hz hsize rfl rfl (by decide) v xs.length _ hs hown ⟨h,0,none⟩ 1 1 [.int k z] hx rfl ?_ ?_ (by unfold maxLen;omega) hb2 hbase ?_
 ·intro j u hj
  match j,hj with
  | 0,hj=>simp at hj;subst hj;simpa [Addr.add] using hc
 ·intro u hu;simp at hu;subst hu;rfl
 intro v' w' h1 h2 _;refine hK v' w' ?_ ⟨h2.os,h2.tape,h2.output,h2.size,fun j hj=>h2.block j (by omega) (fun e'=>?_)⟩
 ·unfold Ow;have:(xs++[n]).map (fun (x:Nat)=>Value.int k ((x:Nat):Int))=xs.map (fun (x:Nat)=>Value.int k ((x:Nat):Int))++[.int k z]:=by rw[hzn];simp
  rw[this,lsa];exact h1
 have:=hown.base_le j e'.symm
 omega
theorem sig_any (ao:Option Addr) (n cap:Nat) (xs:List Nat) (w:World) (h:Sl w .u32 (.slice ao n cap) xs) :
  Calls Tryz.prog 150 #[.slice ao n cap] w fun e w'=>e=.returned (.slice ao (nz xs) cap)/\w=w':=by
 have H:=Lib.hid h;obtain⟨ao',cap',e,h1,h2,h3,h4⟩:=h;injection e with e1 e2 e3;subst e1;subst e2;subst e3;go_enter Tryz.func150,Tryz.ntmps150
 go_wp2
 go_loop [3] (fun n=>∃ k:Nat,k<=xs.length/\n=.int .i64 k/\Hid (nz (xs.take k)=nz xs)) (fun n=>(intOf n).toNat)
 case atStart=>exact⟨xs.length,Nat.le_refl _,rfl,Lib.hid (by rw[List.take_length])⟩
 case round =>
  obtain⟨k,hk,rfl,Hn⟩:=hrel
  by_cases h0:0<k
  ·obtain⟨a,rfl,g⟩:=h4 (k-1) (by omega);clear h4
   go_wp2
   ·have hz:(nth xs (k - 1)==0)=true:=by assumption
    go_round
    case rel=>exact⟨k - 1,by omega,by go_num,Lib.hid (by rw[<-Hn.out,<-nz_zero (k:=k - 1) (by omega) (by have:=nth_eq (xs:=xs) (i:=k - 1) (by omega);simp at hz;unfold nth at hz;omega),show k - 1+1=k by omega])⟩
    case measure=>simp[intOf];omega
   have hz:(nth xs (k - 1)==0)=false:=by assumption
   have hk':k=nz xs:=by
    rw[<-Hn.out,show k=(k - 1)+1 by omega,nz_pos (by omega) (by simp at hz;unfold nth at hz;omega)]
   subst hk';go_ret
   exact⟨rfl,rfl⟩
  have hk':k=nz xs:=by
   rw[<-Hn.out,show k=0 by omega];rfl
  have HK:=Lib.hid hk';clear hk';have hk0:k=0:=by omega
  subst hk0
  go_wp2
  go_ret
  exact⟨by rw[<-HK.out];rfl,rfl⟩
def trimmedOf (ao:Option Addr) (cap:Nat) (xs:List Nat):Value:=if nz xs=0 then .slice none 0 0 else .slice ao (nz xs) cap
theorem trimmed_any (ao:Option Addr) (n cap:Nat) (xs:List Nat) (w:World) (h:Sl w .u32 (.slice ao n cap) xs) :
  Calls Tryz.prog 170 #[.slice ao n cap] w fun e w'=>e=.returned (trimmedOf ao cap xs)/\w=w':=by
 by_cases h0:nz xs=0
 ·have H0:=Lib.hid h0;clear h0;have hz:(((nz xs:Nat):Int)==0)=true:=by rw[H0.out];rfl
  go_enter Tryz.func170,Tryz.ntmps170
  go_wp2_with (go_at_call 150;refine (sig_any _ _ _ _ _ h).mono ?_;rintro e w' ⟨rfl,rfl⟩)
  go_ret
  exact⟨by unfold trimmedOf;rw[if_pos H0.out];rfl,rfl⟩
 have hz:(((nz xs:Nat):Int)==0)=false:=by simp;omega
 go_enter Tryz.func170,Tryz.ntmps170
 go_wp2_with (go_at_call 150;refine (sig_any _ _ _ _ _ h).mono ?_;rintro e w' ⟨rfl,rfl⟩)
 go_ret
 exact⟨by unfold trimmedOf;rw[if_neg h0];rfl,rfl⟩
theorem info51:(Tryz.prog.info? 204).map (fun i=>(i.zero,i.size,i.bytes))=some (some (.int .u32 0),1,4):=by kernel_rfl
theorem size51:(Tryz.prog.info? 204).map (·.size)=some 1:=by kernel_rfl
theorem padded_any (ao:Option Addr) (m cap:Nat) (xs:List Nat) (n:Nat) (z:Int) (w:World) (h:Sl w .u32 (.slice ao m cap) xs) (hn:xs.length<=n) (hb:n<=1073741824) (hzn:z=(n:Int)) :
  Calls Tryz.prog 177 #[.slice ao m cap,.int .i64 z] w fun e w'=>∃ v,e=.returned v/\Ws w' .u32 204 v w.heap.size [] (xs++List.replicate (n - xs.length) 0) []/\Below w.heap.size w w'/\(n≠0->w.heap.size<w'.heap.size):=by
 subst hzn
 by_cases h0:n=0
 ·subst h0;have hx:xs=[]:=List.eq_nil_of_length_eq_zero (by omega);subst hx;go_enter Tryz.func177,Tryz.ntmps177
  go_wp2
  go_ret
  exact⟨_,rfl,⟨none,0,rfl,by simp,by omega,fun _=>rfl,fun e=>by simp at e⟩,Below.refl _ _,fun e=>absurd rfl e⟩
 obtain⟨i0,hi,hz0,hz1,hz2⟩:=info_parts info51;have hz:(((n:Nat):Int)==0)=false:=by simp;omega
 go_enter Tryz.func177,Tryz.ntmps177
 go_wp2_with (at_make;refine wpList_make_blk _ rfl _ _ 42 rfl 204 i0 .u32 Tryz.underlying42 hi hz0 hz1 _ _ _ _ n rfl rfl rfl rfl ?b2 ?b3 ?_)
 case b2=>omega
 case b3=>omega
 intro w1 hB1 hb1 hs1;go_wp2_with (with_reducible refine wpList_copy_blk rfl (.tmp 10) (.tmp 11) 42 42 rfl 204 Tryz.underlying42 size51 w.heap.size n n ao m cap rfl rfl .u32 204 _ xs hB1 ?c1 (h.below hb1) hn w.heap.size w hb1 (Nat.le_refl _) ?_)
 case c1=>simp
 intro w2 hB2 hb2
 go_wp2
 go_ret
 refine⟨_,rfl,?_,hb2,fun _=>hB2.lt⟩;refine⟨some ⟨w.heap.size,0,none⟩,n,?_,?_,by omega,(fun e=>by cases e),fun _=>⟨rfl,?_⟩⟩
 ·simp;omega
 ·simp;omega
 simpa using hB2
abbrev L32:Nat:=4294967296
def cmpN (a b:Nat):Int:=if a<b then -1 else if a=b then 0 else 1
theorem cmp_len {xs ys:List Nat} (hx:Dig L32 xs) (hy:Dig L32 ys) (h:nz xs<nz ys):val L32 xs<val L32 ys:=by
 have h1:=length_dig_val (B:=L32) (by decide) hx;have h2:=length_dig_val (B:=L32) (by decide) hy;exact Nat.lt_of_lt_of_le (lt_pow_of_length (B:=L32) (k:=nz xs) (by decide) (by omega)) (le_of_length (by decide) (by omega))
theorem val_split (B:Nat) (xs:List Nat) (k:Nat) (h:k<=xs.length):val B xs=val B (xs.take k)+B ^ k*val B (xs.drop k):=by
 have:=val_append B (xs.take k) (xs.drop k);rw[List.take_append_drop] at this;rw[this,List.length_take,Nat.min_eq_left h]
theorem cmp_top {B:Nat} {xs ys:List Nat} {k:Nat} (hx:Dig B xs) (hk:k<xs.length) (hk':k<ys.length) (he:xs.drop (k+1)=ys.drop (k+1)) (h:xs.getD k 0<ys.getD k 0):val B xs<val B ys:=by
 rw[val_split B xs (k+1) (by omega),val_split B ys (k+1) (by omega),he,val_take_succ B xs k hk,val_take_succ B ys k hk'];have h1:=val_lt (hx.take k);rw[List.length_take,Nat.min_eq_left (by omega)] at h1;have h2:(xs.getD k 0+1)*B ^ k<=ys.getD k 0*B ^ k:=Nat.mul_le_mul_right _ h;rw[Nat.add_mul,Nat.one_mul] at h2
 omega
theorem drop_step {xs ys:List Nat} {k:Nat} (hk:k<xs.length) (hk':k<ys.length) (he:xs.drop (k+1)=ys.drop (k+1)) (h:xs.getD k 0=ys.getD k 0):xs.drop k=ys.drop k:=by
 rw[List.drop_eq_getElem_cons hk,List.drop_eq_getElem_cons hk',he]
 congr 1
 simpa [List.getD,hk,hk'] using h
theorem cmpN_lt {a b:Nat} (h:a<b):cmpN a b = -1:=by unfold cmpN;rw[if_pos h]
theorem cmpN_gt {a b:Nat} (h:b<a):cmpN a b=1:=by unfold cmpN;rw[if_neg (by omega),if_neg (by omega)]
theorem cmpN_eq {a b:Nat} (h:a=b):cmpN a b=0:=by unfold cmpN;rw[if_neg (by omega),if_pos h]
theorem below_drewN' (w:World) (n:Nat) (B:Nat):Below B w (w.drewN n):=⟨rfl,rfl,rfl,Nat.le_refl _,fun _ _=>rfl⟩
theorem calm_behind {P:Program} {f:FuncId} {args:Array Value} {w:World} {a b:Nat} {v:Value} (h:∀ W:World,Calls P f args W fun e w'=>e=.returned v/\w'=W) :
  Calls P f args (w.drewN (a+b)) fun e w'=>e=.returned v/\∃ m,w'=w.drewN (a+m):=
 (h (w.drewN (a+b))).mono fun _ _ hh=>⟨hh.1,b,hh.2⟩
theorem order_t (w:World):Calls Tryz.prog 151 #[.bool true] w fun e w'=>e=.returned (.int .i64 (-1))/\w'=w:=by
 go_enter Tryz.func151,Tryz.ntmps151
 go_wp2
 go_ret
 exact⟨rfl,rfl⟩
theorem order_f (w:World):Calls Tryz.prog 151 #[.bool false] w fun e w'=>e=.returned (.int .i64 1)/\w'=w:=by
 go_enter Tryz.func151,Tryz.ntmps151
 go_wp2
 go_ret
 exact⟨rfl,rfl⟩
theorem cmp_any (va vb:Value) (xs ys:List Nat) (w:World) (hx:Sl w .u32 va xs) (hy:Sl w .u32 vb ys) (dx:Dig L32 xs) (dy:Dig L32 ys) :
  Calls Tryz.prog 129 #[va,vb] w fun e w'=>e=.returned (.int .i64 (cmpN (val L32 xs) (val L32 ys)))/\Below w.heap.size w w':=by
 have HX:=Lib.hid hx;have HY:=Lib.hid hy;obtain⟨ao,ac,rfl,a1,a2,a3,a4⟩:=hx;obtain⟨bo,bc,rfl,b1,b2,b3,b4⟩:=hy;have nx:=nz_le xs;have ny:=nz_le ys
 by_cases hne:nz xs=nz ys
 ·have hne':(((nz xs:Nat):Int) != ((nz ys:Nat):Int))=false:=by simp[hne]
  have HN:=Lib.hid hne;clear hne;have hny:nz xs<=nz ys/\nz ys<=nz xs:=by have:=HN.out;omega
  go_enter Tryz.func129,Tryz.ntmps129
  go_wp2_with fail
  refine (sig_any _ _ _ xs _ HX.out).mono ?_;rintro e w' ⟨rfl,rfl⟩;go_wp2_with fail
  refine (sig_any _ _ _ ys _ HY.out).mono ?_;rintro e w' ⟨rfl,rfl⟩;go_wp2_with fail
  go_loopw [5] (fun i wr=>∃ k:Nat,k<=nz xs/\i=.int .i64 ((k:Int) - 1)/\Hid ((xs.take (nz xs)).drop k=(ys.take (nz ys)).drop k)/\Below w.heap.size w wr) (fun i _=>(intOf i+1).toNat)
  case atStart=>exact⟨nz xs,Nat.le_refl _,rfl,Lib.hid (by rw[HN.out,List.drop_eq_nil_of_le (by simp;omega),List.drop_eq_nil_of_le (by simp;omega)]),Below.refl _ _⟩
  case round =>
   obtain⟨k,hk,rfl,HD,hb⟩:=hrel
   by_cases h0:0<k
   ·obtain⟨a,rfl,hca⟩:=a4 (k - 1) (by omega);obtain⟨b,rfl,hcb⟩:=b4 (k - 1) (by omega);have hca':wr.cell? (a.add (k - 1))=some (.int .u32 (nth xs (k - 1))):=by rw[hb.cell (cell_lt hca)];exact hca
    have hcb':wr.cell? (b.add (k - 1))=some (.int .u32 (nth ys (k - 1))):=by rw[hb.cell (cell_lt hcb)];exact hcb
    have gx:(xs.take (nz xs)).getD (k - 1) 0=xs.getD (k - 1) 0:=by simp[List.getD,show k - 1<nz xs by omega]
    have gy:(ys.take (nz ys)).getD (k - 1) 0=ys.getD (k - 1) 0:=by simp[List.getD,show k - 1<nz ys by omega]
    have lx:(xs.take (nz xs)).length=nz xs:=by simp;omega
    have ly:(ys.take (nz ys)).length=nz ys:=by simp;omega
    have HD':Hid ((xs.take (nz xs)).drop (k - 1+1)=(ys.take (nz ys)).drop (k - 1+1)):=Lib.hid (by rw[show k - 1+1=k by omega];exact HD.out);have GX:=Lib.hid gx;have GY:=Lib.hid gy;have LX:=Lib.hid lx;have LY:=Lib.hid ly;clear gx gy lx ly hca hcb a4 b4
    by_cases he:xs.getD (k - 1) 0=ys.getD (k - 1) 0
    ·have he':(nth xs (k - 1) != nth ys (k - 1))=false:=by simp only[nth,he];exact bne_self_eq_false _
     have HE:=Lib.hid he;clear he;go_wp2_with fail
     go_quiet (fail)
     go_wp2_with fail
     go_roundw
     case rel=>exact⟨k - 1,by omega,by go_num,Lib.hid (drop_step (by have:=LX.out;omega) (by have:=LY.out;omega) HD'.out (by rw[GX.out,GY.out,HE.out])),hb.trans (below_drewN' _ _ _)⟩
     case measure=>simp[intOf];omega
    have he':(nth xs (k - 1) != nth ys (k - 1))=true:=by simp only[nth,bne_iff_ne];omega
    rcases Nat.lt_or_gt_of_ne he with hlt | hgt
    ·have hd:nth xs (k - 1)<nth ys (k - 1):=by unfold nth;omega
     have hfin:cmpN (val L32 xs) (val L32 ys) = -1:=by
      have:=cmp_top (B:=L32) (dx.take (nz xs)) (ys:=ys.take (nz ys)) (k:=k - 1) (by have:=LX.out;omega) (by have:=LY.out;omega) HD'.out (by rw[GX.out,GY.out];exact hlt);rw[val_take_nz (by decide) dx,val_take_nz (by decide) dy] at this;exact cmpN_lt this
     have HF:=Lib.hid hfin;clear he hlt hfin;go_wp2_with fail
     go_quiet (fail)
     go_wp2_with fail
     go_quiet ((go_at_call 151;exact calm_behind order_t))
     go_wp2_with fail
     go_ret
     exact⟨by rw[HF.out];rfl,(hb.trans (below_drewN' _ _ _)).trans (below_drewN' _ _ _)⟩
    have hd:nth ys (k - 1)<nth xs (k - 1):=by unfold nth;omega
    have hd':decide (nth xs (k - 1)<nth ys (k - 1))=false:=by simp;omega
    have hfin:cmpN (val L32 xs) (val L32 ys)=1:=by
     have:=cmp_top (B:=L32) (dy.take (nz ys)) (ys:=xs.take (nz xs)) (k:=k - 1) (by have:=LY.out;omega) (by have:=LX.out;omega) HD'.out.symm (by rw[GX.out,GY.out];exact hgt);rw[val_take_nz (by decide) dx,val_take_nz (by decide) dy] at this;exact cmpN_gt this
    have HF:=Lib.hid hfin;clear he hgt hfin;go_wp2_with fail
    go_quiet (fail)
    go_wp2_with fail
    go_quiet ((go_at_call 151;exact (calm_behind order_f)))
    go_wp2_with fail
    go_ret
    exact⟨by rw[HF.out];rfl,(hb.trans (below_drewN' _ _ _)).trans (below_drewN' _ _ _)⟩
   have hfin:cmpN (val L32 xs) (val L32 ys)=0:=by
    have hd:=HD.out;rw[show k=0 by omega,List.drop_zero,List.drop_zero] at hd;exact cmpN_eq (by rw[<-val_take_nz (by decide) dx,hd,val_take_nz (by decide) dy])
   have HF:=Lib.hid hfin;clear hfin;go_wp2_with fail
   go_ret
   exact⟨by rw[HF.out];rfl,hb⟩
 have hne':(((nz xs:Nat):Int) != ((nz ys:Nat):Int))=true:=by rw[bne_iff_ne];omega
 rcases Nat.lt_or_gt_of_ne hne with hlt | hgt
 ·have HF:=Lib.hid (cmpN_lt (cmp_len dx dy hlt));clear hne;go_enter Tryz.func129,Tryz.ntmps129
  go_wp2_with fail
  refine (sig_any _ _ _ xs _ HX.out).mono ?_;rintro e w' ⟨rfl,rfl⟩;go_wp2_with fail
  refine (sig_any _ _ _ ys _ HY.out).mono ?_;rintro e w' ⟨rfl,rfl⟩;go_wp2_with fail
  refine (order_t _).mono ?_;rintro e w' ⟨rfl,rfl⟩;go_wp2_with fail
  go_ret
  exact⟨by rw[HF.out];rfl,Below.refl _ _⟩
 have HF:=Lib.hid (cmpN_gt (cmp_len dy dx hgt));have hd:decide (nz xs<nz ys)=false:=by simp;omega
 clear hne;go_enter Tryz.func129,Tryz.ntmps129
 go_wp2_with fail
 refine (sig_any _ _ _ xs _ HX.out).mono ?_;rintro e w' ⟨rfl,rfl⟩;go_wp2_with fail
 refine (sig_any _ _ _ ys _ HY.out).mono ?_;rintro e w' ⟨rfl,rfl⟩;go_wp2_with fail
 refine (order_f _).mono ?_;rintro e w' ⟨rfl,rfl⟩;go_wp2_with fail
 go_ret
 exact⟨by rw[HF.out];rfl,Below.refl _ _⟩
theorem trimmed_sl {w:World} {ao:Option Addr} {n cap:Nat} {xs:List Nat} (h:Sl w .u32 (.slice ao n cap) xs) (hd:Dig L32 xs):Sl w .u32 (trimmedOf ao cap xs) (dig L32 (val L32 xs)):=by
 rw[<-take_nz (by decide) hd];unfold trimmedOf
 by_cases h0:nz xs=0
 ·rw[if_pos h0,h0];exact Sl.nil _ _
 rw[if_neg h0];exact h.take _ (nz_le xs)
theorem Ws.at {w:World} {k:IntKind} {T:TypeId} {v:Value} {g:Nat} {pre s post:List Nat} (h:Ws w k T v g pre s post):∃ ao cap,v=.slice ao s.length cap:=by
 obtain⟨ao,cap,e,_⟩:=h;exact⟨ao,cap,e⟩
theorem below_of_grown' {B:Nat} {a b:World} {g:Nat} (h:a.grownBy b (some g)) (hg:B<=g) (hB:B<=a.heap.size:=by omega):Below B a b:=
 ⟨h.os,h.tape,h.output,h.size,fun k hk=>h.block k (by omega) (fun e=>by injection e with e;omega)⟩
theorem sl_shape {w:World} {k:IntKind} {v:Value} {xs:List Nat} (h:Sl w k v xs):∃ ao cap,v=.slice ao xs.length cap:=by
 obtain⟨ao,cap,e,_⟩:=h;exact⟨ao,cap,e⟩
theorem trim_any (va:Value) (xs:List Nat) (w:World) (hx:Sl w .u32 va xs) (dx:Dig L32 xs) (lx:xs.length<=1000000) :
  Calls Tryz.prog 169 #[va] w fun e w'=>∃ v,e=.returned v/\Ws w' .u32 204 v w.heap.size [] (dig L32 (val L32 xs)) []/\Below w.heap.size w w':=by
 obtain⟨ao,ac,rfl⟩:=sl_shape hx;have nx:=nz_le xs;have hx':=hx.take (nz xs) nx;have EX:=Lib.hid (show (xs.take (nz xs)).length=nz xs by simp;omega);go_enter Tryz.func169,Tryz.ntmps169
 go_wp2_with fail
 refine (sig_any _ _ _ xs _ hx).mono ?_;rintro e w' ⟨rfl,rfl⟩;go_wp2_with fail
 refine (padded_any ao _ ac _ (nz xs) _ w hx' (by rw[EX.out];omega) (by omega) (by omega)).mono ?_;rintro e w1 ⟨v1,rfl,hs1,hb1,hz1⟩;go_wp2_with fail
 go_ret
 refine⟨_,rfl,?_,hb1⟩;rw[EX.out,Nat.sub_self,List.replicate_zero,List.append_nil,take_nz (by decide) dx] at hs1;exact hs1
def lenOfV:Value->Nat | .slice _ n _=>n | _=>0
theorem getD_out {xs:List Nat} {i:Nat} (h:xs.length<=i):xs.getD i 0=0:=by simp[List.getD,h]
theorem val_take_succ' (B:Nat) (xs:List Nat) (k:Nat):val B (xs.take (k+1))=val B (xs.take k)+xs.getD k 0*B ^ k:=by
 by_cases h:k<xs.length
 ·exact val_take_succ B xs k h
 rw[getD_out (by omega),List.take_of_length_le (by omega),List.take_of_length_le (by omega)];simp
theorem dig_last {B n:Nat} (hB:2<=B) (h:0<(dig B n).length):(dig B n).getD ((dig B n).length - 1) 0≠0:=by
 intro h0;have h1:=take_nz hB (Dig_dig hB n);rw[val_dig hB] at h1;have h2:=congrArg List.length h1;rw[List.length_take] at h2;have h3:=nz_zero (xs:=dig B n) (k:=(dig B n).length - 1) (by omega) h0;rw[show (dig B n).length - 1+1=(dig B n).length by omega,List.take_length] at h3;have h4:=nz_le ((dig B n).take ((dig B n).length - 1));rw[List.length_take] at h4
 omega
end Go.Proofs.YtkocdbgmckdcpaaGreatDoor
namespace Go.Proofs
open Go.Shelf
def Tryz.lays169_ren:Go.Shelf.Ren:=⟨fun | 169=>22 | n=>n,fun | 70=>62 | 9=>9 | 0=>0 | 72=>65 | 37=>63 | 127=>107 | 3=>3 | 5=>5 | n=>n,fun | n=>n⟩
theorem Tryz.lays169:Go.Proofs.Lays.n169 Tryz.prog Tryz.lays169_ren:={
 mixed:=by kernel_rfl
 f169:=Tryz.func22.trans (congrArg some (by kernel_rfl))
 t0:=Tryz.underlying0
 a0:=Tryz.isAgg0
 z0:=Tryz.sizeOf0
 v0:=Tryz.zeroValue0
 t3:=Tryz.underlying3
 a3:=Tryz.isAgg3
 z3:=Tryz.sizeOf3
 v3:=Tryz.zeroValue3
 t9:=Tryz.underlying9
 a9:=Tryz.isAgg9
 z9:=Tryz.sizeOf9
 v9:=Tryz.zeroValue9
 t37:=Tryz.underlying63
 a37:=Tryz.isAgg63
 z37:=Tryz.sizeOf63
 v37:=Tryz.zeroValue63
 t70:=Tryz.underlying62
 a70:=Tryz.isAgg62
 z70:=Tryz.sizeOf62
 v70:=Tryz.zeroValue62
 t72:=Tryz.underlying65
 a72:=Tryz.isAgg65
 z72:=Tryz.sizeOf65
 v72:=Tryz.zeroValue65
 t127:=Tryz.underlying107
 a127:=Tryz.isAgg107
 z127:=Tryz.sizeOf107
 v127:=Tryz.zeroValue107 }
theorem Tryz.Builder_Extra_169:Builder.Extra Tryz.prog Tryz.lays169_ren:={
 sizeBuilder:=by kernel_rfl
 liesBuilder:=by kernel_rfl
 t5:=Tryz.underlying5
 a5:=Tryz.isAgg5
 z5:=Tryz.sizeOf5
 v5:=Tryz.zeroValue5
 infoByte:=by kernel_rfl
 cellsByte:=by kernel_rfl
 sizeByte:=by kernel_rfl
 neB5:=by decide }
open Go.RowKit in
theorem Tryz.Builder_String_any (B b:Nat) (l:List UInt8) (w:World) (h:Lib.IsBuilder 65 5 B b (Lib.byteCells l) w) (hBw:B<=w.heap.size) :
  Calls Tryz.prog 22 #[.pointer (some ⟨b,0,none⟩)] w fun e w'=>e=.returned (.string ⟨l.toArray⟩)/\Below B w w':=Any.Builder_String_any Tryz.lays169 Tryz.Builder_Extra_169 B b l w h hBw
def Tryz.lays128_ren:Go.Shelf.Ren:=⟨fun | 128=>163 | n=>n,fun | 51=>204 | 3=>3 | 4=>4 | 46=>210 | 5=>5 | 9=>9 | n=>n,fun | n=>n⟩
theorem Tryz.lays128:Go.Proofs.Lays.n128 Tryz.prog Tryz.lays128_ren:={
 mixed:=by kernel_rfl
 f128:=Tryz.func163.trans (congrArg some (by kernel_rfl))
 t3:=Tryz.underlying3
 a3:=Tryz.isAgg3
 z3:=Tryz.sizeOf3
 v3:=Tryz.zeroValue3
 t4:=Tryz.underlying4
 a4:=Tryz.isAgg4
 z4:=Tryz.sizeOf4
 v4:=Tryz.zeroValue4
 t5:=Tryz.underlying5
 a5:=Tryz.isAgg5
 z5:=Tryz.sizeOf5
 v5:=Tryz.zeroValue5
 t9:=Tryz.underlying9
 a9:=Tryz.isAgg9
 z9:=Tryz.sizeOf9
 v9:=Tryz.zeroValue9
 t46:=Tryz.underlying210
 a46:=Tryz.isAgg210
 z46:=Tryz.sizeOf210
 v46:=Tryz.zeroValue210
 t51:=Tryz.underlying204
 a51:=Tryz.isAgg204
 z51:=Tryz.sizeOf204
 v51:=Tryz.zeroValue204 }
theorem Tryz.bits_Len32 (x:Int) (w:World) (h0:0<=x) (h1:x<=4294967295) :
  Calls Tryz.prog 163 #[.int .u32 x] w fun e w'=>e=.returned (.int .i64 (Lib.bitLen x.toNat))/\w'=w:=Any.bits_Len32 Tryz.lays128 x w h0 h1
def Tryz.lays137_ren:Go.Shelf.Ren:=⟨fun | 137=>141 | 217=>159 | 266=>168 | n=>n,fun | 9=>9 | 5=>5 | 3=>3 | n=>n,fun | n=>n⟩
theorem Tryz.lays137:Go.Proofs.Lays.n137 Tryz.prog Tryz.lays137_ren:={
 mixed:=by kernel_rfl
 f137:=Tryz.func141.trans (congrArg some (by kernel_rfl))
 f217:=Tryz.func159.trans (congrArg some (by kernel_rfl))
 f266:=Tryz.func168.trans (congrArg some (by kernel_rfl))
 t3:=Tryz.underlying3
 a3:=Tryz.isAgg3
 z3:=Tryz.sizeOf3
 v3:=Tryz.zeroValue3
 t5:=Tryz.underlying5
 a5:=Tryz.isAgg5
 z5:=Tryz.sizeOf5
 v5:=Tryz.zeroValue5
 t9:=Tryz.underlying9
 a9:=Tryz.isAgg9
 z9:=Tryz.sizeOf9
 v9:=Tryz.zeroValue9 }
open Go.RowKit in
theorem Tryz.strings_IndexByte (s:ByteArray) (c:Int) (w:World) :
  Calls Tryz.prog 141 #[.string s,.int .u8 c] w fun e w'=>e=.returned (.int .i64 (Lib.indexByte s.data.toList c.toNat.toUInt8))/\w'=w:=Any.strings_IndexByte Tryz.lays137 s c w
def Tryz.lays210_ren:Go.Shelf.Ren:=⟨fun | 210=>173 | 206=>160 | n=>n,fun | 9=>9 | 4=>4 | 3=>3 | n=>n,fun | n=>n⟩
def Tryz.lays283_ren:Go.Shelf.Ren:=⟨fun | 283=>178 | n=>n,fun | 3=>3 | 9=>9 | 4=>4 | n=>n,fun | n=>n⟩
theorem Tryz.lays283:Go.Proofs.Lays.n283 Tryz.prog Tryz.lays283_ren:={
 mixed:=by kernel_rfl
 f283:=Tryz.func178.trans (congrArg some (by kernel_rfl))
 t3:=Tryz.underlying3
 a3:=Tryz.isAgg3
 z3:=Tryz.sizeOf3
 v3:=Tryz.zeroValue3
 t4:=Tryz.underlying4
 a4:=Tryz.isAgg4
 z4:=Tryz.sizeOf4
 v4:=Tryz.zeroValue4
 t9:=Tryz.underlying9
 a9:=Tryz.isAgg9
 z9:=Tryz.sizeOf9
 v9:=Tryz.zeroValue9 }
open Go.Lib in
theorem Tryz.internal_strconv_small (i:Nat) (h:i<100) (w:World) :
  Calls Tryz.prog 178 #[.int .i64 i] w fun e w'=>e=.returned (.string ⟨(Lib.decDigits i).toArray⟩)/\w'=w:=Any.internal_strconv_small Tryz.lays283 i h w
def Tryz.laysM284_ren:Go.Shelf.Ren:=⟨fun | 284=>179 | 129=>183 | 317=>182 | 318=>184 | n=>n,fun | 53=>235 | 3=>3 | 212=>253 | 0=>0 | 4=>4 | 46=>210 | 5=>5 | 9=>9 | n=>n,fun | 17=>6 | n=>n⟩
theorem Tryz.laysM284:Go.Proofs.LaysM.n284 Tryz.prog Tryz.laysM284_ren:={
 mixed:=by kernel_rfl
 f129:=Tryz.func183.trans (congrArg some (by kernel_rfl))
 f284:=Tryz.func179.trans (congrArg some (by kernel_rfl))
 f317:=Tryz.func182.trans (congrArg some (by kernel_rfl))
 f318:=Tryz.func184.trans (congrArg some (by kernel_rfl))
 t0:=Tryz.underlying0
 a0:=Tryz.isAgg0
 z0:=Tryz.sizeOf0
 v0:=Tryz.zeroValue0
 t3:=Tryz.underlying3
 a3:=Tryz.isAgg3
 z3:=Tryz.sizeOf3
 v3:=Tryz.zeroValue3
 t4:=Tryz.underlying4
 a4:=Tryz.isAgg4
 z4:=Tryz.sizeOf4
 v4:=Tryz.zeroValue4
 t5:=Tryz.underlying5
 a5:=Tryz.isAgg5
 z5:=Tryz.sizeOf5
 v5:=Tryz.zeroValue5
 t9:=Tryz.underlying9
 a9:=Tryz.isAgg9
 z9:=Tryz.sizeOf9
 v9:=Tryz.zeroValue9
 t46:=Tryz.underlying210
 a46:=Tryz.isAgg210
 z46:=Tryz.sizeOf210
 v46:=Tryz.zeroValue210
 t53:=Tryz.underlying235
 a53:=Tryz.isAgg235
 z53:=Tryz.sizeOf235
 v53:=Tryz.zeroValue235
 t212:=Tryz.underlying253
 a212:=Tryz.isAgg253
 z212:=Tryz.sizeOf253
 v212:=Tryz.zeroValue253
 g17:=by kernel_rfl
 i0:=by kernel_rfl
 i3:=by kernel_rfl
 i4:=by kernel_rfl
 i5:=by kernel_rfl
 i9:=by kernel_rfl
 i46:=by kernel_rfl
 i53:=by kernel_rfl
 i212:=by kernel_rfl
 m17:=by kernel_rfl }
open Go.Lib in
theorem Tryz.internal_strconv_numDigits (u : Nat) (h1 : 1 ≤ u) (h2 : u < 18446744073709551616) (w : World) (htab : Lib.TabIs Tryz.prog w "internal/strconv.uint64pow10" .u64 Lib.pow10Tab) :
  Calls Tryz.prog 179 #[.int .u64 u] w fun e w'=>e=.returned (.int .i64 (Lib.nDigits u))/\w'=w:=Any.internal_strconv_numDigits Tryz.laysM284 u h1 h2 w htab
def Tryz.lays285_ren:Go.Shelf.Ren:=⟨fun | 285=>180 | n=>n,fun | 37=>63 | 53=>235 | 3=>3 | 4=>4 | 51=>204 | 9=>9 | 5=>5 | 0=>0 | n=>n,fun | n=>n⟩
theorem Tryz.lays285:Go.Proofs.Lays.n285 Tryz.prog Tryz.lays285_ren:={
 mixed:=by kernel_rfl
 f285:=Tryz.func180.trans (congrArg some (by kernel_rfl))
 t0:=Tryz.underlying0
 a0:=Tryz.isAgg0
 z0:=Tryz.sizeOf0
 v0:=Tryz.zeroValue0
 t3:=Tryz.underlying3
 a3:=Tryz.isAgg3
 z3:=Tryz.sizeOf3
 v3:=Tryz.zeroValue3
 t4:=Tryz.underlying4
 a4:=Tryz.isAgg4
 z4:=Tryz.sizeOf4
 v4:=Tryz.zeroValue4
 t5:=Tryz.underlying5
 a5:=Tryz.isAgg5
 z5:=Tryz.sizeOf5
 v5:=Tryz.zeroValue5
 t9:=Tryz.underlying9
 a9:=Tryz.isAgg9
 z9:=Tryz.sizeOf9
 v9:=Tryz.zeroValue9
 t37:=Tryz.underlying63
 a37:=Tryz.isAgg63
 z37:=Tryz.sizeOf63
 v37:=Tryz.zeroValue63
 t51:=Tryz.underlying204
 a51:=Tryz.isAgg204
 z51:=Tryz.sizeOf204
 v51:=Tryz.zeroValue204
 t53:=Tryz.underlying235
 a53:=Tryz.isAgg235
 z53:=Tryz.sizeOf235
 v53:=Tryz.zeroValue235 }
open Go.RowKit Go.Sort Go.Lib in
theorem Tryz.internal_strconv_formatBase10 (blk off cap:Nat) (u:Nat) (d:Array UInt8) (w:World) (hH:Holds (fun (b:UInt8)=>Value.int .u8 (b.toNat:Int)) w blk off d) (hu:u<10 ^ d.size) (hu64:u<18446744073709551616) (hsz:d.size<4611686018427387904) :
  Calls Tryz.prog 180 #[.slice (some ⟨blk,off,none⟩) d.size cap,.int .u64 u] w fun e w' =>
   e=.returned (.tuple #[])/\∃ (n v':Nat) (dk:Array UInt8),w'=(putRow (fun (b:UInt8)=>Value.int .u8 (b.toNat:Int)) w blk off dk).drewN n/\FmtInv d.size u 0 v' dk:=Any.internal_strconv_formatBase10 Tryz.lays285 blk off cap u d w hH hu hu64 hsz
def Tryz.laysM316_ren:Go.Shelf.Ren:=⟨fun | 316=>123 | n=>n,fun | 9=>9 | 3=>3 | 4=>4 | 37=>63 | 0=>0 | 127=>107 | 5=>5 | n=>n,fun | n=>n⟩
theorem Tryz.laysM316:Go.Proofs.LaysM.n316 Tryz.prog Tryz.laysM316_ren:={
 mixed:=by kernel_rfl
 f316:=Tryz.func123.trans (congrArg some (by kernel_rfl))
 t0:=Tryz.underlying0
 a0:=Tryz.isAgg0
 z0:=Tryz.sizeOf0
 v0:=Tryz.zeroValue0
 t3:=Tryz.underlying3
 a3:=Tryz.isAgg3
 z3:=Tryz.sizeOf3
 v3:=Tryz.zeroValue3
 t4:=Tryz.underlying4
 a4:=Tryz.isAgg4
 z4:=Tryz.sizeOf4
 v4:=Tryz.zeroValue4
 t9:=Tryz.underlying9
 a9:=Tryz.isAgg9
 z9:=Tryz.sizeOf9
 v9:=Tryz.zeroValue9
 t37:=Tryz.underlying63
 a37:=Tryz.isAgg63
 z37:=Tryz.sizeOf63
 v37:=Tryz.zeroValue63
 t127:=Tryz.underlying107
 a127:=Tryz.isAgg107
 z127:=Tryz.sizeOf107
 v127:=Tryz.zeroValue107
 t5:=Tryz.underlying5
 a5:=Tryz.isAgg5
 z5:=Tryz.sizeOf5
 v5:=Tryz.zeroValue5
 i0:=by kernel_rfl
 i3:=by kernel_rfl
 i4:=by kernel_rfl
 i5:=by kernel_rfl
 i9:=by kernel_rfl
 i37:=by kernel_rfl
 i127:=by kernel_rfl }
open Go.RowKit in
theorem Tryz.stringslite_Clone (s:ByteArray) (w:World) (hlim:s.size<=281474976710656) :
  Calls Tryz.prog 123 #[.string s] w fun e w'=>e=.returned (.string s)/\Below w.heap.size w w':=Any.stringslite_Clone Tryz.laysM316 s w hlim
def Tryz.lays99_ren:Go.Shelf.Ren:=⟨fun | 99=>146 | 206=>160 | n=>n,fun | 9=>9 | 4=>4 | 3=>3 | n=>n,fun | n=>n⟩
theorem Tryz.lays99:Go.Proofs.Lays.n99 Tryz.prog Tryz.lays99_ren:={
 mixed:=by kernel_rfl
 f99:=Tryz.func146.trans (congrArg some (by kernel_rfl))
 f206:=Tryz.func160.trans (congrArg some (by kernel_rfl))
 t3:=Tryz.underlying3
 a3:=Tryz.isAgg3
 z3:=Tryz.sizeOf3
 v3:=Tryz.zeroValue3
 t4:=Tryz.underlying4
 a4:=Tryz.isAgg4
 z4:=Tryz.sizeOf4
 v4:=Tryz.zeroValue4
 t9:=Tryz.underlying9
 a9:=Tryz.isAgg9
 z9:=Tryz.sizeOf9
 v9:=Tryz.zeroValue9 }
open Go.RowKit Go.Lib in
theorem Tryz.strings_HasPrefix (s p:ByteArray) (w:World) :
  Calls Tryz.prog 146 #[.string s,.string p] w fun e w'=>e=.returned (.bool (Lib.hasPrefix s.data.toList p.data.toList))/\w'=w:=Any.strings_HasPrefix Tryz.lays99 s p w
end Go.Proofs
namespace Go.Proofs.YtkocdbgmckdcpaaGreatDoor
open Go.RowKit
set_option maxRecDepth 100000
def joinN (r x:Nat):Nat:=r*4294967296+x
def joinI (r x:Nat):Int:=((joinN r x:Nat):Int)
theorem or_join {r x:Nat} (hr:r<4294967296) (hx:x<4294967296):bits BinOp.or IntKind.u64 ((r:Int)*4294967296) (x:Int)=joinI r x:=by
 have h1:(r:Int)*4294967296=((r*4294967296:Nat):Int):=by simp
 rw[h1,u64_or_nat _ _ (by omega) (by omega),nat_join 32 _ _ (by omega) (by omega)];rfl
theorem joinI_bound {r x:Nat} (hr:r<4294967296) (hx:x<4294967296):0<=joinI r x/\joinI r x<18446744073709551616:=by unfold joinI joinN;omega
theorem join_div {r x d:Nat} (hr:r<d) (hx:x<4294967296):joinN r x / d<4294967296:=by
 apply Nat.div_lt_of_lt_mul
 unfold joinN;have:(r+1)*4294967296<=d*4294967296:=Nat.mul_le_mul_right _ hr
 omega
theorem divLimb_step {t s:List Nat} {k r d:Nat} (hk:k<t.length) (hl:t.length=s.length) (ht:t.take (k+1)=s.take (k+1)) (hv:val L32 (t.drop (k+1))*d+r=val L32 (s.drop (k+1))) :
  (t.set k (joinN r (t.getD k 0) / d)).take k=s.take k/\val L32 ((t.set k (joinN r (t.getD k 0) / d)).drop k)*d+joinN r (t.getD k 0) % d=val L32 (s.drop k):=by
 have hks:k<s.length:=by omega
 have e1:t.getD k 0=s.getD k 0:=by
  have:=congrArg (fun l=>l.getD k 0) ht
  simpa [List.getD] using this
 refine⟨?_,?_⟩
 ·rw[List.take_set_of_le (Nat.le_refl k)];have:=congrArg (List.take k) ht;rw[List.take_take,List.take_take,Nat.min_eq_left (by omega)] at this;exact this
 rw[List.drop_eq_getElem_cons (by simpa using hk),List.drop_set_of_lt (by omega),List.drop_eq_getElem_cons hks];simp only[val,List.getElem_set_self];rw[<-hv];have e2:s[k]=s.getD k 0:=by simp[List.getD,hks]
 rw[e2,<-e1];have h:=Nat.div_add_mod (joinN r (t.getD k 0)) d;have hj:joinN r (t.getD k 0)=r*L32+t.getD k 0:=rfl;generalize joinN r (t.getD k 0) / d=q at *;generalize joinN r (t.getD k 0) % d=m at *;rw[hj] at h
 grind
theorem divLimb_any (g:Nat) (pre s post:List Nat) (vs:Value) (d:Nat) (z:Int) (w:World) (hw:Ws w .u32 204 vs g pre s post) (hs:Dig L32 s) (hz:z=(d:Int)) (hd0:0<d) (hd1:d<4294967296) :
  Calls Tryz.prog 171 #[vs,.int .u32 z] w fun e w'=>∃ s',e=.returned (.int .u32 ((val L32 s % d:Nat):Int))/\Ws w' .u32 204 vs g pre s' post/\w.grownBy w' (some g)/\s'.length=s.length/\Dig L32 s' /\
   val L32 s'=val L32 s / d:=by
 subst hz;obtain⟨ao,cap,rfl,h1,h2,h3,h4⟩:=hw;go_enter Tryz.func171,Tryz.ntmps171
 go_wp2
 go_loopw [5,6] (fun c i wr=>∃ (k:Nat) (t:List Nat) (r:Nat),i=.int .i64 ((k:Int) - 1)/\c=.int .u64 (r:Int)/\r<d/\k<=s.length/\w.grownBy wr (some g)/\Hid (t.length=s.length)/\Dig 4294967296 t /\
   WsAt wr .u32 204 ao g pre t post s.length/\Hid (t.take k=s.take k)/\Hid (val L32 (t.drop k)*d+r=val L32 (s.drop k)))
  (fun _ i _=>(intOf i+1).toNat)
 case atStart=>exact⟨s.length,s,0,rfl,rfl,hd0,by omega,World.grownBy.refl _ _,Lib.hid rfl,hs,h4,Lib.hid rfl,Lib.hid (by simp[val])⟩
 case round =>
  obtain⟨k,t,r,rfl,rfl,hr,hk,hg,Ht,hdt,hB,HT,HV⟩:=hrel
  by_cases h0:0<k
  ·obtain⟨rfl,hB'⟩:=hB (by omega);have hkt:k - 1<t.length:=by have:=Ht.out;omega
   have hct:wr.cell? ⟨g,pre.length+(k - 1),none⟩=some (.int .u32 (nth t (k - 1))):=by
    rw[hB'.cell (by simp;omega),nth_mid _ _ _ _ hkt]
   have hft:=hB'.frozen (pre.length+(k - 1));have t1:=hdt.getD (by omega) (k - 1);obtain⟨x,hx⟩:∃ x,x=t.getD (k - 1) 0:=⟨_,rfl⟩
   have hnx:nth t (k - 1)=(x:Int):=by rw[hx];rfl
   rw[<-hx] at t1;have hor:=or_join (r:=r) (x:=x) (by omega) t1;have hjb:=joinI_bound (r:=r) (x:=x) (by omega) t1;have hq0:=join_div hr t1
   have hq:0<=joinI r x / (d:Int)/\joinI r x / (d:Int)<4294967296:=by
    have:joinI r x / (d:Int)=((joinN r x / d:Nat):Int):=by unfold joinI;simp
    rw[this];exact⟨Int.natCast_nonneg _,Int.ofNat_lt.2 hq0⟩
   have HS:=Lib.hid (divLimb_step (t:=t) (s:=s) (k:=k - 1) (r:=r) (d:=d) hkt Ht.out (by rw[show k - 1+1=k by omega];exact HT.out) (by rw[show k - 1+1=k by omega];exact HV.out));rw[<-hx] at HS;have HQ:=Lib.hid hq0;have hm0:joinI r x % (d:Int)=((joinN r x % d:Nat):Int):=by unfold joinI;simp
   have hd0':joinI r x / (d:Int)=((joinN r x / d:Nat):Int):=by unfold joinI;simp
   have HM:=Lib.hid hm0;have HD:=Lib.hid hd0';rw[hnx] at hct;clear hB h4 hq0 hm0 hd0' hx hnx
   go_wp2
   go_roundw
   case rel =>
    refine⟨k - 1,t.set (k - 1) (joinN r x / d),joinN r x % d,by go_num,by rw[<-HM.out],Nat.mod_lt _ hd0,by omega,grown_setCell hg _,Lib.hid (by rw[List.length_set];exact Ht.out),hdt.set HQ.out,fun _=>⟨rfl,?_⟩,Lib.hid HS.out.1,Lib.hid HS.out.2⟩;rw[<-set_mid _ _ _ _ _ hkt];exact hB'.set _ _ _ HD.out
   case measure=>simp[intOf];omega
  have hk0:k=0:=by omega
  subst hk0;have hv:=HV.out;simp only[List.drop_zero] at hv;have e1:val L32 s % d=r:=by rw[<-hv,Nat.mul_add_mod_self_right,Nat.mod_eq_of_lt hr]
  have e2:val L32 t=val L32 s / d:=by rw[<-hv,Nat.add_comm,Nat.add_mul_div_right _ _ hd0,Nat.div_eq_of_lt hr,Nat.zero_add]
  have E1:=Lib.hid e1;have E2:=Lib.hid e2;have hfin:Ws wr .u32 204 (.slice ao s.length cap) g pre t post:=⟨ao,cap,by rw[Ht.out],by rw[Ht.out];exact h1,h2,h3,by rw[Ht.out];exact hB⟩
  clear e1 e2 hv h4
  go_wp2
  go_ret
  exact⟨t,by rw[E1.out];rfl,hfin,hg,Ht.out,hdt,E2.out⟩
theorem infoByte:(Tryz.prog.info? 5).map (fun i=>(i.zero,i.size,i.bytes))=some (some (.int .u8 0),1,1):=by kernel_rfl
theorem infoBld:(Tryz.prog.info? 65).map (·.size)=some 2:=by kernel_rfl
theorem liesBld:liesAt Tryz.prog Tryz.prog.depth 65 (2 / Tryz.prog.cellsOf 65) 0 65 1=true:=by kernel_rfl
set_option maxRecDepth 100000 in
theorem copyCheck_used (b:Nat) (w:World) (h0:w.cell? ⟨b,0,none⟩=some (.pointer (some ⟨b,0,none⟩))) :
  Calls Tryz.prog 71 #[.pointer (some ⟨b,0,none⟩)] w fun e w'=>e=.returned (.tuple #[])/\w=w':=by
 obtain⟨j,hj,_⟩:=Option.map_eq_some_iff.1 infoBld;have hne:=Lib.run_neq_ptr_same (P:=Tryz.prog) w ⟨b,0,none⟩ Tryz.underlying62 hj;go_enter Tryz.func71,Tryz.ntmps71
 go_wp2
 go_end0
 exact⟨rfl,rfl⟩
set_option maxRecDepth 100000 in
theorem copyCheck_fresh (b:Nat) (w:World) (h0:w.cell? ⟨b,0,none⟩=some (.pointer none)) (hsh:w.shape? b=some (65,2)) (hfz:w.frozen? ⟨b,0,none⟩=false) :
  Calls Tryz.prog 71 #[.pointer (some ⟨b,0,none⟩)] w fun e w'=>e=.returned (.tuple #[])/\w.setCell ⟨b,0,none⟩ (.pointer (some ⟨b,0,none⟩))=w':=by
 obtain⟨j,hj,hjs⟩:=Option.map_eq_some_iff.1 infoBld;have h1:=Lib.run_to_unsafe (P:=Tryz.prog) w ⟨b,0,none⟩ Tryz.underlying62 Tryz.underlying142 hj (by rw[hjs];decide) hsh (Nat.zero_lt_succ 1);have h2:=run_callFunc_extern (P:=Tryz.prog) (w:=w) (args:=#[.pointer (some ⟨b,0,none⟩)]) Tryz.func103 (by kernel_rfl) (by kernel_rfl) (by kernel_rfl) (e:=Extern.AbiNoEscape.same) (by kernel_rfl);have h3:=Lib.run_noEscape (P:=Tryz.prog) w (.pointer (some ⟨b,0,none⟩));have h4:=Lib.run_from_unsafe (P:=Tryz.prog) w ⟨b,0,none⟩ Tryz.underlying142 Tryz.underlying62 hj hsh liesBld;go_enter Tryz.func71,Tryz.ntmps71
 go_wp2
 go_end0
 exact⟨rfl,rfl⟩
def Bld (B b:Nat) (l:List UInt8) (w:World):Prop:=Lib.IsBuilder 65 5 B b (Lib.byteCells l) w
theorem Bld.at {B b:Nat} {l:List UInt8} {w:World} (h:Bld B b l w):∃ p v,w.heap[b]?=some (.cells #[p,v] 65 (0,0))/\w.ownsRow B 5 1 v l.length (Lib.byteCells l)/\v.ownBlock≠some b/\B<=b/\(p=.pointer none\/p=.pointer (some ⟨b,0,none⟩)):=by
 rcases h with ⟨hB,v,h1,h2,h3⟩ | ⟨hB,v,h1,h2,h3⟩
 ·exact⟨_,v,h1,by simpa [Lib.byteCells_length] using h2,h3,hB,.inl rfl⟩
 exact⟨_,v,h1,by simpa [Lib.byteCells_length] using h2,h3,hB,.inr rfl⟩
theorem Bld.below {B b:Nat} {l:List UInt8} {w w':World} (h:Bld B b l w) (hb:Below w.heap.size w w'):Bld B b l w':=by
 have go:∀ p,Lib.BuilderAt 65 5 B b p (Lib.byteCells l) w->Lib.BuilderAt 65 5 B b p (Lib.byteCells l) w':=by
  intro p ⟨hB,v,h1,h2,h3⟩;have hlt:=lt_of_block h1;exact⟨hB,v,by rw[hb.block b hlt];exact h1,World.ownsRow.kept h2 ⟨hb.os,hb.tape,hb.output,hb.size,fun j hj _=>hb.block j hj⟩ (by cases hv:v.ownBlock with | none=>exact .inl rfl | some g=>exact .inr (show some g≠none by simp)),h3⟩
 rcases h with h | h
 ·exact .inl (go _ h)
 exact .inr (go _ h)
theorem strCells_bytes (l m:List UInt8):Lib.byteCells l++Lib.strCells ⟨m.toArray⟩=Lib.byteCells (l++m):=by
 simp[Lib.byteCells,Lib.strCells]
set_option maxRecDepth 100000 in
theorem writeString_any (B b:Nat) (l m:List UInt8) (sv:ByteArray) (w:World) (h:Bld B b l w) (hs:sv=⟨m.toArray⟩) (hlen:l.length+m.length<=1000000) (hBw:B<=w.heap.size) :
  Calls Tryz.prog 38 #[.pointer (some ⟨b,0,none⟩),.string sv] w fun e w'=>∃ v,e=.returned v/\Bld B b (l++m) w'/\Below B w w':=by
 obtain⟨i0,hi,hz0,hz1,hz2⟩:=info_parts infoByte;have hsz:sv.size=m.length:=by subst hs;rfl
 obtain⟨p,v,hbk,hown,hne,hBb,hp⟩:=h.at;have hlt:=lt_of_block hbk
 -- behind copyCheck
 have rest:∀ w1:World,w1.heap[b]?=some (.cells #[.pointer (some ⟨b,0,none⟩),v] 65 (0,0))->w1.ownsRow B 5 1 v l.length (Lib.byteCells l)->Below B w w1->True:=fun _ _ _ _=>trivial
 clear rest;have HS:=Lib.hid hs;have HSZ:=Lib.hid hsz;clear hs;have hsz2:sv.size<=m.length:=by omega
 clear hsz
 have cc:Calls Tryz.prog 71 #[.pointer (some ⟨b,0,none⟩)] w fun e w1=>e=.returned (.tuple #[])/\w1.heap[b]?=some (.cells #[.pointer (some ⟨b,0,none⟩),v] 65 (0,0))/\w1.ownsRow B 5 1 v l.length (Lib.byteCells l)/\Below B w w1:=by
  rcases hp with rfl | rfl
  ·refine (copyCheck_fresh b w (by rw[cell_of_row w b 0 _ 65 (0,0) hbk];rfl) (by simp[World.shape?,hbk]) (frozen_of_row w b 0 _ 65 hbk)).mono ?_;rintro e w1 ⟨rfl,rfl⟩;refine⟨rfl,?_,?_,(Below.refl _ _).setCell hBb _⟩
   ·rw[heap_setCell_same w b 0 _ 65 _ hbk];rfl
   exact ownsRow_setCell_other hown (by simpa using hne) _
  refine (copyCheck_used b w (by rw[cell_of_row w b 0 _ 65 (0,0) hbk];rfl)).mono ?_;rintro e w1 ⟨rfl,rfl⟩;exact⟨rfl,hbk,hown,Below.refl _ _⟩
 have CC:=Lib.hid cc;clear cc hbk hown hp;go_enter Tryz.func38,Tryz.ntmps38
 go_wp2_with fail
 refine CC.out.mono ?_;rintro e w1 ⟨rfl,hbk1,hown1,hb1⟩;have c0:w1.cell? ⟨b,0,none⟩=some (.pointer (some ⟨b,0,none⟩)):=by rw[cell_of_row w1 b 0 _ 65 (0,0) hbk1];rfl
 have c1:w1.cell? ⟨b,1,none⟩=some v:=by rw[cell_of_row w1 b 1 _ 65 (0,0) hbk1];rfl
 have HK:=Lib.hid hbk1;clear hbk1;have hsz1:=hb1.size;go_wp2_with (at_builtin;refine Lib.wpList_append_own_string _ rfl (.tmp 12) (.tmp 13) 63 9 rfl B 5 i0 Tryz.underlying63 Tryz.underlying9 hi hz0 hz1 hz2 _ _ _ rfl hown1 sv rfl ?c3 ?c4 ?c5 ?_)
 case c3=>unfold maxLen;omega
 case c4=>omega
 case c5=>omega
 intro v' w2 hown' hgrow _;have hlt1:b<w1.heap.size:=lt_of_block HK.out
 have hb2:w2.heap[b]?=some (.cells #[.pointer (some ⟨b,0,none⟩),v] 65 (0,0)):=by
  rw[hgrow.block b hlt1 (fun e=>hne e.symm)];exact HK.out
 have d0:w2.cell? ⟨b,0,none⟩=some (.pointer (some ⟨b,0,none⟩)):=by rw[cell_of_row w2 b 0 _ 65 (0,0) hb2];rfl
 have d1:w2.cell? ⟨b,1,none⟩=some v:=by rw[cell_of_row w2 b 1 _ 65 (0,0) hb2];rfl
 have f1:w2.frozen? ⟨b,1,none⟩=false:=frozen_of_row w2 b 1 _ 65 hb2
 obtain⟨ao,n',cap,rfl⟩:∃ ao n' cap,v'=.slice ao n' cap:=by
  rcases hown'.2 with ⟨hv,_⟩ | ⟨g,cap,cur,hv,_⟩
  ·exact⟨_,_,_,hv⟩
  exact⟨_,_,_,hv⟩
 have HB2:=Lib.hid hb2;clear hb2
 go_wp2
 go_ret2
 refine⟨_,rfl,?_,?_⟩
 ·refine .inr ?_;rw[<-strCells_bytes,<-HS.out];refine Lib.BuilderAt.put (T:=65) (e:=5) hBb HB2.out (bs':=Lib.byteCells l++Lib.strCells sv) ?_ (by decide);rw[lsa,Lib.byteCells_length,Lib.strCells_length];exact hown'
 exact (hb1.grown hgrow (by omega) (fun k hk=>(hown1.lt k hk).1)).setCell (p:=⟨b,1,none⟩) hBb _
theorem fmt_small (i:Nat) (z:Int) (hz:z=(i:Int)) (h:i<100) (w:World) :
  Calls Tryz.prog 162 #[.int .u64 z,.int .i64 10] w fun e w'=>e=.returned (.string ⟨(Lib.decDigits i).toArray⟩)/\w=w':=by
 subst hz
 have inner:Calls Tryz.prog 172 #[.int .u64 i,.int .i64 10] w fun e w'=>e=.returned (.string ⟨(Lib.decDigits i).toArray⟩)/\w=w':=by
  go_enter Tryz.func172,Tryz.ntmps172
  go_wp2_with fail
  refine (Tryz.internal_strconv_small i h _).mono ?_;rintro e w' ⟨rfl,rfl⟩;go_wp2_with fail
  go_ret
  exact⟨rfl,rfl⟩
 have IN:=Lib.hid inner;clear inner;go_enter Tryz.func162,Tryz.ntmps162
 go_wp2_with fail
 refine IN.out.mono ?_;rintro e w' ⟨rfl,rfl⟩;go_wp2_with fail
 go_ret
 exact⟨rfl,rfl⟩
abbrev G9:Nat:=1000000000
theorem Ow.len {w:World} {base:Nat} {k:IntKind} {T:TypeId} {v:Value} {xs:List Nat} (h:Ow w base k T v xs):lenOfV v=xs.length:=by
 obtain⟨ao,cap,rfl⟩:=sl_shape h.sl;rfl
theorem Ow.grown {w w':World} {base:Nat} {k:IntKind} {T:TypeId} {v:Value} {xs:List Nat} (h:Ow w base k T v xs) {g:Nat} (hg:w.grownBy w' (some g)) (hb:g<base):Ow w' base k T v xs:=
 World.ownsRow.kept h hg (by
  cases hv:v.ownBlock with
  | none=>exact .inl rfl
  | some j=>exact .inr (fun e=>by injection e with e;have:=h.base_le j hv;omega))
theorem ws_trimmed {w:World} {T:TypeId} {ao:Option Addr} {n cap g:Nat} {pre s post:List Nat} (h:Ws w .u32 T (.slice ao n cap) g pre s post) (hd:Dig L32 s) :
  ∃ post',Ws w .u32 T (trimmedOf ao cap s) g pre (dig L32 (val L32 s)) post':=by
 have e:=take_nz (B:=L32) (by decide) hd;obtain⟨ao',cap',e1,h1,h2,h3,h4⟩:=h;injection e1 with e1 e2 e3;subst e1;subst e3;have hl:=nz_le s;have hlen:(s.take (nz s)).length=nz s:=by rw[List.length_take];omega
 refine⟨s.drop (nz s)++post,?_⟩;rw[<-e];unfold trimmedOf
 by_cases h0:nz s=0
 ·rw[if_pos h0,h0];exact⟨none,0,rfl,by simp,by omega,fun _=>rfl,fun h=>by simp at h⟩
 rw[if_neg h0];refine⟨ao,cap,by rw[hlen],by rw[hlen];omega,h2,h3,fun _=>?_⟩;obtain⟨a1,a2⟩:=h4 (by omega);refine⟨a1,?_⟩
 have:pre++s.take (nz s)++(s.drop (nz s)++post)=pre++s++post:=by
  rw[<-List.append_assoc,List.append_assoc pre,List.take_append_drop]
 rw[this];exact a2
theorem trimmed_ws (v:Value) (g:Nat) (pre s post:List Nat) (w:World) (h:Ws w .u32 204 v g pre s post) (hd:Dig L32 s) :
  Calls Tryz.prog 170 #[v] w fun e w'=>∃ v' post',e=.returned v'/\Ws w .u32 204 v' g pre (dig L32 (val L32 s)) post'/\w=w':=by
 obtain⟨ao,cap,rfl⟩:=h.at;refine (trimmed_any _ _ _ s _ h.sl).mono fun e w' ⟨he,hw⟩=>?_
 obtain⟨post',h'⟩:=ws_trimmed h hd;exact⟨_,post',he,h',hw⟩
theorem Ws.len {w:World} {k:IntKind} {T:TypeId} {v:Value} {g:Nat} {pre s post:List Nat} (h:Ws w k T v g pre s post):lenOfV v=s.length:=by
 obtain⟨ao,cap,rfl⟩:=h.at;rfl
theorem Ws.kept {w w':World} {B:Nat} {k:IntKind} {T:TypeId} {v:Value} {g:Nat} {pre s post:List Nat} (h:Ws w k T v g pre s post) (hb:Below B w w') (hg:s.length≠0->g<B):Ws w' k T v g pre s post:=by
 obtain⟨ao,cap,rfl,h1,h2,h3,h4⟩:=h;exact⟨ao,cap,rfl,h1,h2,h3,fun i=>⟨(h4 i).1,(h4 i).2.below hb (hg i)⟩⟩
theorem Ws.in_heap {w:World} {k:IntKind} {T:TypeId} {v:Value} {g:Nat} {pre s post:List Nat} (h:Ws w k T v g pre s post) (h0:s.length≠0):g<w.heap.size:=by
 obtain⟨ao,cap,rfl,h1,h2,h3,h4⟩:=h;exact (h4 h0).2.lt
theorem groups_step {gs:List Nat} {ρ N:Nat} (h0:0<ρ) (h:gs++dig G9 ρ=dig G9 N):(gs++[ρ % G9])++dig G9 (ρ / G9)=dig G9 N:=by
 rw[<-h,dig_pos (B:=G9) (by decide) h0,List.append_assoc];rfl
theorem decimalGroups_any (va:Value) (xs:List Nat) (w:World) (hx:Sl w .u32 va xs) (dx:Dig L32 xs) (lx:xs.length<=100000) :
  Calls Tryz.prog 161 #[va] w fun e w'=>∃ v,e=.returned v/\Sl w' .u32 v (dig G9 (val L32 xs))/\Below w.heap.size w w':=by
 obtain⟨i0,hi,hz0,hz1,hz2⟩:=info_parts info51;obtain⟨ao,ac,rfl⟩:=sl_shape hx;go_enter Tryz.func161,Tryz.ntmps161
 go_wp2_with fail
 refine (trim_any _ xs w hx dx (by omega)).mono ?_;rintro e w1 ⟨v1,rfl,hs1,hb1⟩;have hsz1:=hb1.size;have Hg:Hid ((dig L32 (val L32 xs)).length≠0->w.heap.size<w1.heap.size):=Lib.hid (fun h=>hs1.in_heap h)
 have HK:Hid ((dig G9 (val L32 xs)).length<=1000000):=Lib.hid (Nat.le_trans (length_dig_le (B:=G9) (k:=2*xs.length) (by decide) (by
  have h1:=val_lt dx;have h2:L32 ^ xs.length<=G9 ^ (2*xs.length):=by rw[Nat.pow_mul];exact Nat.pow_le_pow_left (by decide) _
  omega)) (by omega))
 generalize hN:val L32 xs=N at *;have HN:=Lib.hid hN;clear hN;go_wp2_with fail
 go_loopw [3,4] (fun gv rv wr=>∃ (ρ:Nat) (gs post:List Nat),Ow wr w1.heap.size .u32 204 gv gs/\Ws wr .u32 204 rv w.heap.size [] (dig L32 ρ) post/\Hid (gs++dig G9 ρ=dig G9 N)/\Dig L32 gs/\Below w.heap.size w wr/\w1.heap.size<=wr.heap.size/\Hid ((dig L32 ρ).length≠0->w.heap.size<w1.heap.size)) (fun gv _ _=>(dig G9 N).length - lenOfV gv)
 case atStart=>exact⟨N,[],[],Ow.nil _ _ _ _,hs1,Lib.hid rfl,Dig.nil _,hb1,Nat.le_refl _,Hg⟩
 case round =>
  clear hs1 hb1 Hg;obtain⟨ρ,gs,post,how,hws,HG,hdg,hb,hsz,Hg⟩:=hrel;have hlen:=Lib.hid hws.len;obtain⟨ro,rc,rfl⟩:=hws.at
  by_cases h0:0<ρ
  ·have hpos:0<(dig L32 ρ).length:=by rw[dig_pos (by decide) h0];simp
   have hgl:=Hg.out (by omega);have HG':=Lib.hid (groups_step h0 HG.out)
   have hgsl:gs.length<(dig G9 N).length:=by
    have:=congrArg List.length HG.out;rw[lsa,dig_pos (B:=G9) (by decide) h0] at this
    simp at this;omega
   have hk:=HK.out;have hmod:ρ % G9<1000000000:=Nat.mod_lt _ (by decide);have HL:=Lib.hid how.len;go_wp2_with fail
   refine (divLimb_any w.heap.size [] _ post _ G9 _ wr hws (Dig_dig (by decide) _) rfl (by decide) (by decide)).mono ?_;rintro e w3 ⟨s',rfl,hs3,hg3,hl3,hd3,hv3⟩;rw[val_dig (by decide)] at hv3 ⊢;have how3:=how.grown hg3 hgl;have hb3:Below w.heap.size w w3:=hb.trans (below_of_grown' hg3 (Nat.le_refl _) hb.size);have hsz3:=hg3.size;have HV3:=Lib.hid hv3;have HL3:=Lib.hid hl3;clear hv3 hl3;obtain⟨m,hm⟩:∃ m,m=ρ % G9:=⟨_,rfl⟩
   rw[<-hm];rw[<-hm] at HG' hmod;clear hm;go_wp2_with (at_builtin;refine wpList_append_one _ rfl (.tmp 12) (.tmp 15) 41 rfl 204 i0 .u32 Tryz.underlying41 hi hz0 hz1 ?c1 w1.heap.size _ gs rfl (how3.alloc _) w3.heap.size (m:Int) m rfl ?c2 rfl ?c3 ?c4 ?_)
   case c1=>omega
   case c2=>simp
   case c3=>omega
   case c4=>simp;omega
   intro v' w4 how4 hb4;have hb4':Below w1.heap.size w3 w4:=((Below.refl _ _).alloc (by omega) _).trans hb4;have hs4:=hs3.kept hb4' (fun _=>hgl);go_wp2_with fail
   refine (trimmed_ws _ _ _ s' _ w4 hs4 hd3).mono ?_;rintro e w5 ⟨v5,post5,rfl,hs5,rfl⟩;rw[HV3.out] at hs5;go_wp2_with fail
   go_roundw
   case rel=>exact⟨ρ / G9,gs++[m],post5,how4,hs5,HG',hdg.append (by intro x hx;obtain rfl:=List.mem_singleton.1 hx;exact Nat.lt_trans hmod (by decide)),hb3.trans (hb4'.mono (by omega)),Nat.le_trans (by omega) hb4'.size,Lib.hid (fun _=>hgl)⟩
   case measure =>
    have e1:=HL.out;have e2:=how4.len;rw[lsa] at e2
    simp at e2
    simp;omega
  have hr:ρ=0:=by omega
  subst hr;have HE:Hid (gs=dig G9 N):=Lib.hid (by have:=HG.out;rwa [dig_zero,List.append_nil] at this);have hl0:(dig L32 0).length=0:=by rw[dig_zero];rfl
  have HL0:=Lib.hid hl0;have hl1:(dig L32 0).length<=0:=by omega
  clear hl0;go_wp2_with fail
  go_ret
  exact⟨_,rfl,by rw[HN.out,<-HE.out];exact how.sl,hb⟩
def pad:Nat->Nat->List UInt8
 | 0,_=>[]
 | k+1,g=>pad k (g / 10)++[UInt8.ofNat (48+g % 10)]
theorem decDigits_pad (k:Nat):∀ (q g:Nat),0<q->g<10 ^ k->Lib.decDigits (q*10 ^ k+g)=Lib.decDigits q++pad k g:=by
 induction k with
 | zero=>intro q g hq hg;simp at hg;subst hg;simp[pad]
 | succ k ih =>
  intro q g hq hg
  have hbig:¬ q*10 ^ (k+1)+g<10:=by
   have:1*10 ^ (k+1)<=q*10 ^ (k+1):=Nat.mul_le_mul_right _ hq;have h2:10<=10 ^ (k+1):=by rw[Nat.pow_succ];have:=Nat.pow_pos (n:=k) (show 0<10 by omega);omega
   omega
  have e1:(q*10 ^ (k+1)+g) / 10=q*10 ^ k+g / 10:=by
   rw[Nat.pow_succ,<-Nat.mul_assoc,Nat.add_comm,Nat.add_mul_div_right _ _ (by omega),Nat.add_comm]
  have e2:(q*10 ^ (k+1)+g) % 10=g % 10:=by
   rw[Nat.pow_succ,<-Nat.mul_assoc,Nat.add_comm,Nat.add_mul_mod_self_right]
  have hg':g / 10<10 ^ k:=Nat.div_lt_of_lt_mul (by rw[Nat.pow_succ] at hg;omega);rw[Lib.decDigits,dif_neg hbig,e1,e2,ih q (g / 10) hq hg',List.append_assoc]
  rfl
theorem decDigits_group {q g:Nat} (hq:0<q) (hg:g<G9):Lib.decDigits (g+G9*q)=Lib.decDigits q++(Lib.decDigits (G9+g)).drop 1:=by
 have h1:=decDigits_pad 9 q g hq hg;have h2:=decDigits_pad 9 1 g (by decide) hg;have hG:G9=1000000000:=rfl;rw[show q*10 ^ 9+g=g+G9*q by rw[hG];omega] at h1;rw[show 1*10 ^ 9+g=G9+g by rw[hG]] at h2;rw[h1,h2,Lib.decDigits_one (i:=1) (by decide)]
 rfl
theorem len_pad (k g:Nat):(pad k g).length=k:=by
 induction k generalizing g with
 | zero=>rfl
 | succ k ih=>simp[pad,ih]
theorem decDigits_ten {g:Nat} (hg:g<G9):(Lib.decDigits (G9+g)).length=10:=by
 have h2:=decDigits_pad 9 1 g (by decide) hg;rw[show 1*10 ^ 9+g=G9+g from rfl] at h2;rw[h2,lsa,len_pad,Lib.decDigits_one (i:=1) (by decide)];rfl
theorem decDigits_len {n k:Nat} (h:n<10 ^ k) (hk:0<k):(Lib.decDigits n).length<=k:=by
 rw[Lib.decDigits_length];rcases Nat.lt_or_ge n 10 with h1 | h1
 ·rw[Lib.nDigits_small h1];exact hk
 induction k generalizing n with
 | zero=>omega
 | succ k ih =>
  rw[Lib.nDigits_big (by omega)];have h2:n / 10<10 ^ k:=Nat.div_lt_of_lt_mul (by rw[Nat.pow_succ] at h;omega)
  have hk0:0<k:=by
   rcases Nat.eq_zero_or_pos k with h0 | h0
   ·subst h0;simp at h2;omega
   exact h0
  rcases Nat.lt_or_ge (n / 10) 10 with h3 | h3
  ·rw[Lib.nDigits_small h3];omega
  have:=ih h2 hk0 h3;omega
theorem val_drop_step {B:Nat} {gs:List Nat} {k:Nat} (hk:k<gs.length):val B (gs.drop k)=gs.getD k 0+B*val B (gs.drop (k+1)):=by
 rw[List.drop_eq_getElem_cons hk]
 simp[val,List.getD,hk]
theorem extract_one (l:List UInt8):(⟨l.toArray⟩:ByteArray).extract 1 (⟨l.toArray⟩:ByteArray).size=⟨(l.drop 1).toArray⟩:=by
 apply ByteArray.ext
 simp[ByteArray.size]
 rw[List.take_of_length_le (by simp)]
theorem digits_len {gs:List Nat} (hd:Dig G9 gs) (k:Nat) (hl:gs.length<=20000):(Lib.decDigits (val G9 (gs.drop k))).length<=180009:=by
 have h1:=val_lt (hd.drop k)
 have h2:G9 ^ (gs.drop k).length<=10 ^ (9*gs.length+9):=by
  rw[show G9=10 ^ 9 from rfl,<-Nat.pow_mul];exact Nat.pow_le_pow_right (by decide) (by rw[List.length_drop];omega)
 have:=decDigits_len (Nat.lt_of_lt_of_le h1 h2) (by omega)
 omega
theorem digits_round {gs:List Nat} (hd:Dig G9 gs) {k:Nat} (hk:k<gs.length) (hp:0<val G9 (gs.drop (k+1))) :
  Lib.decDigits (val G9 (gs.drop k))=Lib.decDigits (val G9 (gs.drop (k+1)))++(Lib.decDigits (G9+gs.getD k 0)).drop 1/\0<val G9 (gs.drop k):=by
 rw[val_drop_step hk];refine⟨decDigits_group hp (hd.getD (by decide) k),?_⟩;have:1*1<=G9*val G9 (gs.drop (k+1)):=Nat.mul_le_mul (by decide) hp
 omega
def FmtAt (w0:World) (P:Nat->Prop):Prop:=
 ∀ (w:World) (i:Nat) (z:Int),Below w0.heap.size w0 w->z=(i:Int)->P i->Calls Tryz.prog 162 #[.int .u64 z,.int .i64 10] w fun e w'=>e=.returned (.string ⟨(Lib.decDigits i).toArray⟩)/\Below w.heap.size w w'
theorem text_gen (P:Nat->Prop) (va:Value) (xs:List Nat) (w:World) (fmt:FmtAt w P) (hx:Sl w .u32 va xs) (dx:Dig L32 xs) (lx:xs.length<=10000)
  (hP1:∀ g,g<G9->(dig G9 (val L32 xs)).getD ((dig G9 (val L32 xs)).length - 1) 0=g->P g) (hP2:2<=(dig G9 (val L32 xs)).length->∀ g,g<G9->P (G9+g)) :
  Calls Tryz.prog 147 #[va] w fun e w'=>e=.returned (.string ⟨(Lib.decDigits (val L32 xs)).toArray⟩)/\Below w.heap.size w w':=by
 have FMT:=Lib.hid fmt;clear fmt
 have HGL:Hid ((dig G9 (val L32 xs)).length<=20000):=Lib.hid (Nat.le_trans (length_dig_le (B:=G9) (k:=2*xs.length) (by decide) (by
  have h1:=val_lt dx;have h2:L32 ^ xs.length<=G9 ^ (2*xs.length):=by rw[Nat.pow_mul];exact Nat.pow_le_pow_left (by decide) _
  omega)) (by omega))
 have DG:=decimalGroups_any va xs w hx dx (by omega);have DGH:=Lib.hid DG;clear DG;have dg:=Dig_dig (B:=G9) (by decide) (val L32 xs);have HV:=Lib.hid (val_dig (B:=G9) (by decide) (val L32 xs));have HLast:=Lib.hid (@dig_last G9 (val L32 xs) (by decide));have HP1:=Lib.hid hP1;have HP2:=Lib.hid hP2;clear hP1 hP2 dx;generalize dig G9 (val L32 xs)=gs at *;generalize val L32 xs=N at *
 by_cases h0:gs.length=0
 ·have HN:Hid (N=0):=Lib.hid (by have:=HV.out;rw[List.eq_nil_of_length_eq_zero h0] at this;simpa [val] using this.symm);have hz:(((gs.length:Nat):Int)==0)=true:=by rw[h0];rfl
  have H0:=Lib.hid h0;clear h0;go_enter Tryz.func147,Tryz.ntmps147
  go_wp2_with fail
  refine DGH.out.mono ?_;rintro e w1 ⟨v1,rfl,hs1,hb1⟩;obtain⟨ao,ac,rfl⟩:=sl_shape hs1;go_wp2_with fail
  go_ret
  exact⟨by rw[HN.out,Lib.decDigits_one (i:=0) (by decide)];rfl,hb1⟩
 have hz:(((gs.length:Nat):Int)==0)=false:=by rw[beq_eq_false_iff_ne];omega
 have hp:1<=gs.length:=by omega
 clear h0;go_enter Tryz.func147,Tryz.ntmps147
 go_wp2_with fail
 refine DGH.out.mono ?_;rintro e w1 ⟨v1,rfl,hs1,hb1⟩;have HS1:=Lib.hid hs1;obtain⟨ao,ac,rfl,a1,a2,a3,a4⟩:=hs1;obtain⟨a,rfl,hca⟩:=a4 (gs.length - 1) (by omega);clear a4;have g1:0<=nth gs (gs.length - 1)/\nth gs (gs.length - 1)<1000000000:=by have:=dg.getD (by decide) (gs.length - 1);have hG:G9=1000000000:=rfl;unfold nth;omega
 have hgl:=HGL.out
 have hcal:(w1.alloc (.cells #[.pointer none,.slice none 0 0] 65)).cell? (a.add (gs.length - 1))=some (.int .u32 (nth gs (gs.length - 1))):=by
  rw[World.cell?_alloc_lt _ _ _ (cell_lt hca)];exact hca
 have hBld:Bld w1.heap.size w1.heap.size [] (w1.alloc (.cells #[.pointer none,.slice none 0 0] 65)):=Lib.fresh_isBuilder 65 5 w1;have hbW:Below w1.heap.size w1 (w1.alloc (.cells #[.pointer none,.slice none 0 0] 65)):=(Below.refl _ _).alloc (Nat.le_refl _) _;have hsW:w1.heap.size<(w1.alloc (.cells #[.pointer none,.slice none 0 0] 65)).heap.size:=by simp
 have hg0:=dg.getD (by decide) (gs.length - 1);have hlast:=HLast.out (by omega)
 have hdrop:val G9 (gs.drop (gs.length - 1))=gs.getD (gs.length - 1) 0:=by
  rw[val_drop_step (by omega),List.drop_eq_nil_of_le (by omega)];simp[val]
 have HD0:=Lib.hid hdrop;have HLA:=Lib.hid hlast;clear hdrop hlast;go_wp2_with fail
 generalize (w1.alloc (.cells #[.pointer none,.slice none 0 0] 65))=W2 at *;have hbW':Below w.heap.size w W2:=hb1.trans (hbW.mono hb1.size);refine (FMT.out W2 (gs.getD (gs.length - 1) 0) _ hbW' rfl (HP1.out _ hg0 rfl)).mono ?_;rintro e w3 ⟨rfl,hb3⟩;have hbl3:=hBld.below hb3;have hs3:=hb3.size;have hb3w:Below w.heap.size w w3:=hbW'.trans (hb3.mono hbW'.size);have hb3B:Below w1.heap.size w1 w3:=hbW.trans (hb3.mono (by omega));rw[<-HD0.out];have hdl:=digits_len dg (gs.length - 1) hgl;have hpos:0<val G9 (gs.drop (gs.length - 1)):=by rw[HD0.out];have:=HLA.out;omega
 have HPOS:=Lib.hid hpos;clear hpos;generalize hL:Lib.decDigits (val G9 (gs.drop (gs.length - 1)))=L at *;have HL:=Lib.hid hL;clear hL;generalize hS:(⟨L.toArray⟩:ByteArray)=sv at *;have HS:=Lib.hid hS;clear hS;go_wp2_with fail
 refine (writeString_any w1.heap.size w1.heap.size [] L sv w3 hbl3 HS.out.symm (by simp;omega) (by omega)).mono ?_;rintro e w4 ⟨v4,rfl,hbl4,hb4⟩;rw[List.nil_append] at hbl4;have hb4w:Below w.heap.size w w4:=hb3w.trans (hb4.mono hb1.size);have hb4B:Below w1.heap.size w1 w4:=hb3B.trans hb4;have hs4:=hb4.size;go_wp2_with fail
 go_loopw [6] (fun i wr=>∃ k:Nat,k<=gs.length - 1/\i=.int .i64 ((k:Int) - 1)/\Bld w1.heap.size w1.heap.size (Lib.decDigits (val G9 (gs.drop k))) wr/\Hid (0<val G9 (gs.drop k))/\Below w.heap.size w wr/\Below w1.heap.size w1 wr/\w1.heap.size<wr.heap.size) (fun i _=>(intOf i+1).toNat)
 case atStart=>exact⟨gs.length - 1,Nat.le_refl _,by congr 1;omega,by rw[HL.out];exact hbl4,HPOS,hb4w,hb4B,by omega⟩
 case round =>
  clear hbl3 hb3w hb3B hbl4 hb4w hb4B hs4 hs3 hb3 hb4 HPOS HL HS hBld hbW hsW hbW' hcal hdl;obtain⟨k,hk,rfl,hbl,HPOS,hb,hbB,hsz⟩:=hrel
  by_cases h0:0<k
  ·have hc:wr.cell? (a.add (k - 1))=some (.int .u32 (nth gs (k - 1))):=by
    have:=HS1.out.at (i:=k - 1) (by omega);rw[hbB.cell (cell_lt this)];exact this
   have gk:=dg.getD (by decide) (k - 1);have gk':0<=nth gs (k - 1)/\nth gs (k - 1)<1000000000:=by have hG:G9=1000000000:=rfl;unfold nth;omega
   have HR:=Lib.hid (digits_round dg (k:=k - 1) (by omega) (by rw[show k - 1+1=k by omega];exact HPOS.out));have hP:=HP2.out (by omega) _ gk;have hten:=decDigits_ten gk;have hdl:=digits_len dg k hgl;have hex:=extract_one (Lib.decDigits (G9+gs.getD (k - 1) 0));have hsize:(⟨(Lib.decDigits (G9+gs.getD (k - 1) 0)).toArray⟩:ByteArray).size=10:=by simpa [ByteArray.size] using hten
   have hdr:((Lib.decDigits (G9+gs.getD (k - 1) 0)).drop 1).length=9:=by rw[List.length_drop,hten]
   have HTEN:=Lib.hid hten;clear hten;go_wp2_with fail
   refine (FMT.out wr (G9+gs.getD (k - 1) 0) _ hb (by unfold nth;simp) hP).mono ?_;rintro e w5 ⟨rfl,hb5⟩;have hbl5:=hbl.below hb5;have hs5:=hb5.size;have hb5w:Below w.heap.size w w5:=hb.trans (hb5.mono hb.size);have hb5B:Below w1.heap.size w1 w5:=hbB.trans (hb5.mono (by omega));generalize hM:(Lib.decDigits (G9+gs.getD (k - 1) 0)).drop 1=M at *;generalize hS:(⟨(Lib.decDigits (G9+gs.getD (k - 1) 0)).toArray⟩:ByteArray)=sv at *;have HEX:=Lib.hid hex;have hsz1:1<=sv.size/\sv.size<=10:=by omega
   clear hex hS hM hsize;go_wp2_with fail
   refine (writeString_any w1.heap.size w1.heap.size _ M _ w5 hbl5 HEX.out (by omega) (by omega)).mono ?_;rintro e w6 ⟨v6,rfl,hbl6,hb6⟩;have hs6:=hb6.size;go_wp2_with fail
   go_roundw
   case rel =>
    refine⟨k - 1,by omega,by go_num,?_,Lib.hid HR.out.2,hb5w.trans (hb6.mono hb1.size),hb5B.trans hb6,by omega⟩;have h:=HR.out.1;rw[show k - 1+1=k by omega] at h;rw[h];exact hbl6
   case measure=>simp[intOf];omega
  have hk0:k=0:=by omega
  subst hk0;have HN:Hid (val G9 (gs.drop 0)=N):=Lib.hid (by rw[List.drop_zero];exact HV.out);go_wp2_with fail
  refine (Tryz.Builder_String_any w1.heap.size w1.heap.size _ wr hbl (by omega)).mono ?_;rintro e w7 ⟨rfl,hb7⟩;rw[HN.out];go_wp2_with fail
  go_ret
  exact⟨rfl,hb.trans (hb7.mono hb1.size)⟩
theorem mul_bound {x y:Nat} (hx:x<4294967296) (hy:y<4294967296):x*y<=18446744065119617025:=
 Nat.le_trans (Nat.mul_le_mul (show x<=4294967295 by omega) (show y<=4294967295 by omega)) (by decide)
theorem ws_part {w:World} {T:TypeId} {g i n:Nat} {P:List Nat} (hB:Blk w g .u32 T P) (hi:i<P.length) (hn:n=P.length - i) (hm:P.length<=9223372036854775807) :
  Ws w .u32 T (.slice (some ⟨g,i,none⟩) n n) g (P.take i) (P.drop i) []:=by
 have e1:(P.drop i).length=n:=by simp;omega
 have e2:(P.take i).length=i:=by simp;omega
 refine⟨some ⟨g,i,none⟩,n,by rw[e1],by rw[e1];omega,by omega,(fun e=>by cases e),fun _=>⟨by rw[e2],?_⟩⟩;rw[List.take_append_drop,List.append_nil];exact hB
theorem ws_whole {w:World} {T:TypeId} {v:Value} {g:Nat} {pre s post:List Nat} (h:Ws w .u32 T v g pre s post) (h0:s.length≠0):Blk w g .u32 T (pre++s++post):=by
 obtain⟨_,_,_,_,_,_,h4⟩:=h;exact (h4 h0).2
def GN (w:World) (v:Value) (n k:Nat):Prop:=∃ xs,Sl w .u32 v xs/\Dig L32 xs/\val L32 xs=n/\xs.length<=k
theorem GN.below {w w':World} {v:Value} {n k:Nat} (h:GN w v n k) (hb:Below w.heap.size w w'):GN w' v n k:=by
 obtain⟨xs,h1,h2,h3,h4⟩:=h;exact⟨xs,h1.below hb,h2,h3,h4⟩
theorem GN.lt {w:World} {v:Value} {n k:Nat} (h:GN w v n k):n<L32 ^ k:=by
 obtain⟨xs,_,h2,h3,h4⟩:=h;rw[<-h3];exact Nat.lt_of_lt_of_le (val_lt h2) (Nat.pow_le_pow_right (by decide) h4)
theorem gn_dig {w:World} {v:Value} {n k:Nat} (h:Sl w .u32 v (dig L32 n)) (hn:n<L32 ^ k):GN w v n k:=
 ⟨_,h,Dig_dig (by decide) _,val_dig (by decide) _,length_dig_le (by decide) hn⟩
theorem cmp_n {va vb:Value} {m n k1 k2:Nat} {w:World} (hx:GN w va m k1) (hy:GN w vb n k2) :
  Calls Tryz.prog 129 #[va,vb] w fun e w'=>e=.returned (.int .i64 (cmpN m n))/\Below w.heap.size w w':=by
 obtain⟨xs,hx,dx,rfl,lx⟩:=hx;obtain⟨ys,hy,dy,rfl,ly⟩:=hy;exact cmp_any _ _ _ _ w hx hy dx dy
def bl (n:Nat):Nat:=(dig 2 n).length
theorem bl_zero:bl 0=0:=by unfold bl;rw[dig_zero];rfl
theorem bl_half {n:Nat} (h:0<n):bl n=1+bl (n / 2):=by unfold bl;rw[dig_pos (by decide) h];simp;omega
theorem bitLen_bl (n:Nat) (h:n<2 ^ 64):Lib.bitLen n=bl n:=by
 induction n using Nat.strongRecOn with
 | ind n ih =>
  by_cases h0:n=0
  ·subst h0;rw[bl_zero];decide
  rw[Lib.bitLen_half n h0 h,bl_half (by omega),ih (n / 2) (by omega) (by omega)]
theorem bl_top (k:Nat):∀ v t:Nat,v<2 ^ k->0<t->bl (v+t*2 ^ k)=k+bl t:=by
 induction k with
 | zero=>intro v t hv ht;simp at hv;subst hv;simp
 | succ k ih =>
  intro v t hv ht;have hp:0<2 ^ (k+1):=Nat.pow_pos (by decide);have hpos:0<v+t*2 ^ (k+1):=by have:=Nat.mul_pos ht hp;omega
  rw[bl_half hpos];have e:(v+t*2 ^ (k+1)) / 2=v / 2+t*2 ^ k:=by rw[Nat.pow_succ,<-Nat.mul_assoc];omega
  rw[e,ih (v / 2) t (by rw[Nat.pow_succ] at hv;omega) ht]
  omega
theorem bl_le {n k:Nat} (h:n<2 ^ k):bl n<=k:=length_dig_le (by decide) h
theorem bits_nat (va:Value) (xs:List Nat) (w:World) (hx:Sl w .u32 va xs) (dx:Dig L32 xs) (lx:xs.length<=1000000) :
  Calls Tryz.prog 149 #[va] w fun e w'=>e=.returned (.int .i64 ((bl (val L32 xs):Nat):Int))/\w=w':=by
 have HX:=Lib.hid hx;obtain⟨ao,ac,rfl,a1,a2,a3,a4⟩:=hx;have nx:=nz_le xs
 by_cases h0:nz xs=0
 ·have hv:val L32 xs=0:=by rw[<-val_take_nz (B:=L32) (by decide) dx,h0];rfl
  have HV:=Lib.hid hv;have hz:(((nz xs:Nat):Int)==0)=true:=by rw[h0];rfl
  clear h0 hv a4;go_enter Tryz.func149,Tryz.ntmps149
  go_wp2_with fail
  refine (sig_any _ _ _ xs _ HX.out).mono ?_;rintro e w' ⟨rfl,rfl⟩;go_wp2_with fail
  go_ret
  exact⟨by rw[HV.out,bl_zero];rfl,rfl⟩
 have hz:(((nz xs:Nat):Int)==0)=false:=by rw[beq_eq_false_iff_ne];omega
 have hp:1<=nz xs:=by omega
 obtain⟨a,rfl,hca⟩:=a4 (nz xs - 1) (by omega);have t1:=dx.getD (by decide) (nz xs - 1);have t2:=u32_wf dx (nz xs - 1);have hl:bl (xs.getD (nz xs - 1) 0)<=32:=bl_le t1
 have hbl:Lib.bitLen (nth xs (nz xs - 1)).toNat=bl (xs.getD (nz xs - 1) 0):=by
  unfold nth;rw[Int.toNat_natCast];exact bitLen_bl _ (Nat.lt_trans t1 (by decide))
 have htop:0<xs.getD (nz xs - 1) 0:=by
  rcases Nat.eq_zero_or_pos (xs.getD (nz xs - 1) 0) with h | h
  ·have h3:=nz_zero (xs:=xs.take (nz xs)) (k:=nz xs - 1) (by rw[List.length_take];omega) (by simpa [List.getD,show nz xs - 1<nz xs by omega] using h);have h5:(dig L32 (val L32 xs)).length=nz xs:=length_dig_val (by decide) dx;have h6:=take_nz (B:=L32) (by decide) (Dig_dig (B:=L32) (by decide) (val L32 xs));rw[val_dig (by decide)] at h6;have h7:=congrArg List.length h6;rw[List.length_take,h5,dig_val_take (by decide) dx] at h7
   have h8:nz ((xs.take (nz xs)).take (nz xs - 1+1))=nz (xs.take (nz xs)):=by
    rw[show nz xs - 1+1=nz xs by omega,List.take_take,Nat.min_self]
   have h9:=nz_le ((xs.take (nz xs)).take (nz xs - 1));rw[List.length_take,List.length_take] at h9
   omega
  exact h
 have hfin:bl (val L32 xs)=(nz xs - 1)*32+bl (xs.getD (nz xs - 1) 0):=by
  have e:=val_take_nz (B:=L32) (by decide) dx;have e2:=val_take_succ' L32 xs (nz xs - 1);rw[show nz xs - 1+1=nz xs by omega] at e2;have e3:L32 ^ (nz xs - 1)=2 ^ ((nz xs - 1)*32):=by rw[Nat.mul_comm,Nat.pow_mul]
  have e4:=val_lt (dx.take (nz xs - 1));rw[List.length_take,Nat.min_eq_left (by omega),e3] at e4;rw[<-e,e2,e3,bl_top _ _ _ e4 htop]
 generalize bl (xs.getD (nz xs - 1) 0)=b at *;have HF:=Lib.hid hfin;have HB:=Lib.hid hbl;clear h0 a4 hbl hfin;go_enter Tryz.func149,Tryz.ntmps149
 go_wp2_with fail
 refine (sig_any _ _ _ xs _ HX.out).mono ?_;rintro e w' ⟨rfl,rfl⟩;go_wp2_with fail
 refine (Tryz.bits_Len32 _ _ (by omega) (by omega)).mono ?_;rintro e w' ⟨rfl,rfl⟩;rw[HB.out];go_wp2_with fail
 go_ret
 refine⟨?_,rfl⟩;rw[HF.out,show (((nz xs - 1)*32+b:Nat):Int)=(((nz xs:Nat):Int) - 1)*32+(b:Int) by omega]
 rfl
theorem bits_n {va:Value} {n k:Nat} {w:World} (hx:GN w va n k) (hk:k<=1000000) :
  Calls Tryz.prog 149 #[va] w fun e w'=>e=.returned (.int .i64 ((bl n:Nat):Int))/\w=w':=by
 obtain⟨xs,hx,dx,rfl,lx⟩:=hx;exact bits_nat _ _ w hx dx (by omega)
theorem getD_set (P:List Nat) (i v t:Nat):(P.set i v).getD t 0=if t=i/\i<P.length then v else P.getD t 0:=by
 by_cases h:t=i
 ·subst h
  by_cases hl:t<P.length
  ·simp[List.getD,hl]
  simp[List.getD,hl]
 rw[List.getD_eq_getElem?_getD,List.getElem?_set_ne (fun e=>h e.symm),<-List.getD_eq_getElem?_getD,if_neg (by simp[h])]
def Keeps (w w':World):Prop:=∀ a k z,w.cell? a=some (.int k z)->w'.cell? a=some (.int k z)
theorem Keeps.refl (w:World):Keeps w w:=fun _ _ _ h=>h
theorem Keeps.trans {a b c:World} (h:Keeps a b) (k:Keeps b c):Keeps a c:=fun p i z hc=>k p i z (h p i z hc)
theorem Below.keeps {w w':World} (h:Below w.heap.size w w'):Keeps w w':=fun a k z hc=>by
 rw[h.cell (World.block_lt_of_cell? w a hc)];exact hc
def noInt (c:Array Value):Bool:=c.toList.all fun v=>match v with | .int ..=>false | _=>true
structure Priv (g:Nat) (w w':World):Prop where
 os:w'.os=w.os
 tape:w'.tape=w.tape
 output:w'.output=w.output
 size:w'.heap.size=w.heap.size
 block:∀ k,k≠g->w'.heap[k]?=w.heap[k]?
 keeps:Keeps w w'
 shape:∀ c T,w.heap[g]?=some (.cells c T (0,0))->noInt c=true->∃ c',w'.heap[g]?=some (.cells c' T (0,0))/\c'.size=c.size/\noInt c'=true
theorem cell_at {w:World} {g:Nat} {c:Array Value} {T:TypeId} (h:w.heap[g]?=some (.cells c T (0,0))) (i:Nat) {v:Value} (hv:c[i]?=some v):w.cell? ⟨g,i,none⟩=some v:=by
 rw[cell_of_row w g i _ T (0,0) h];exact hv
theorem froz_at {w:World} {g:Nat} {c:Array Value} {T:TypeId} (h:w.heap[g]?=some (.cells c T (0,0))) (i:Nat):w.frozen? ⟨g,i,none⟩=false:=frozen_of_row w g i _ T h
theorem made_at (W:World) (o:Obj) (g:Nat) (h:W.heap.size=g):(W.alloc o).heap[g]?=some o:=by
 subst h
 show (W.heap.push o)[W.heap.size]?=some o
 simp
theorem made_more {W:World} {g:Nat} {ob:Obj} (h:W.heap[g]?=some ob) (o:Obj):(W.alloc o).heap[g]?=some ob:=by
 rw[Below.heap_alloc W o g (Array.getElem?_eq_some_iff.1 h).1];exact h
namespace Rely
abbrev Fact:=(Nat->Value)->Value->World->Prop
def mask (L:List Nat) (x:Nat->Value):Nat->Value:=fun j=>if L.contains j then x j else undef
theorem mask_in {L:List Nat} {x:Nat->Value} {j:Nat} (h:L.contains j=true):mask L x j=x j:=by
 unfold mask;rw[if_pos h]
def upd (x:Nat->Value) (k:Nat) (v:Value):Nat->Value:=fun j=>if j=k then v else x j
theorem upd_same (x:Nat->Value) (k:Nat) (v:Value):upd x k v k=v:=if_pos rfl
theorem upd_ne (x:Nat->Value) {k j:Nat} (v:Value) (h:j≠k):upd x k v j=x j:=if_neg h
theorem mask_upd {L:List Nat} {x:Nat->Value} {k:Nat} (v:Value) (h:L.contains k=false):mask L (upd x k v)=mask L x:=by
 funext j
 unfold mask
 by_cases hj:L.contains j=true
 ·rw[if_pos hj,if_pos hj,upd_ne];intro e;subst e;rw[h] at hj;cases hj
 rw[if_neg hj,if_neg hj]
def dstOf (ops:List Oper) (j:Nat):Option Tmp:=(ops[j]?).bind (·.dst)
def dep (D:List (List Nat)) (k:Nat):List Nat:=D.getD k []
def ok (ops:List Oper) (D:List (List Nat)) (m size:Nat):Bool:=
 decide (m<=ops.length) && (List.range ops.length).all fun k =>
  match ops[k]? with
  | none=>false
  | some o =>
   (o.after.all fun e=>!Region.binds .any e || decide (e.on<k)) &&
   ((dep D k).all fun j=>(o.after.any fun e=>Region.binds .any e && (e.on==j || (dep D e.on).contains j)) && ((dep D j).all fun i=>(dep D k).contains i) && decide (j<k)) &&
   (decide (k<m) || (List.range m).all fun j=>(dep D k).contains j) &&
   (match o.dst with | none=>true | some d=>decide (d<size) && (List.range k).all fun j=>dstOf ops j != some d)
def okSt (ops:List Oper) (D:List (List Nat)) (al:List Nat) (st:List (Nat × Nat)) (nq:Nat):Bool:=
 (List.range ops.length).all fun k=>match st.lookup k with
  | none=>true
  | some i=>(if i<1000 then (dep D k).contains i && al.contains i else decide (i - 1000<nq)) && (List.range ops.length).all fun j=>j==k || st.lookup j != some i
def pre (ops:List Oper) (D:List (List Nat)) (k t:Nat):Bool:=
 (List.range ops.length).all fun j=>dstOf ops j != some t || j==k || (dep D j).contains k
def fill:List Oper->(Nat->Value)->Nat->Array Value->Array Value
 | [],_,_,t=>t
 | o::l,x,k,t=>fill l x (k+1) (match o.dst with | some d=>t.setIfInBounds d (x k) | none=>t)
theorem fill_eq:∀ (l:List Oper) (x:Nat->Value) (k:Nat) (t T:Array Value),T.size=t.size ->
  (∀ j d,dstOf l j=some d->T[d]?=some (x (k+j)))->(∀ s,(∀ j,dstOf l j≠some s)->T[s]?=t[s]?)->fill l x k t=T
 | [],x,k,t,T,hs,_,hp=>by
  refine Array.ext_getElem? (fun i=>?_);rw[hp i (fun j=>by simp[dstOf])]
  rfl
 | o::l,x,k,t,T,hs,hd,hp=>by
  have hd':∀ j d,dstOf l j=some d->T[d]?=some (x (k+1+j)):=fun j d h=>by
   rw[hd (j+1) d (by simpa [dstOf] using h),Nat.add_right_comm,Nat.add_assoc]
  unfold fill
  cases ho:o.dst with
  | none =>
   refine fill_eq l x (k+1) t T hs hd' (fun s h=>hp s (fun j=>?_))
   cases j with
   | zero=>simp[dstOf,ho]
   | succ j=>simpa [dstOf] using h j
  | some d =>
   have h0:T[d]?=some (x k):=hd 0 d (by simp[dstOf,ho]);have hlt:d<t.size:=by rw[<-hs];exact (Array.getElem?_eq_some_iff.1 h0).1
   refine fill_eq l x (k+1) _ T (by simpa using hs) hd' (fun s h=>?_)
   by_cases e:d=s
   ·subst e;rw[h0]
    simp[hlt]
   rw[Array.getElem?_setIfInBounds_ne e];refine hp s (fun j=>?_)
   cases j with
   | zero=>simp[dstOf,ho,e]
   | succ j=>simpa [dstOf] using h j
def noQ:Exit->Act->World->Prop:=fun _ _ _=>False
def fact (F:List Fact) (j:Nat):Fact:=(F.reverse[j]?).getD fun _ _ _=>True
section
variable (P:Program) (ops:List Oper) (D:List (List Nat)) (al:List Nat) (st:List (Nat × Nat)) (og:Nat->Nat) (nq:Nat) (t0:Array Value) (ds:List Deferred) (w0:World)
def own (k:Nat):Option Nat:=st.lookup k
def tv (x:Nat->Value) (i:Nat):Value:=if i<1000 then x i else .pointer (some ⟨og (i - 1000),0,none⟩)
structure At (F:Nat->Fact) (k:Nat) (T:Array Value) (x:Nat->Value) (w:World):Prop where
 be:∀ B,B<=w0.heap.size->(∀ q,q<nq->B<=og q)->Below B w0 w
 bl:∀ b,b<w0.heap.size->(∀ q,q<nq->og q≠b)->w.heap[b]?=w0.heap[b]?
 kp:Keeps w0 w
 od:∀ q,q<nq->(∀ k',own st k'=some (1000+q)->k'=k\/(dep D k').contains k=true)->w.heap[og q]?=w0.heap[og q]?
 tm:∀ j d,(dep D k).contains j=true->dstOf ops j=some d->T[d]?=some (x j)
 fa:∀ j,(dep D k).contains j=true->F j (mask (dep D j) x) (x j) w
 pre:∀ t,Rely.pre ops D k t=true->T[t]?=t0[t]?
structure Next (V:Fact) (k:Nat) (x:Nat->Value) (w:World) (v:Value) (w':World):Prop where
 is:V x v w'
 bw:own st k=none->Below w.heap.size w w'
 pv:∀ i,own st k=some i->∃ g,tv og x i=.pointer (some ⟨g,0,none⟩)/\Priv g w w'
 al:al.contains k=true->∃ g,v=.pointer (some ⟨g,0,none⟩)/\w.heap.size<=g/\g<w'.heap.size
def Runs (F:Nat->Fact) (k:Nat) (o:Oper) (V:Fact):Prop:=
 ∀ (T:Array Value) (x:Nat->Value) (w:World),At ops D st og nq t0 w0 F k T x w ->
  ∀ K:Act->World->Prop,Hid (∀ v w',Next al st og V k x w v w'->K ((⟨T,ds⟩:Act).put o.dst v) w') ->
   if Region.wanted o (yielded ops.toArray T)=true then o.wp P ⟨T,ds⟩ w K noQ else K ((⟨T,ds⟩:Act).put o.dst undef) w
def Stays (k:Nat) (V:Fact):Prop:=(∀ x v w w',V x v w->Below w.heap.size w w'->V x v w')/\(st ≠ []->∀ x v w w' g,V x v w->(∀ i,own st k=some i->tv og x i ≠ .pointer (some ⟨g,0,none⟩))->Priv g w w'->V x v w')
def Left (F:Nat->Fact) (m:Nat) (x:Nat->Value) (w:World):Prop:=
 ((∀ B,B<=w0.heap.size->(∀ q,q<nq->B<=og q)->Below B w0 w)/\(∀ b,b<w0.heap.size->(∀ q,q<nq->og q≠b)->w.heap[b]?=w0.heap[b]?)/\Keeps w0 w)/\(∀ j,j<m->F j (mask (dep D j) x) (x j) w) /\
 (∀ i,al.contains i=true->i<m->∃ g,x i=.pointer (some ⟨g,0,none⟩)/\w0.heap.size<=g/\g<w.heap.size) /\
 (∀ i j,al.contains i=true->al.contains j=true->i<m->j<m->i≠j->x i≠x j)
def Chain (m:Nat) (G:(Nat->Value)->World->Prop):List Oper->Nat->List Fact->Prop
 | [],k,F=>k=m/\∀ x w,Left D al og nq w0 (fact F) m x w->G x w
 | o::rest,k,F=>(k=m/\∀ x w,Left D al og nq w0 (fact F) m x w->G x w) \/
  ∃ V,Stays st og k V/\Runs P ops D al st og nq t0 ds w0 (fact F) k o V/\Chain m G rest (k+1) (V::F)
variable {P ops D al st og nq t0 ds w0}
theorem Chain.done {m:Nat} {G:(Nat->Value)->World->Prop} {l:List Oper} {F:List Fact} (h:∀ x w,Left D al og nq w0 (fact F) m x w->G x w):Chain P ops D al st og nq t0 ds w0 m G l m F:=by
 cases l with
 | nil=>exact⟨rfl,h⟩
 | cons o l=>exact Or.inl ⟨rfl,h⟩
theorem Chain.step {m k:Nat} {G:(Nat->Value)->World->Prop} {o:Oper} {l:List Oper} {F:List Fact} (V:Fact) (hs:Stays st og k V) (hr:Runs P ops D al st og nq t0 ds w0 (fact F) k o V)
  (h:Chain P ops D al st og nq t0 ds w0 m G l (k+1) (V::F)):Chain P ops D al st og nq t0 ds w0 m G (o::l) k F:=Or.inr ⟨V,hs,hr,h⟩
def plain (al:List Nat) (st:List (Nat × Nat)) (k:Nat):Bool:=!al.contains k && (own st k).isNone
theorem Next.plain {V:Fact} {k:Nat} {x:Nat->Value} {w:World} {v:Value} {w':World} (hp:plain al st k=true) (h:V x v w') (hb:Below w.heap.size w w'):Next al st og V k x w v w':=by
 unfold Rely.plain at hp;simp only[Bool.and_eq_true,Bool.not_eq_true',Option.isNone_iff_eq_none] at hp;exact⟨h,fun _=>hb,fun i hi=>(by rw[hp.2] at hi;cases hi),fun e=>(by rw[hp.1] at e;cases e)⟩
theorem Chain.det {m k:Nat} {G:(Nat->Value)->World->Prop} {o:Oper} {l:List Oper} {F:List Fact} (f:(Nat->Value)->Value) (hp:plain al st k=true)
  (hr:∀ (T:Array Value) (x:Nat->Value) (w:World),At ops D st og nq t0 w0 (fact F) k T x w->Region.wanted o (yielded ops.toArray T)=true/\(execOp (Act.eval ⟨T,ds⟩) o).run P w=.ok (.value (f x)) w)
  (h:Chain P ops D al st og nq t0 ds w0 m G l (k+1) ((fun x v _=>v=f x)::F)):Chain P ops D al st og nq t0 ds w0 m G (o::l) k F:=by
 refine Chain.step (fun x v _=>v=f x) ⟨fun _ _ _ _ e _=>e,fun _ _ _ _ _ _ e _ _=>e⟩ (fun T x w hA K hK=>?_) h;obtain⟨hw,he⟩:=hr T x w hA;rw[if_pos hw];unfold Oper.wp;rw[he];exact hK.out _ _ (Next.plain hp rfl (Below.refl _ _))
theorem Chain.grow {m k:Nat} {G:(Nat->Value)->World->Prop} {o:Oper} {l:List Oper} {F:List Fact} (V:Fact) (hs:∀ x v w w',V x v w->Below w.heap.size w w'->V x v w') (hst:st=[]) (hp:plain al st k=true)
  (hr:∀ (T:Array Value) (x:Nat->Value) (w:World),At ops D st og nq t0 w0 (fact F) k T x w->Region.wanted o (yielded ops.toArray T)=true /\
   ∀ K:Act->World->Prop,Hid (∀ v w',V x v w'->Below w.heap.size w w'->K ((⟨T,ds⟩:Act).put o.dst v) w')->o.wp P ⟨T,ds⟩ w K noQ)
  (h:Chain P ops D al st og nq t0 ds w0 m G l (k+1) (V::F)):Chain P ops D al st og nq t0 ds w0 m G (o::l) k F:=by
 refine Chain.step V ⟨hs,fun h=>absurd hst h⟩ (fun T x w hA K hK=>?_) h;obtain⟨hw,he⟩:=hr T x w hA;rw[if_pos hw];exact he K fun v w' hv hb=>hK.out v w' (Next.plain hp hv hb)
theorem own_one {st:List (Nat × Nat)} {i k:Nat} (h:(st.all fun p=>p.2 != i || p.1==k)=true):∀ k',own st k'=some i->k'=k:=by
 intro k' hk;unfold own at hk;rw[List.all_eq_true] at h
 have:∀ (l:List (Nat × Nat)),(∀ p ∈ l,(p.2 != i || p.1==k)=true)->l.lookup k'=some i->k'=k:=by
  intro l
  induction l with
  | nil=>intro _ h;cases h
  | cons p l ih =>
   intro hp hl;obtain⟨a,b⟩:=p;rw[List.lookup_cons] at hl
   split at hl
   ·rename_i he
    injection hl with hl;have h1:=hp (a,b) (List.mem_cons_self ..);simp only[Bool.or_eq_true,bne_iff_ne,ne_eq,beq_iff_eq] at h1;rw[beq_iff_eq] at he;rcases h1 with h1 | h1
    ·exact absurd hl h1
    exact he.trans h1
   exact ih (fun p hp'=>hp p (List.mem_cons_of_mem _ hp')) hl
 exact this st h hk
theorem fact_lt {V:Fact} {F:List Fact} {j:Nat} (h:j<F.length):fact (V::F) j=fact F j:=by
 unfold fact;rw[List.reverse_cons,List.getElem?_append_left (by simpa using h)]
theorem fact_len {V:Fact} {F:List Fact}:fact (V::F) F.length=V:=by
 unfold fact;rw[List.reverse_cons,List.getElem?_append_right (by simp)]
 simp
theorem At.congr {F F':Nat->Fact} {k:Nat} {T:Array Value} {x:Nat->Value} {w:World} (h:At ops D st og nq t0 w0 F k T x w) (e:∀ j,(dep D k).contains j=true->F j=F' j):At ops D st og nq t0 w0 F' k T x w:=
 ⟨h.be,h.bl,h.kp,h.od,h.tm,fun j hj=>by rw[<-e j hj];exact h.fa j hj,h.pre⟩
theorem Chain.all {m:Nat} {G:(Nat->Value)->World->Prop} (hlt:∀ k j,k<m->(dep D k).contains j=true->j<k):∀ (l:List Oper) (k:Nat) (F:List Fact),F.length=k->k<=m->(∀ j,l[j]?=ops[k+j]?) ->
  Chain P ops D al st og nq t0 ds w0 m G l k F->∃ H:Nat->Fact,(∀ j,j<k->H j=fact F j) /\
   (∀ j,k<=j->j<m->Stays st og j (H j)/\∃ o,ops[j]?=some o/\Runs P ops D al st og nq t0 ds w0 H j o (H j))/\∀ x w,Left D al og nq w0 H m x w->G x w:=by
 intro l
 induction l with
 | nil=>intro k F hF hk hl h;exact⟨fact F,fun _ _=>rfl,fun j h1 h2=>by have:=h.1;omega,h.2⟩
 | cons o l ih =>
  intro k F hF hk hl h;rcases h with ⟨rfl,h⟩ | ⟨V,hs,hr,h⟩
  ·exact⟨fact F,fun _ _=>rfl,fun j h1 h2=>by omega,h⟩
  by_cases hkm:k<m
  ·obtain⟨H,h1,h2,h3⟩:=ih (k+1) (V::F) (by simp[hF]) hkm (fun j=>by have:=hl (j+1);simp at this;rw[this,Nat.add_right_comm,Nat.add_assoc]) h;refine⟨H,fun j hj=>by rw[h1 j (by omega),fact_lt (by omega)],fun j hj hjm=>?_,h3⟩;rcases Nat.lt_or_ge k j with hkj | hkj
   ·exact h2 j hkj hjm
   obtain rfl:j=k:=by omega
   have hH:H j=V:=by rw[h1 j (by omega),<-hF,fact_len]
   refine⟨by rw[hH];exact hs,o,by have:=hl 0;simpa using this.symm,?_⟩;rw[hH];intro T x w hA;exact hr T x w (hA.congr (fun i hi=>by have:=hlt j i hkm hi;rw[h1 i (by omega),fact_lt (by omega)]))
  obtain rfl:k=m:=by omega
  have hl0:∀ (l:List Oper) (k':Nat) (F:List Fact),k<k'->¬ Chain P ops D al st og nq t0 ds w0 k G l k' F:=by
   intro l
   induction l with
   | nil=>intro k' F hk' h;have:=h.1;omega
   | cons o l ih=>intro k' F hk' h;rcases h with ⟨e,_⟩ | ⟨_,_,_,h⟩;(omega);exact ih _ _ (by omega) h
  exact absurd h (hl0 _ _ _ (by omega))
theorem Oper.wp_noQ {o:Oper} {a:Act} {w:World} {K:Act->World->Prop} {Q:Exit->Act->World->Prop} (h:o.wp P a w K noQ):o.wp P a w K Q:=by
 unfold Oper.wp at *;generalize (execOp a.eval o).run P w=r at *
 cases r with
 | ok n w' =>
  cases n<;>simp only[Oper.upon] at h ⊢ <;>
   first
    | exact h
    | exact Calls.mono h (fun e w'' he=>by
      cases e with
      | returned v=>exact he
      | panicked c=>exact False.elim he
      | outgrown=>obtain⟨_,_,hh⟩:=he;exact False.elim hh)
 | halt x w'=>cases x<;>simp only[Oper.upon] at h ⊢<;>exact False.elim h
structure Inv (H:Nat->Fact) (m:Nat) (listed:Array Bool) (a:Act) (w:World) (x:Nat->Value):Prop where
 tm:∀ j d,listed.getD j false=true->dstOf ops j=some d->a.tmps[d]?=some (x j)
 pre:∀ t,(∀ j,listed.getD j false=true->dstOf ops j≠some t)->a.tmps[t]?=t0[t]?
 sz:a.tmps.size=t0.size
 df:a.defers=ds
 be:∀ B,B<=w0.heap.size->(∀ q,q<nq->B<=og q)->Below B w0 w
 bl:∀ b,b<w0.heap.size->(∀ q,q<nq->og q≠b)->w.heap[b]?=w0.heap[b]?
 kp:Keeps w0 w
 od:∀ q,q<nq->(∀ k',listed.getD k' false=true->own st k'≠some (1000+q))->w.heap[og q]?=w0.heap[og q]?
 sw:w0.heap.size<=w.heap.size
 ls:listed.size=ops.length
 dn:∀ j,listed.getD j false=true->∀ i,(dep D j).contains i=true->listed.getD i false=true
 lt:∀ j,listed.getD j false=true->j<m
 fa:∀ j,listed.getD j false=true->H j (mask (dep D j) x) (x j) w
 pt:∀ i,al.contains i=true->listed.getD i false=true->∃ g,x i=.pointer (some ⟨g,0,none⟩)/\w0.heap.size<=g/\g<w.heap.size
 ne:∀ i j,al.contains i=true->al.contains j=true->listed.getD i false=true->listed.getD j false=true->i≠j->x i≠x j
section
variable {m size:Nat} (hok:ok ops D m size=true)
include hok
theorem ok_len:m<=ops.length:=by
 unfold ok at hok;simp only[Bool.and_eq_true,decide_eq_true_eq] at hok;exact hok.1
theorem ok_at {k:Nat} {o:Oper} (ho:ops[k]?=some o) :
  (∀ e ∈ o.after,Region.binds .any e=true->e.on<k) /\
  (∀ j,(dep D k).contains j=true->(∃ e ∈ o.after,Region.binds .any e=true/\(e.on=j\/(dep D e.on).contains j=true))/\(∀ i,(dep D j).contains i=true->(dep D k).contains i=true)/\j<k) /\
  (k<m\/∀ j,j<m->(dep D k).contains j=true) /\
  (∀ d,o.dst=some d->d<size/\∀ j,j<k->dstOf ops j≠some d):=by
 unfold ok at hok;simp only[Bool.and_eq_true,decide_eq_true_eq,List.all_eq_true,List.mem_range] at hok;have h:=hok.2 k (List.getElem?_eq_some_iff.1 ho).1;rw[ho] at h;simp only[Bool.and_eq_true,Bool.or_eq_true,Bool.not_eq_true',decide_eq_true_eq,List.all_eq_true,List.mem_range,Array.all_eq_true_iff_forall_mem] at h;obtain⟨⟨⟨h1,h2⟩,h3⟩,h4⟩:=h;refine⟨fun e he hb=>(h1 e he).resolve_left (by rw[hb];exact Bool.noConfusion),fun j hj=>?_,h3,fun d hd=>?_⟩
 ·obtain⟨⟨h5,h6⟩,h7⟩:=h2 j (by simpa using hj);obtain⟨e,he,hb⟩:=Array.any_eq_true'.1 h5;simp only[Bool.and_eq_true,Bool.or_eq_true,beq_iff_eq] at hb;exact⟨⟨e,he,hb.1,hb.2⟩,fun i hi=>h6 i (by simpa using hi),h7⟩
 rw[hd] at h4;simp only[Bool.and_eq_true,decide_eq_true_eq,List.all_eq_true,List.mem_range,bne_iff_ne,ne_eq] at h4;exact h4
theorem ok_lt {k j:Nat} (h:(dep D k).contains j=true) (hk:k<ops.length):j<k:=((ok_at hok (List.getElem?_eq_getElem hk)).2.1 j h).2.2
end
theorem okSt_at (h:okSt ops D al st nq=true) {k:Nat} (hk:k<ops.length):∀ i,own st k=some i->(i<1000->(dep D k).contains i=true/\al.contains i=true)/\(¬ i<1000->i - 1000<nq)/\∀ j,j<ops.length->j≠k->own st j≠some i:=by
 intro i hi;unfold okSt at h;rw[List.all_eq_true] at h;have h1:=h k (List.mem_range.2 hk);unfold own at hi;rw[hi] at h1;simp only[Bool.and_eq_true,List.all_eq_true,List.mem_range,Bool.or_eq_true,beq_iff_eq,bne_iff_ne,ne_eq] at h1;refine⟨fun h2=>?_,fun h2=>?_,fun j hj hjk=>(h1.2 j hj).resolve_left hjk⟩
 ·have h3:=h1.1;rw[if_pos h2] at h3
  simpa using h3
 have h3:=h1.1;rw[if_neg h2] at h3
 simpa using h3
theorem tv_mask {L:List Nat} {x:Nat->Value} {i:Nat} (h:i<1000->L.contains i=true):tv og (mask L x) i=tv og x i:=by
 unfold tv
 split
 ·rename_i hi;exact mask_in (h hi)
 rfl
theorem getD_set {l:Array Bool} {i j:Nat} (h:i<l.size):(l.setIfInBounds i true).getD j false=(decide (j=i) || l.getD j false):=by
 by_cases e:i=j
 ·subst e;simp[h]
 rw[getD_set_ne false e]
 simp[show ¬ j=i from fun x=>e x.symm]
theorem count_false {l:List Bool} {i:Nat} (h:l[i]?=some false):(l.set i true).count false+1=l.count false:=by
 obtain⟨hi,hv⟩:=List.getElem?_eq_some_iff.1 h;rw[List.count_set hi,hv];have:0<l.count false:=List.count_pos_iff.2 (hv ▸ List.getElem_mem hi)
 simp
 omega
section
variable {m:Nat} {Q:Exit->Act->World->Prop} {H:Nat->Fact}
theorem Inv.step (hok:ok ops D m t0.size=true) (hoks:okSt ops D al st nq=true) (hog:∀ q,q<nq->og q<w0.heap.size) (hod:∀ q q',q<nq->q'<nq->q≠q'->og q≠og q') (hst:∀ j,j<m->Stays st og j (H j)) {listed:Array Bool} {a:Act} {w:World} {x:Nat->Value} (I:Inv (ops:=ops) (D:=D) (al:=al) (st:=st) (og:=og) (nq:=nq) (t0:=t0) (ds:=ds) (w0:=w0) H m listed a w x)
  {k:Nat} {o:Oper} (ho:ops[k]?=some o) (hkm:k<m) (hun:listed.getD k false=false) (hdep:∀ j,(dep D k).contains j=true->listed.getD j false=true) {v:Value} {w':World}
  (hN:Next al st og (H k) k (mask (dep D k) x) w v w'):Inv (ops:=ops) (D:=D) (al:=al) (st:=st) (og:=og) (nq:=nq) (t0:=t0) (ds:=ds) (w0:=w0) H m (listed.setIfInBounds k true) (a.put o.dst v) w' (upd x k v):=by
 have hkl:k<ops.length:=(List.getElem?_eq_some_iff.1 ho).1;have hks:k<listed.size:=by rw[I.ls];exact hkl
 obtain⟨c1,c2,c3,c4⟩:=ok_at hok ho;have hdk:dstOf ops k=o.dst:=by simp[dstOf,ho]
 have hsp:=okSt_at hoks hkl
 -- where operation k stores
 have hpv:∀ i,own st k=some i->∃ g,tv og x i=.pointer (some ⟨g,0,none⟩)/\Priv g w w'/\((i<1000/\w0.heap.size<=g)\/(¬ i<1000/\i - 1000<nq/\g=og (i - 1000))):=by
  intro i ho';obtain⟨g,hg,hp⟩:=hN.pv i ho';obtain⟨h1,h2,h3⟩:=hsp i ho';rw[tv_mask (fun h=>(h1 h).1)] at hg;refine⟨g,hg,hp,?_⟩
  by_cases hi:i<1000
  ·obtain⟨g',e,h4,h5⟩:=I.pt i (h1 hi).2 (hdep i (h1 hi).1);unfold tv at hg;rw[if_pos hi] at hg;rw[hg] at e;injection e with e;injection e with e;injection e with e;subst e;exact Or.inl ⟨hi,h4⟩
  unfold tv at hg;rw[if_neg hi] at hg;injection hg with e;injection e with e;injection e with e;exact Or.inr ⟨hi,h2 hi,e.symm⟩
 have hsw:w.heap.size<=w'.heap.size:=by
  cases ho':own st k with
  | none=>exact (hN.bw ho').size
  | some i=>obtain⟨g,hg,hp,_⟩:=hpv i ho';rw[hp.size];exact Nat.le_refl _
 have hbe:∀ B,B<=w0.heap.size->(∀ q,q<nq->B<=og q)->Below B w0 w':=fun B hB hq=>by
  refine (I.be B hB hq).trans ?_
  cases ho':own st k with
  | none=>exact (hN.bw ho').mono (by have:=I.sw;omega)
  | some i =>
   obtain⟨g,hg,hp,hc⟩:=hpv i ho';refine⟨hp.os,hp.tape,hp.output,hsw,fun q hqB=>hp.block q ?_⟩;rcases hc with ⟨_,hc⟩ | ⟨_,h1,hc⟩
   ·omega
   have:=hq _ h1;omega
 have hbl:∀ b,b<w0.heap.size->(∀ q,q<nq->og q≠b)->w'.heap[b]?=w0.heap[b]?:=fun b hb hq=>by
  rw[<-I.bl b hb hq]
  cases ho':own st k with
  | none=>exact (hN.bw ho').block b (by have:=I.sw;omega)
  | some i =>
   obtain⟨g,hg,hp,hc⟩:=hpv i ho';refine hp.block b ?_;rcases hc with ⟨_,hc⟩ | ⟨_,h1,hc⟩
   ·omega
   rw[hc];exact fun e=>hq _ h1 e.symm
 have hkp:Keeps w0 w':=by
  refine I.kp.trans ?_
  cases ho':own st k with
  | none=>exact Below.keeps (hN.bw ho')
  | some i=>obtain⟨g,hg,hp,_⟩:=hpv i ho';exact hp.keeps
 have hne:∀ j,listed.getD j false=true->j≠k:=fun j hj e=>by subst e;rw[hun] at hj;cases hj
 have hset:∀ j,(listed.setIfInBounds k true).getD j false=true->j=k\/listed.getD j false=true:=fun j hj=>by
  rw[getD_set hks] at hj;simpa using hj
 have hput:(a.put o.dst v).tmps=match o.dst with | some d=>a.tmps.setIfInBounds d v | none=>a.tmps:=by cases o.dst<;>rfl
 have hself:(dep D k).contains k=false:=by
  cases h:(dep D k).contains k with
  | false=>rfl
  | true=>have:=(c2 k h).2.2;omega
 -- two operations write two slots
 have hds:∀ j d,dstOf ops j=some d->o.dst=some d->j=k:=fun j d h1 h2=>by
  rcases Nat.lt_trichotomy j k with h | h | h
  ·exact absurd h1 ((c4 d h2).2 j h)
  ·exact h
  cases hoj:ops[j]? with
  | none=>simp[dstOf,hoj] at h1
  | some oj=>exact absurd (hdk.trans h2) (((ok_at hok hoj).2.2.2 d (by simpa [dstOf,hoj] using h1)).2 k h)
 refine⟨fun j d hj hd=>?_,fun t ht=>?_,?_,?_,hbe,hbl,hkp,fun q hq hl=>?_,Nat.le_trans I.sw hsw,by simpa using I.ls,fun j hj i hi=>?_,fun j hj=>?_,fun j hj=>?_,fun i hi hl=>?_,fun i j hi hj hli hlj hij=>?_⟩
 ·rw[hput];rcases hset j hj with rfl | hj'
  ·rw[hdk] at hd;rw[hd,upd_same];have:=(c4 d hd).1;rw[<-I.sz] at this
   simp[this]
  rw[upd_ne _ _ (hne j hj')]
  cases hod:o.dst with
  | none=>exact I.tm j d hj' hd
  | some e =>
   by_cases hde:e=d
   ·subst hde;exact absurd (hds j e hd hod) (hne j hj')
   simp only[];rw[Array.getElem?_setIfInBounds_ne hde];exact I.tm j d hj' hd
 ·rw[hput];have h1:a.tmps[t]?=t0[t]?:=I.pre t fun j hj=>ht j (by rw[getD_set hks];simp only[hj,Bool.or_true])
  cases hod:o.dst with
  | none=>exact h1
  | some e =>
   have:=ht k (by rw[getD_set hks];simp);rw[hdk,hod] at this;simp only[];rw[Array.getElem?_setIfInBounds_ne (fun h=>this (by rw[h]))];exact h1
 ·rw[hput,<-I.sz];cases o.dst<;>simp
 ·rw[<-I.df];cases o.dst<;>rfl
 ·rw[<-I.od q hq fun k' hk'=>hl k' (by rw[getD_set hks];simp only[hk',Bool.or_true])];have hlt:=hog q hq
  cases ho':own st k with
  | none=>exact (hN.bw ho').block _ (by have:=I.sw;omega)
  | some i =>
   obtain⟨g,hg,hp,hc⟩:=hpv i ho';refine hp.block _ ?_;rcases hc with ⟨_,hc⟩ | ⟨hi,h1,hc⟩
   ·omega
   rw[hc];refine hod q _ hq h1 (fun e=>hl k (by rw[getD_set hks];simp) ?_);rw[ho',e];congr 1;omega
 ·rw[getD_set hks];rcases hset j hj with rfl | hj'
  ·simp only[hdep i hi,Bool.or_true]
  simp only[I.dn j hj' i hi,Bool.or_true]
 ·rcases hset j hj with rfl | hj'
  ·exact hkm
  exact I.lt j hj'
 ·rcases hset j hj with rfl | hj'
  ·rw[mask_upd _ hself,upd_same];exact hN.is
  rw[upd_ne _ _ (hne j hj'),mask_upd]
  ·cases ho':own st k with
   | none=>exact (hst j (I.lt j hj')).1 _ _ _ _ (I.fa j hj') (hN.bw ho')
   | some i =>
    obtain⟨g,hg,hp,hc⟩:=hpv i ho';obtain⟨h1,h2,h3⟩:=hsp i ho';refine (hst j (I.lt j hj')).2 (fun e=>by subst e;cases ho') _ _ _ _ g (I.fa j hj') (fun i' hi'=>?_) hp;have hjl:j<ops.length:=by have:=I.lt j hj';have:=ok_len hok;omega
    obtain⟨h4,h5,h6⟩:=okSt_at hoks hjl i' hi';have hii:i'≠i:=fun e=>by subst e;exact h3 j hjl (hne j hj') hi'
    rw[tv_mask (fun h=>(h4 h).1)]
    by_cases hi1:i'<1000
    ·obtain⟨g',e',q1,q2⟩:=I.pt i' (h4 hi1).2 (I.dn j hj' i' (h4 hi1).1);have ht:tv og x i'=x i':=if_pos hi1;rw[ht];rcases hc with ⟨hi2,hc⟩ | ⟨hi2,hq2,hc⟩
     ·have ht2:tv og x i=x i:=if_pos hi2;rw[ht2] at hg;exact fun e=>I.ne i' i (h4 hi1).2 (h1 hi2).2 (I.dn j hj' i' (h4 hi1).1) (hdep i (h1 hi2).1) hii (e.trans hg.symm)
     intro e;rw[e'] at e;injection e with e;injection e with e;injection e with e;have:=hog _ hq2;omega
    have ht:tv og x i'=.pointer (some ⟨og (i' - 1000),0,none⟩):=if_neg hi1;rw[ht];intro e;injection e with e;injection e with e;injection e with e;have hl':=hog _ (h5 hi1);rcases hc with ⟨hi2,hc⟩ | ⟨hi2,hq2,hc⟩
    ·omega
    exact hod _ _ (h5 hi1) hq2 (by omega) (e.trans hc)
  cases h:(dep D j).contains k with
  | false=>rfl
  | true=>have:=I.dn j hj' k h;rw[hun] at this;cases this
 ·rcases hset i hl with rfl | hl'
  ·obtain⟨g,h1,h2,h3⟩:=hN.al hi;exact⟨g,by rw[upd_same];exact h1,by have:=I.sw;omega,h3⟩
  obtain⟨g,h1,h2,h3⟩:=I.pt i hi hl';exact⟨g,by rw[upd_ne _ _ (hne i hl')];exact h1,h2,by omega⟩
 rcases hset i hli with rfl | hli'<;>rcases hset j hlj with rfl | hlj'
 ·exact absurd rfl hij
 ·obtain⟨g,h1,h2,h3⟩:=hN.al hi;obtain⟨g',h1',h2',h3'⟩:=I.pt j hj hlj';rw[upd_same,upd_ne _ _ (hne j hlj'),h1,h1'];intro e;injection e with e;injection e with e;injection e with e;omega
 ·obtain⟨g,h1,h2,h3⟩:=hN.al hj;obtain⟨g',h1',h2',h3'⟩:=I.pt i hi hli';rw[upd_same,upd_ne _ _ (hne i hli'),h1,h1'];intro e;injection e with e;injection e with e;injection e with e;omega
 rw[upd_ne _ _ (hne i hli'),upd_ne _ _ (hne j hlj')];exact I.ne i j hi hj hli' hlj' hij
def Rest (P:Program) (ops:List Oper) (Q:Exit->Act->World->Prop) (t0:Array Value) (ds:List Deferred) (m:Nat) (x:Nat->Value) (w:World):Prop:=
 wpAny P .any ops.toArray Q (ops.length - m) (List.replicate m true++List.replicate (ops.length - m) false).toArray ⟨fill (ops.take m) x 0 t0,ds⟩ w
theorem dstOf_take {m j:Nat} (h:j<m):dstOf (ops.take m) j=dstOf ops j:=by
 unfold dstOf;rw[List.getElem?_take_of_lt h]
theorem dstOf_take_ge {m j:Nat} (h:m<=j):dstOf (ops.take m) j=none:=by
 unfold dstOf;rw[List.getElem?_eq_none (by simp;omega)];rfl
theorem finish (hml:m<=ops.length) {listed:Array Bool} {a:Act} {w:World} {x:Nat->Value}
  (I:Inv (ops:=ops) (D:=D) (al:=al) (st:=st) (og:=og) (nq:=nq) (t0:=t0) (ds:=ds) (w0:=w0) H m listed a w x) (hall:∀ j,j<m->listed.getD j false=true)
  (hG:∀ x w,Left D al og nq w0 H m x w->Rest P ops Q t0 ds m x w):wpAny P .any ops.toArray Q (listed.toList.count false) listed a w:=by
 have h:=hG x w ⟨⟨I.be,I.bl,I.kp⟩,fun j hj=>I.fa j (hall j hj),fun i hi him=>I.pt i hi (hall i him),fun i j hi hj him hjm hij=>I.ne i j hi hj (hall i him) (hall j hjm) hij⟩
 have hl:listed=(List.replicate m true++List.replicate (ops.length - m) false).toArray:=by
  apply Array.ext
  ·rw[I.ls];simp;omega
  intro i h1 h2;rw[I.ls] at h1
  by_cases hi:i<m
  ·have:=hall i hi;rw[Array.getD_eq_getD_getElem?,Array.getElem?_eq_getElem (by rw[I.ls];exact h1)] at this;simp only[Option.getD_some] at this;rw[this]
   simp[List.getElem_append_left,hi]
  have h3:listed.getD i false=false:=by
   cases h:listed.getD i false with
   | false=>rfl
   | true=>exact absurd (I.lt i h) hi
  rw[Array.getD_eq_getD_getElem?,Array.getElem?_eq_getElem (by rw[I.ls];exact h1)] at h3;simp only[Option.getD_some] at h3;rw[h3]
  simp[List.getElem_append,hi]
 have ha:a=⟨fill (ops.take m) x 0 t0,ds⟩:=by
  have e:fill (ops.take m) x 0 t0=a.tmps:=by
   refine fill_eq _ x 0 t0 a.tmps I.sz (fun j d hd=>?_) (fun t ht=>?_)
   ·rcases Nat.lt_or_ge j m with hj | hj
    ·rw[dstOf_take hj] at hd;rw[Nat.zero_add];exact I.tm j d (hall j hj) hd
    rw[dstOf_take_ge hj] at hd;cases hd
   refine I.pre t fun j hj=>?_
   have:=ht j
   rwa [dstOf_take (I.lt j hj)] at this
  rw[e,<-I.df]
 have hc:listed.toList.count false=ops.length - m:=by rw[hl];simp[List.count_replicate]
 rw[hc,hl,ha];exact h
theorem main (hok:ok ops D m t0.size=true) (hoks:okSt ops D al st nq=true) (hog:∀ q,q<nq->og q<w0.heap.size) (hod:∀ q q',q<nq->q'<nq->q≠q'->og q≠og q') (hst:∀ j,j<m->Stays st og j (H j)) (hrun:∀ j,j<m->∃ o,ops[j]?=some o/\Runs P ops D al st og nq t0 ds w0 H j o (H j))
  (hG:∀ x w,Left D al og nq w0 H m x w->Rest P ops Q t0 ds m x w) :
  ∀ (fuel:Nat) (listed:Array Bool) (a:Act) (w:World) (x:Nat->Value),listed.toList.count false=fuel->Inv (ops:=ops) (D:=D) (al:=al) (st:=st) (og:=og) (nq:=nq) (t0:=t0) (ds:=ds) (w0:=w0) H m listed a w x->wpAny P .any ops.toArray Q fuel listed a w:=by
 have hml:=ok_len hok;intro fuel
 induction fuel with
 | zero =>
  intro listed a w x hc I;rw[<-hc];refine finish hml I (fun j hj=>?_) hG;rw[Array.getD_eq_getD_getElem?,Array.getElem?_eq_getElem (by rw[I.ls];omega)];simp only[Option.getD_some];have h0:=List.count_eq_zero.1 hc
  cases h:listed[j]'(by rw[I.ls];omega) with
  | true=>rfl
  | false=>exact absurd (by rw[<-h];simp) h0
 | succ fuel ih =>
  intro listed a w x hc I
  by_cases hall:∀ j,j<m->listed.getD j false=true
  ·rw[<-hc];exact finish hml I hall hG
  -- what may come up is one of the first m
  have hready:∀ i,i ∈ Region.ready .any ops.toArray listed->listed.getD i false=false/\∃ o,ops[i]?=some o/\(∀ j,(dep D i).contains j=true->listed.getD j false=true)/\i<m:=by
   intro i hi;obtain⟨h1,o,ho,h2⟩:=mem_ready.1 hi;have ho':ops[i]?=some o:=by simpa using ho
   have hlt:i<ops.length:=(List.getElem?_eq_some_iff.1 ho').1;obtain⟨c1,c2,c3,c4⟩:=ok_at hok ho'
   have hd:∀ j,(dep D i).contains j=true->listed.getD j false=true:=fun j hj=>by
    obtain⟨⟨e,he,hb,h3⟩,_⟩:=c2 j hj;rcases h3 with rfl | h3
    ·exact h2 e he hb
    exact I.dn _ (h2 e he hb) j h3
   refine⟨?_,o,ho',hd,c3.resolve_right fun h=>hall fun j hj=>hd j (h j hj)⟩;rw[Array.getD_eq_getD_getElem?,Array.getElem?_eq_getElem (by rw[I.ls];exact hlt)] at h1 ⊢;exact h1
  refine⟨fun hr=>?_,fun i hi=>?_⟩
  ·-- the least that has not come up may come up
   exfalso
   have hex:∃ j,listed.getD j false=false/\j<m:=by
    refine Classical.byContradiction fun h=>hall fun j hj=>?_
    cases h2:listed.getD j false with
    | true=>rfl
    | false=>exact absurd ⟨j,h2,hj⟩ h
   have hmin:∃ j,(listed.getD j false=false/\j<m)/\∀ i,i<j->listed.getD i false=true:=by
    obtain⟨j,h1,h2⟩:=hex
    induction j using Nat.strongRecOn with
    | ind j ihj =>
     by_cases hlow:∃ i,i<j/\listed.getD i false=false
     ·obtain⟨i,h3,h4⟩:=hlow;exact ihj i h3 h4 (by omega)
     refine⟨j,⟨h1,h2⟩,fun i hi=>?_⟩
     cases h5:listed.getD i false with
     | true=>rfl
     | false=>exact absurd ⟨i,hi,h5⟩ hlow
   obtain⟨j,⟨h1,h2⟩,h3⟩:=hmin;have hjo:ops[j]?=some (ops[j]'(by omega)):=List.getElem?_eq_getElem (by omega)
   have:j ∈ Region.ready .any ops.toArray listed:=mem_ready.2 ⟨by
    rw[Array.getD_eq_getD_getElem?,Array.getElem?_eq_getElem (by rw[I.ls];omega)] at h1 ⊢
    exact h1,_,by rw[gsa];exact hjo,fun e he hb=>h3 _ ((ok_at hok hjo).1 e he hb)⟩
   rw[hr] at this;cases this
  obtain⟨hun,o,ho,hd,him⟩:=hready i hi;obtain⟨o',ho',hR⟩:=hrun i him;obtain rfl:o=o':=by rw[ho] at ho';exact Option.some.inj ho'
  have hil:i<ops.length:=(List.getElem?_eq_some_iff.1 ho).1
  have hA:At ops D st og nq t0 w0 H i a.tmps (mask (dep D i) x) w:=by
   obtain⟨c1,c2,c3,c4⟩:=ok_at hok ho;refine⟨I.be,I.bl,I.kp,fun q hq hk'=>I.od q hq fun k' hlk hok'=>?_,fun j d hj hd'=>?_,fun j hj=>?_,fun t ht=>I.pre t fun j hj hjt=>?_⟩
   ·rcases hk' k' hok' with e | e
    ·subst e;rw[hun] at hlk;cases hlk
    have:=I.dn k' hlk i e;rw[hun] at this;cases this
   ·rw[mask_in hj];exact I.tm j d (hd j hj) hd'
   ·have e:mask (dep D j) (mask (dep D i) x)=mask (dep D j) x:=by
     funext q
     unfold mask
     by_cases hq:(dep D j).contains q=true
     ·rw[if_pos hq,if_pos hq,if_pos ((c2 j hj).2.1 q hq)]
     rw[if_neg hq,if_neg hq]
    rw[e,mask_in hj];exact I.fa j (hd j hj)
   have hjl:j<ops.length:=by have:=I.lt j hj;omega
   unfold Rely.pre at ht;rw[List.all_eq_true] at ht;have h1:=ht j (List.mem_range.2 hjl);simp only[Bool.or_eq_true,bne_iff_ne,ne_eq,beq_iff_eq] at h1;rcases h1 with (h1 | h1) | h1
   ·exact h1 hjt
   ·subst h1;rw[hun] at hj;cases hj
   have:=I.dn j hj i h1;rw[hun] at this;cases this
  have hrun1:=hR a.tmps (mask (dep D i) x) w hA (fun a' w'=>∃ v,a'=(a.put o.dst v)/\Next al st og (H i) i (mask (dep D i) x) w v w') (fun v w' hN=>⟨v,by rw[<-I.df],hN⟩);have hil':i<listed.size:=by rw[I.ls];exact hil
  have hcount:(listed.setIfInBounds i true).toList.count false=fuel:=by
   have h1:listed.toList[i]?=some false:=by
    rw[Array.getD_eq_getD_getElem?,Array.getElem?_eq_getElem (by rw[I.ls];exact hil)] at hun;rw[List.getElem?_eq_getElem (by simpa using hil')]
    simpa using hun
   have:=count_false h1;rw[hc] at this;rw[Array.toList_setIfInBounds]
   omega
  have hgo:∀ a' w',(∃ v,a'=(a.put o.dst v)/\Next al st og (H i) i (mask (dep D i) x) w v w')->wpAny P .any ops.toArray Q fuel (listed.setIfInBounds i true) a' w':=by
   rintro a' w' ⟨v,rfl,hN⟩;exact ih _ _ _ _ hcount (I.step hok hoks hog hod hst ho him hun hd hN)
  unfold wpOp;rw[show ops.toArray[i]?=some o by simpa using ho];simp only[];have hae:(⟨a.tmps,ds⟩:Act)=a:=by rw[<-I.df]
  rw[hae] at hrun1
  split
  ·rename_i hw
   rw[if_pos hw] at hrun1;exact Or.inl (Oper.wp_noQ (Go.Oper.wp_mono hgo hrun1))
  rename_i hw
  rw[if_neg hw] at hrun1;exact hgo _ _ hrun1
theorem region {id:Nat} {w:World} (hm:P.follows .mixedOrders=true) (D:List (List Nat)) (al:List Nat) (st:List (Nat × Nat)) (og:Nat->Nat) (nq:Nat) (m:Nat) (hok:ok ops D m t0.size=true) (hoks:okSt ops D al st nq=true) (hog:∀ q,q<nq->og q<w.heap.size) (hod:∀ q q',q<nq->q'<nq->q≠q'->og q≠og q')
  (h:Chain P ops D al st og nq t0 ds w.drew m (Rest P ops Q t0 ds m) ops 0 []):(Code.region id ops.toArray true).wp P Q ⟨t0,ds⟩ w:=by
 refine wp_region_any hm ?_;have hml:=ok_len hok;obtain⟨H,_,h2,h3⟩:=Chain.all (fun k j hk hj=>ok_lt hok hj (by omega)) ops 0 [] rfl (Nat.zero_le _) (fun j=>by rw[Nat.zero_add]) h;have hc:(Array.replicate ops.toArray.size false).toList.count false=ops.toArray.size:=by simp
 refine main (w0:=w.drew) hok hoks hog hod (fun j hj=>(h2 j (Nat.zero_le _) hj).1) (fun j hj=>(h2 j (Nat.zero_le _) hj).2) h3 _ _ _ _ (fun _=>undef) hc ?_
 have hno:∀ j,(Array.replicate ops.toArray.size false).getD j false=true->False:=fun j hj=>by
  rw[Array.getD_eq_getD_getElem?] at hj
  by_cases h:j<ops.length<;>simp[h] at hj
 exact⟨fun j _ hj=>(hno j hj).elim,fun _ _=>rfl,rfl,rfl,fun B _ _=>Below.refl _ _,fun _ _ _=>rfl,Keeps.refl _,fun _ _ _=>rfl,Nat.le_refl _,by simp,fun j hj=>(hno j hj).elim,fun j hj=>(hno j hj).elim,fun j hj=>(hno j hj).elim,fun j _ hj=>(hno j hj).elim,fun i j _ _ hj=>(hno i hj).elim⟩
end
end
end Rely
open Classical in
theorem bl_pos {n:Nat} (h:0<n):0<bl n:=by rw[bl_half h];omega
theorem snoc_ind {α:Type} {P:List α->Prop} (h0:P []) (h1:∀ l c,P l->P (l++[c])):∀ l,P l:=by
 intro l;rw[<-List.reverse_reverse l]
 induction l.reverse with
 | nil=>exact h0
 | cons c r ih=>rw[List.reverse_cons];exact h1 _ _ ih
def dn (l:List UInt8):Nat:=l.foldl (fun n c=>10*n+(c.toNat - 48)) 0
def AllD (l:List UInt8):Prop:=∀ c ∈ l,48<=c.toNat/\c.toNat<=57
theorem dn_snoc (l:List UInt8) (c:UInt8):dn (l++[c])=10*dn l+(c.toNat - 48):=by
 unfold dn;rw[List.foldl_append];rfl
theorem AllD.left {l m:List UInt8} (h:AllD (l++m)):AllD l:=fun c hc=>h c (List.mem_append_left _ hc)
theorem AllD.right {l m:List UInt8} (h:AllD (l++m)):AllD m:=fun c hc=>h c (List.mem_append_right _ hc)
theorem AllD.take {l:List UInt8} (h:AllD l) (n:Nat):AllD (l.take n):=fun c hc=>h c (List.mem_of_mem_take hc)
theorem dn_append (l:List UInt8):∀ m:List UInt8,dn (l++m)=dn l*10 ^ m.length+dn m:=by
 refine snoc_ind (by simp[dn]) fun m c ih=>?_
 rw[<-List.append_assoc,dn_snoc,dn_snoc,ih,lsa,List.length_singleton,Nat.pow_succ];generalize 10 ^ m.length=p;have:dn l*(p*10)=10*(dn l*p):=by grind
 omega
theorem dn_lt:∀ {l:List UInt8} (_:AllD l),dn l<10 ^ l.length:=by
 intro l;refine snoc_ind (P:=fun l=>AllD l->dn l<10 ^ l.length) (by simp[dn]) (fun m c ih h=>?_) l;have h1:=ih h.left;have h2:=h c (List.mem_append_right _ (List.mem_singleton.2 rfl));rw[dn_snoc,lsa,List.length_singleton,Nat.pow_succ]
 omega
theorem dec_dn:∀ {l:List UInt8},AllD l->l.getD 0 48≠48->0<dn l/\Lib.decDigits (dn l)=l:=by
 intro l;refine snoc_ind (P:=fun l=>AllD l->l.getD 0 48≠48->0<dn l/\Lib.decDigits (dn l)=l) (by intro _ h;simp at h) (fun m c ih h hne=>?_) l;have hc:=h c (List.mem_append_right _ (List.mem_singleton.2 rfl))
 have e0:UInt8.ofNat (48+(c.toNat - 48))=c:=by
  rw[show 48+(c.toNat - 48)=c.toNat by omega];exact UInt8.ofNat_toNat
 rw[dn_snoc]
 cases m with
 | nil =>
  have hc0:c≠48:=by simpa using hne
  have hc1:c.toNat≠48:=fun e=>hc0 (UInt8.toNat_inj.1 e)
  refine⟨by omega,?_⟩;rw[show dn []=0 from rfl,Lib.decDigits_one (by omega),show 48+(10*0+(c.toNat - 48))=48+(c.toNat - 48) by omega,e0]
  rfl
 | cons a m =>
  obtain⟨h1,h2⟩:=ih h.left (by simpa using hne);refine⟨by omega,?_⟩;have h3:=decDigits_pad 1 (dn (a::m)) (c.toNat - 48) h1 (by omega);rw[show 10*dn (a::m)+(c.toNat - 48)=dn (a::m)*10 ^ 1+(c.toNat - 48) by omega,h3,h2];simp only[pad,List.nil_append];rw[show (c.toNat - 48) % 10=c.toNat - 48 by omega,e0]
theorem digit_of {d:Nat} (h:d<10):(UInt8.ofNat (48+d)).toNat=48+d:=by
 rw[UInt8.toNat_ofNat'];omega
theorem dn_dec (n:Nat):AllD (Lib.decDigits n)/\dn (Lib.decDigits n)=n/\Lib.decDigits n ≠ []/\(0<n->(Lib.decDigits n).getD 0 48≠48):=by
 induction n using Nat.strongRecOn with
 | ind n ih =>
  by_cases h:n<10
  ·rw[Lib.decDigits_one h];refine⟨?_,?_,by simp,?_⟩
   ·intro c hc;obtain rfl:=List.mem_singleton.1 hc;rw[digit_of h];omega
   ·show 10*0+((UInt8.ofNat (48+n)).toNat - 48)=n
    rw[digit_of h];omega
   intro h0 e;have e1:UInt8.ofNat (48+n)=48:=e;have e2:=congrArg UInt8.toNat e1;rw[digit_of h] at e2;have e3:(48:UInt8).toNat=48:=rfl
   omega
  obtain⟨h1,h2,h3,h4⟩:=ih (n / 10) (by omega);have hd:n % 10<10:=by omega
  rw[Lib.decDigits,dif_neg h];refine⟨?_,?_,by simp,?_⟩
  ·intro c hc;rcases List.mem_append.1 hc with hc | hc
   ·exact h1 c hc
   obtain rfl:=List.mem_singleton.1 hc;rw[digit_of hd];omega
  ·rw[dn_snoc,h2,digit_of hd];omega
  intro _;have h5:=h4 (by omega)
  cases hl:Lib.decDigits (n / 10) with
  | nil=>exact absurd hl h3
  | cons a m=>rw[hl] at h5;simpa using h5
def Numeral (l:List UInt8):Prop:=l ≠ []/\l.length<=300/\(1<l.length->l.getD 0 48≠48)/\AllD l
theorem Numeral.text {l:List UInt8} (h:Numeral l):Lib.decDigits (dn l)=l:=by
 obtain⟨h1,h2,h3,h4⟩:=h
 by_cases h0:l.getD 0 48=48
 ·match l,h1,h3,h4,h0 with
  | [c],_,_,_,h0 =>
   have:c=48:=by simpa using h0
   subst this;rw[show dn [48]=0 from rfl,Lib.decDigits_one (by decide)]
   rfl
  | a::b::m,_,h3,_,h0=>exact absurd h0 (h3 (by simp))
 exact (dec_dn h4 h0).2
theorem numeral_dec {n:Nat} (h:(Lib.decDigits n).length<=300):Numeral (Lib.decDigits n):=by
 obtain⟨h1,h2,h3,h4⟩:=dn_dec n;refine⟨h3,h,fun hl=>h4 ?_,h1⟩;rcases Nat.eq_zero_or_pos n with h0 | h0
 ·rw[h0,Lib.decDigits_one (by decide)] at hl;simp at hl
 exact h0
end Go.Proofs.YtkocdbgmckdcpaaGreatDoor
namespace Go.Proofs.YtkocdbgmckdcpaaGreatDoor
open Go.RowKit Go.Sort Go.Lib
set_option maxRecDepth 100000
theorem holds_zero0 (w:World) (T:TypeId) (nd:Nat) (hs:nd<=24):Holds (fun (b:UInt8)=>Value.int .u8 (b.toNat:Int)) (w.alloc (.cells Lib.zeros24 T)) w.heap.size 0 (Array.replicate nd (0:UInt8)):=fun j hj=>by
 have hj':j<nd:=by simpa using hj
 refine⟨?_,World.frozen?_alloc_new _ _ _ _⟩;rw[World.cell?_alloc_new,Lib.zeros24_at _ (by omega),getElem!_pos _ j hj]
 simp
theorem below_putRow (w:World) (o:Obj) (dk:Array UInt8) (k:Nat):Below w.heap.size w ((putRow (fun (b:UInt8)=>Value.int .u8 (b.toNat:Int)) (w.alloc o) w.heap.size 0 dk).drewN k):=by
 rw[alloc_eq_grow];obtain⟨os',_,e⟩:=putRow_grow_new (fun (b:UInt8)=>Value.int .u8 (b.toNat:Int)) w #[o] w.heap.size 0 dk (Nat.le_refl _);rw[e];exact⟨rfl,rfl,rfl,by show w.heap.size<=(w.heap++os').size;rw[Array.size_append];omega,fun i hi=>heap_grow_old w os' hi⟩
set_option maxRecDepth 100000 in
theorem fmt65 (u : Nat) (h1 : 100 ≤ u) (hu64 : u < 18446744073709551616) (w : World) (htab : Lib.TabIs Tryz.prog w "internal/strconv.uint64pow10" .u64 Lib.pow10Tab) :
  Calls Tryz.prog 172 #[.int .u64 u,.int .i64 10] w fun e w'=>e=.returned (.string ⟨(Lib.decDigits u).toArray⟩)/\Below w.heap.size w w':=by
 have hnd20:Lib.nDigits u<=20:=by have:=Lib.numDigits_eq u (by omega) hu64;split at this<;>omega
 have hal:Tryz.prog.arrayLen 247=24:=by simp[Program.arrayLen,Tryz.underlying247]
 have hsl1:∀ W,(Instr.sliceAt 247 (.pointer (some ⟨w.heap.size,0,none⟩)) none (some (.int .i64 (Lib.nDigits u:Int))) none).run Tryz.prog W=.ok (.slice (some ⟨w.heap.size,0,none⟩) (Lib.nDigits u) 24) W:=fun W=>by
  rw[run_sliceAt_array_h W 247 ⟨w.heap.size,0,none⟩ (by simp[Program.arrayLen,Program.elem,Tryz.underlying247]) .i64 (Lib.nDigits u:Int) (by omega) (by rw[hal];omega)];go_simp
  try omega
 have hH0:=holds_zero0 w 247 (Lib.nDigits u) (by omega);have hfmt:=Tryz.internal_strconv_formatBase10 w.heap.size 0 24 u (Array.replicate (Lib.nDigits u) 0) (w.alloc (.cells Lib.zeros24 247)) hH0 (by rw[Array.size_replicate];exact Lib.lt_pow_nDigits u) hu64 (by rw[Array.size_replicate];omega);rw[Array.size_replicate] at hfmt;have HH0:=Lib.hid hH0;have HFMT:=Lib.hid hfmt;clear hH0 hal hfmt;go_enter Tryz.func172,Tryz.ntmps172
 go_wp2_with fail
 refine (Tryz.internal_strconv_numDigits u (by omega) hu64 _ (Lib.tabIs_alloc htab _)).mono ?_;rintro e w' ⟨rfl,rfl⟩;go_wp2_with fail
 refine HFMT.out.mono ?_;rintro e w' ⟨rfl,k,v',dk,rfl,hF⟩
 have hcv:(convert 63 9 (.slice (some ⟨w.heap.size,0,none⟩) (Lib.nDigits u) 24)).run Tryz.prog ((putRow (fun (b:UInt8)=>Value.int .u8 (b.toNat:Int)) (w.alloc (.cells Lib.zeros24 247)) w.heap.size 0 dk).drewN k)=.ok (.string ⟨(Lib.decDigits u).toArray⟩) ((putRow (fun (b:UInt8)=>Value.int .u8 (b.toNat:Int)) (w.alloc (.cells Lib.zeros24 247)) w.heap.size 0 dk).drewN k):=by
  have h:=run_convert_bytes_back (P:=Tryz.prog) ((putRow (fun (b:UInt8)=>Value.int .u8 (b.toNat:Int)) (w.alloc (.cells Lib.zeros24 247)) w.heap.size 0 dk).drewN k) 63 9 5 ⟨w.heap.size,0,none⟩ 24 (Lib.decDigits u) Tryz.underlying63 Tryz.underlying5 Tryz.underlying9 (fun j hj=>by
   rw[Lib.row_is_numeral hF j hj,Lib.add_plain,World.cell?_drewN]
   exact cell?_putRow (fun (b:UInt8)=>Value.int .u8 (b.toNat:Int)) _ w.heap.size 0 _ dk HH0.out (by rw[hF.size,Array.size_replicate]) j (by rw[hF.size];rw[Lib.decDigits_length] at hj;exact hj))
  rw[Lib.decDigits_length] at h;exact h
 have HB:=Lib.hid (below_putRow w (.cells Lib.zeros24 247) dk k);go_wp2_with fail
 go_ret
 exact⟨rfl,HB.out⟩
theorem tab_below {w w':World} {name:String} {k:IntKind} {zs:List Int} (h:Lib.TabIs Tryz.prog w name k zs) (hb:Below w.heap.size w w'):Lib.TabIs Tryz.prog w' name k zs:=by
 unfold Lib.TabIs World.var? at *
 cases hg:Tryz.prog.globalNamed name with
 | none=>simp[hg] at h
 | some g =>
  simp only[hg,Option.bind_some] at h ⊢
  have hlt:g<w.heap.size:=by
   rcases Nat.lt_or_ge g w.heap.size with h' | h'
   ·exact h'
   rw[Array.getElem?_eq_none h'] at h;simp at h
  rw[hb.block g hlt];exact h
theorem fmt55 (u : Nat) (hu64 : u < 18446744073709551616) (w : World) (htab : Lib.TabIs Tryz.prog w "internal/strconv.uint64pow10" .u64 Lib.pow10Tab) :
  Calls Tryz.prog 162 #[.int .u64 u,.int .i64 10] w fun e w'=>e=.returned (.string ⟨(Lib.decDigits u).toArray⟩)/\Below w.heap.size w w':=by
 by_cases h:u<100
 ·refine (fmt_small u _ rfl h w).mono ?_;rintro e w' ⟨rfl,rfl⟩;exact⟨rfl,Below.refl _ _⟩
 have HF:=Lib.hid (fmt65 u (by omega) hu64 w htab);clear h htab;go_enter Tryz.func162,Tryz.ntmps162
 go_wp2_with fail
 refine HF.out.mono ?_;rintro e w' ⟨rfl,hb⟩;go_wp2_with fail
 go_ret
 exact⟨rfl,hb⟩
theorem fmtAt {w : World} (htab : Lib.TabIs Tryz.prog w "internal/strconv.uint64pow10" .u64 Lib.pow10Tab) : FmtAt w (fun i => i < 18446744073709551616) :=
 fun w' i z hb hz hi=>by
  subst hz;exact fmt55 i hi w' (tab_below htab hb)
theorem text_any (va : Value) (xs : List Nat) (w : World) (htab : Lib.TabIs Tryz.prog w "internal/strconv.uint64pow10" .u64 Lib.pow10Tab) (hx : Sl w .u32 va xs) (dx : Dig L32 xs) (lx : xs.length ≤ 10000) :
  Calls Tryz.prog 147 #[va] w fun e w'=>e=.returned (.string ⟨(Lib.decDigits (val L32 xs)).toArray⟩)/\Below w.heap.size w w':=
 text_gen _ va xs w (fmtAt htab) hx dx lx (fun g hg _=>by have hG:G9=1000000000:=rfl;show g<18446744073709551616;omega) (fun _ g hg=>by have hG:G9=1000000000:=rfl;show G9+g<18446744073709551616;omega)
end Go.Proofs.YtkocdbgmckdcpaaGreatDoor
namespace Go.Proofs.YtkocdbgmckdcpaaGreatDoor
open Go.RowKit
set_option maxRecDepth 100000
theorem dn_take_succ (l:List UInt8) (k:Nat) (h:k<l.length):dn (l.take (k+1))=10*dn (l.take k)+(l[k].toNat - 48):=by
 rw[List.take_succ_eq_append_getElem h,dn_snoc]
theorem at_bytes (l:List UInt8) (k:Nat) (h:k<(⟨l.toArray⟩:ByteArray).size):(⟨l.toArray⟩:ByteArray)[k]=l[k]'h:=rfl
theorem number_any (l:List UInt8) (w:World) (hd:AllD l) (hl:l.length<=9) :
  Calls Tryz.prog 176 #[.string ⟨l.toArray⟩] w fun e w'=>e=.returned (.int .u32 ((dn l:Nat):Int))/\w'=w:=by
 have hsz:(⟨l.toArray⟩:ByteArray).size=l.length:=rfl;go_enter Tryz.func176,Tryz.ntmps176
 go_wp2
 go_loopw [3,7] (fun c i wr=>∃ k:Nat,i=.int .i64 k/\c=.int .u32 ((dn (l.take k):Nat):Int)/\k<=l.length/\wr=w) (fun _ i _=>l.length - (intOf i).toNat)
 case atStart=>exact⟨0,rfl,rfl,Nat.zero_le _,rfl⟩
 case round =>
  obtain⟨k,rfl,rfl,hk,rfl⟩:=hrel
  by_cases hlt:k<l.length
  ·have h1:=hd l[k] (List.getElem_mem hlt);have h2:=dn_lt (hd.take k);have h3:10 ^ (l.take k).length<=10 ^ 8:=Nat.pow_le_pow_right (by decide) (by rw[List.length_take];omega);have HS:=Lib.hid (dn_take_succ l k hlt);have H1:=Lib.hid h1;have hm:dn (l.take k)<100000000:=by have h4:10 ^ 8=100000000:=rfl;omega
   clear h1 h2 h3
   go_wp2
   go_roundw
   case rel =>
    refine⟨k+1,by go_num,?_,by omega,by trivial⟩;have h1:=H1.out;rw[at_bytes,HS.out]
    congr 1
    omega
   case measure=>simp[intOf];omega
  have hk0:k=l.length:=by omega
  subst hk0;have HT:=Lib.hid (List.take_length (l:=l))
  go_wp2
  go_ret
  exact⟨by rw[<-HT.out];simp,rfl⟩
theorem mulAdd_step {B:Nat} {t s:List Nat} {m n k c z:Nat} (ht:k<t.length) (hv:val B (t.take k)+c*B ^ k=m*val B (s.take k)+n) (hz:z=c+m*s.getD k 0) :
  val B ((t.set k (z % B)).take (k+1))+z / B*B ^ (k+1)=m*val B (s.take (k+1))+n:=by
 have e1:(t.set k (z % B)).take k=t.take k:=List.take_set_of_le (by omega);have e2:(t.set k (z % B)).getD k 0=z % B:=by simp[List.getD,ht]
 rw[val_take_succ' B (t.set k (z % B)) k,val_take_succ' B s k,e1,e2,Nat.pow_succ];have h2:=Nat.mod_add_div z B;generalize z % B=r at *;generalize z / B=q at *;generalize B ^ k=P at *;have h3:(r+B*q)*P=(c+m*s.getD k 0)*P:=by rw[h2,hz]
 grind
theorem mulAdd_any (g:Nat) (pre s post:List Nat) (vs:Value) (m n:Nat) (w:World) (hw:Ws w .u32 204 vs g pre s post) (hs:Dig L32 s) (hm:m<4294967296) (hn:n<4294967296) (hlt:m*val L32 s+n<L32 ^ s.length) :
  Calls Tryz.prog 175 #[vs,.int .u32 m,.int .u32 n] w fun e w'=>∃ s',e=.returned (.tuple #[])/\Ws w' .u32 204 vs g pre s' post/\w.grownBy w' (some g)/\s'.length=s.length/\Dig L32 s' /\
   val L32 s'=m*val L32 s+n:=by
 have HLT:=Lib.hid hlt;clear hlt;obtain⟨ao,cap,rfl,h1,h2,h3,h4⟩:=hw;go_enter Tryz.func175,Tryz.ntmps175
 go_wp2
 go_loopw [6,13] (fun c i wr=>∃ (k:Nat) (t:List Nat) (cc:Nat),i=.int .i64 k/\c=.int .u64 (cc:Int)/\cc<4294967296/\k<=s.length/\w.grownBy wr (some g)/\Hid (t.length=s.length)/\Dig 4294967296 t /\
   WsAt wr .u32 204 ao g pre t post s.length/\Hid (t.drop k=s.drop k)/\Hid (val L32 (t.take k)+cc*L32 ^ k=m*val L32 (s.take k)+n))
  (fun _ i _=>s.length - (intOf i).toNat)
 case atStart=>exact⟨0,s,n,rfl,rfl,hn,by omega,World.grownBy.refl _ _,Lib.hid rfl,hs,h4,Lib.hid rfl,Lib.hid (by simp[val])⟩
 case round =>
  obtain⟨k,t,cc,rfl,rfl,hcc,hk,hg,Ht,hdt,hB,HD,HV⟩:=hrel
  by_cases hlt:k<s.length
  ·obtain⟨rfl,hB'⟩:=hB (by omega);have hkt:k<t.length:=by have:=Ht.out;omega
   have hsk:t.getD k 0=s.getD k 0:=by
    have:=congrArg (fun l=>l.getD 0 0) HD.out
    simpa [List.getD,List.getElem?_drop] using this
   have hct:wr.cell? ⟨g,pre.length+k,none⟩=some (.int .u32 (nth s k)):=by
    rw[hB'.cell (by simp;omega),nth_mid _ _ _ _ hkt];unfold nth;rw[hsk]
   have hft:=hB'.frozen (pre.length+k);have t1:=u32_wf hs k;have t0:=hs.getD (by decide) k
   have hmm:0<=(m:Int)*nth s k/\(m:Int)*nth s k<=18446744065119617025:=by
    have:=mul_bound hm t0;have e:(m:Int)*nth s k=((m*s.getD k 0:Nat):Int):=by unfold nth;simp
    rw[e];omega
   have HE:=Lib.hid (show (cc:Int)+(m:Int)*nth s k=((cc+m*s.getD k 0:Nat):Int) by unfold nth;simp);have HZ:=Lib.hid (show cc+m*s.getD k 0<18446744073709551616 by have:=mul_bound hm t0;omega);have HS:=Lib.hid (mulAdd_step (B:=L32) hkt HV.out rfl);clear hB h4 t0 hsk
   go_wp2
   go_roundw
   case rel =>
    have hE:=HE.out;have hz:=HZ.out;refine⟨k+1,t.set k ((cc+m*s.getD k 0) % L32),(cc+m*s.getD k 0) / L32,by go_num,?_,?_,by omega,grown_setCell hg _,Lib.hid (by rw[List.length_set];exact Ht.out),hdt.set (Nat.mod_lt _ (by decide)),fun _=>⟨rfl,?_⟩,Lib.hid ?_,HS⟩
    ·rw[hE];congr 1
    ·exact Nat.div_lt_of_lt_mul (by omega)
    ·rw[<-set_mid _ _ _ _ _ hkt];exact hB'.set _ _ _ (by rw[hE];rfl)
    rw[List.drop_set_of_lt (by omega)];have:=congrArg (List.drop 1) HD.out
    rwa [List.drop_drop,List.drop_drop] at this
   case measure=>simp[intOf];omega
  have hkk:k=s.length:=by omega
  subst hkk;have hv:=HV.out;rw[List.take_length,List.take_of_length_le (by have:=Ht.out;omega)] at hv
  have hc0:cc=0:=by
   rcases Nat.eq_zero_or_pos cc with h | h
   ·exact h
   have:=Nat.mul_le_mul_right (L32 ^ s.length) h;have:=HLT.out
   omega
  have HF:=Lib.hid (show val L32 t=m*val L32 s+n by rw[hc0] at hv;omega);have hfin:Ws wr .u32 204 (.slice ao s.length cap) g pre t post:=⟨ao,cap,by rw[Ht.out],by rw[Ht.out];exact h1,h2,h3,by rw[Ht.out];exact hB⟩
  clear hv h4 hc0
  go_wp2
  go_end0
  exact⟨t,rfl,hfin,hg,Ht.out,hdt,HF.out⟩
theorem isNum_true (l:List UInt8) (w:World) (h:Numeral l) :
  Calls Tryz.prog 174 #[.string ⟨l.toArray⟩] w fun e w'=>e=.returned (.bool true)/\w'=w:=by
 have hsz:(⟨l.toArray⟩:ByteArray).size=l.length:=rfl;obtain⟨h1,h2,h3,h4⟩:=h;have hp:0<l.length:=List.length_pos_iff.2 h1;have hz:((l.length:Int)==0)=false:=by rw[beq_eq_false_iff_ne];omega
 have hx:l.length<=1\/1<l.length/\((((⟨l.toArray⟩:ByteArray)[0]'hp).toNat:Int)==48)=false:=by
  by_cases hl:l.length<=1
  ·exact .inl hl
  refine .inr ⟨by omega,?_⟩;have:=h3 (by omega);rw[at_bytes,beq_eq_false_iff_ne];intro e;have e2:l[0].toNat=48:=by omega
  exact this (by simp only[List.getD_eq_getElem?_getD,List.getElem?_eq_getElem hp,Option.getD_some];exact UInt8.toNat_inj.1 e2)
 have H4:=Lib.hid h4;clear h1 h3 h4;go_enter Tryz.func174,Tryz.ntmps174
 rcases hx with hx | ⟨hx1,hx2⟩
 all_goals go_wp2
 all_goals go_loopw [24] (fun i wr=>∃ k:Nat,i=.int .i64 k/\k<=l.length/\wr=w) (fun i _=>l.length - (intOf i).toNat)
 case atStart=>exact⟨0,rfl,Nat.zero_le _,rfl⟩
 case atStart=>exact⟨0,rfl,Nat.zero_le _,rfl⟩
 all_goals
  obtain⟨k,rfl,hk,rfl⟩:=hrel
  by_cases hlt:k<l.length
  ·have hk1:48<=((⟨l.toArray⟩:ByteArray)[k]'hlt).toNat/\((⟨l.toArray⟩:ByteArray)[k]'hlt).toNat<=57:=H4.out l[k] (List.getElem_mem hlt)
   go_wp2
   go_roundw
   case rel=>exact⟨k+1,by go_num,by omega,by trivial⟩
   case measure=>simp[intOf];omega
  go_wp2
  go_ret
  exact⟨rfl,rfl⟩
theorem extract_take (l:List UInt8) (k:Nat):(⟨l.toArray⟩:ByteArray).extract 0 k=⟨(l.take k).toArray⟩:=by
 apply ByteArray.ext
 simp
theorem extract_drop (l:List UInt8) (k:Nat):(⟨l.toArray⟩:ByteArray).extract k l.length=⟨(l.drop k).toArray⟩:=by
 apply ByteArray.ext
 simp[List.take_of_length_le]
theorem parse_sum {pre grp:List UInt8} (h:pre=[]\/grp.length=9):1000000000*dn pre+dn grp=dn (pre++grp):=by
 rw[dn_append];rcases h with rfl | h
 ·simp[dn]
 rw[h,show 10 ^ 9=1000000000 from rfl,Nat.mul_comm]
theorem parse_room {l m:List UInt8} (hm:AllD m) (h:m.length<=l.length):dn m<L32 ^ (l.length / 9+1):=by
 have h1:=dn_lt hm;have h2:10 ^ m.length<=10 ^ (9*(l.length / 9+1)):=Nat.pow_le_pow_right (by decide) (by omega);have h3:10 ^ (9*(l.length / 9+1))<=L32 ^ (l.length / 9+1):=by rw[Nat.pow_mul];exact Nat.pow_le_pow_left (by decide) _
 omega
def sizeOfS:Value->Nat
 | .string b=>b.size
 | _=>0
def sg (b:Bool) (n:Nat):Int:=if b then -(n:Int) else (n:Int)
theorem sg_natAbs (b:Bool) (n:Nat):(sg b n).natAbs=n:=by cases b<;>simp[sg]
def GI (w:World) (v:Value) (z:Int) (k:Nat):Prop:=∃ b va n,v=.agg #[.bool b,va]/\GN w va n k/\z=sg b n
theorem GI.below {w w':World} {v:Value} {z:Int} {k:Nat} (h:GI w v z k) (hb:Below w.heap.size w w'):GI w' v z k:=by
 obtain⟨b,va,n,rfl,h,rfl⟩:=h;exact⟨b,va,n,rfl,h.below hb,rfl⟩
theorem GN.shape {w:World} {v:Value} {n k:Nat} (h:GN w v n k):∃ ao l c,v=.slice ao l c/\l<=k:=by
 obtain⟨xs,h,_,_,hk⟩:=h;obtain⟨ao,c,rfl⟩:=sl_shape h;exact⟨ao,_,c,rfl,hk⟩
theorem GI.shape {w:World} {v:Value} {z:Int} {k:Nat} (h:GI w v z k):∃ b ao l c n,v=.agg #[.bool b,.slice ao l c]/\GN w (.slice ao l c) n k/\z=sg b n:=by
 obtain⟨b,va,n,rfl,h,rfl⟩:=h;obtain⟨ao,l,c,rfl,_⟩:=h.shape;exact⟨b,ao,l,c,n,rfl,h,rfl⟩
theorem two_cells {w:World} {g:Nat} {T:TypeId} {a b:Value} (h:w.heap[g]?=some (.cells #[a,b] T (0,0))) :
  w.cell? ⟨g,0,none⟩=some a/\w.cell? ⟨g,1,none⟩=some b/\w.frozen? ⟨g,0,none⟩=false/\w.frozen? ⟨g,1,none⟩=false:=
 ⟨by rw[cell_of_row w g 0 _ T (0,0) h];rfl,by rw[cell_of_row w g 1 _ T (0,0) h];rfl,frozen_of_row w g 0 _ T h,frozen_of_row w g 1 _ T h⟩
theorem Sl.set {w:World} {k:IntKind} {v:Value} {xs:List Nat} (h:Sl w k v xs) {p:Addr} {u:Value} (hc:w.cell? p=some u) (hu:∀ k z,u ≠ .int k z) (x:Value):Sl (w.setCell p x) k v xs:=by
 obtain⟨ao,cap,rfl,h1,h2,h3,h4⟩:=h;refine⟨ao,cap,rfl,h1,h2,h3,fun i hi=>?_⟩;obtain⟨a,ha,hq⟩:=h4 i hi;refine⟨a,ha,?_⟩;rw[World.cell?_setCell_other w p (a.add i) x (fun e=>by rw[<-e,hc] at hq;injection hq with hq;exact hu _ _ hq)];exact hq
theorem Sl.set2 {w:World} {k:IntKind} {v:Value} {xs:List Nat} (h:Sl w k v xs) {g:Nat} {T:TypeId} {b0:Bool} {a0:Option Addr} {n0 c0:Nat} (hB:w.heap[g]?=some (.cells #[.bool b0,.slice a0 n0 c0] T (0,0))) (x y:Value) :
  Sl ((w.setCell ⟨g,0,none⟩ x).setCell ⟨g,1,none⟩ y) k v xs:=by
 obtain⟨q0,q1,_,_⟩:=two_cells hB;refine (h.set q0 (by intro k z e;cases e) x).set (u:=.slice a0 n0 c0) ?_ (by intro k z e;cases e) y;rw[World.cell?_setCell_other w _ _ x (by intro e;injection e with _ e;omega)];exact q1
theorem GN.alloc {w:World} {v:Value} {n k:Nat} (h:GN w v n k) (o:Obj):GN (w.alloc o) v n k:=h.below ((Below.refl _ _).alloc (Nat.le_refl _) _)
theorem undrew {B:Nat} {w w1:World} (h:Below B w.drew w1):Below B w w1:=⟨h.os,h.tape,h.output,h.size,h.block⟩
theorem blocks2 {w w1:World} {T1 T2:TypeId} {c1 c2:Array Value} (hb:Below (w.heap.size+2) ((w.alloc (.cells c1 T1)).alloc (.cells c2 T2)) w1) :
  w1.heap[w.heap.size]?=some (.cells c1 T1 (0,0))/\w1.heap[w.heap.size+1]?=some (.cells c2 T2 (0,0)):=by
 have h1:=heap_alloc_new (w.alloc (.cells c1 T1)) (.cells c2 T2);refine⟨(hb.block _ (by omega)).trans ?_,(hb.block _ (by omega)).trans (by simpa using h1)⟩;rw[Below.heap_alloc _ _ _ (by simp)];exact heap_alloc_new w _
theorem below2 (w:World) (o1 o2:Obj):Below w.heap.size w ((w.alloc o1).alloc o2):=((Below.refl _ _).alloc (Nat.le_refl _) _).alloc (by simp) _
theorem below_setg {B g:Nat} {w w':World} (h:Below B w w') (hB:B<=g) (x y:Value):Below B w ((w'.setCell ⟨g,0,none⟩ x).setCell ⟨g,1,none⟩ y):=
 (h.setCell (by simpa using hB) _).setCell (by simpa using hB) _
theorem bl_eq0 {n:Nat}:bl n=0 ↔ n=0:=⟨fun h=>by rcases Nat.eq_zero_or_pos n with h0 | h0;exact h0;exact absurd h (by have:=bl_pos h0;omega),fun h=>by rw[h,bl_zero]⟩
def sgnZ (z:Int):Int:=if z=0 then 0 else if z<0 then -1 else 1
theorem wsign_any (va:Value) (z:Int) (k:Nat) (w:World) (hx:GI w va z k) (hk:k<=1000000) :
  Calls Tryz.prog 128 #[va] w fun e w'=>e=.returned (.int .i64 (sgnZ z))/\Below w.heap.size w w':=by
 obtain⟨b,ao,l,c,n,rfl,hg,rfl⟩:=hx.shape
 by_cases h0:n=0
 ·subst h0;have HB:=Lib.hid (show sgnZ (sg b 0)=0 by cases b<;>simp[sgnZ,sg]);have hz:(((bl 0:Nat):Int)==0)=true:=by rw[bl_zero];rfl
  go_enter Tryz.func128,Tryz.ntmps128
  go_wp2_with fail
  refine (bits_n (hg.alloc _) hk).mono ?_;rintro e w3 ⟨rfl,rfl⟩;go_wp2_with fail
  go_ret
  exact⟨by rw[HB.out];rfl,(Below.refl _ _).alloc (Nat.le_refl _) _⟩
 have hz:(((bl n:Nat):Int)==0)=false:=by rw[beq_eq_false_iff_ne];have:=mt bl_eq0.1 h0;omega
 have hp:0<n:=by omega
 cases b
 ·have HB:=Lib.hid (show sgnZ (sg false n)=1 by unfold sgnZ sg;simp only[Bool.false_eq_true,if_false];rw[if_neg (by omega),if_neg (by omega)]);go_enter Tryz.func128,Tryz.ntmps128
  go_wp2_with fail
  refine (bits_n (hg.alloc _) hk).mono ?_;rintro e w3 ⟨rfl,rfl⟩;go_wp2_with fail
  go_ret
  exact⟨by rw[HB.out];rfl,(Below.refl _ _).alloc (Nat.le_refl _) _⟩
 have HB:=Lib.hid (show sgnZ (sg true n) = -1 by unfold sgnZ sg;simp only[if_true];rw[if_neg (by omega),if_pos (by omega)]);go_enter Tryz.func128,Tryz.ntmps128
 go_wp2_with fail
 refine (bits_n (hg.alloc _) hk).mono ?_;rintro e w3 ⟨rfl,rfl⟩;go_wp2_with fail
 go_ret
 exact⟨by rw[HB.out];rfl,(Below.refl _ _).alloc (Nat.le_refl _) _⟩
theorem lt_pow_more {m k k':Nat} (h:m<L32 ^ k) (hk:k<=k'):m<L32 ^ k':=Nat.lt_of_lt_of_le h (Nat.pow_le_pow_right (by decide) hk)
theorem GI.alloc {w:World} {v:Value} {z:Int} {k:Nat} (h:GI w v z k) (o:Obj):GI (w.alloc o) v z k:=h.below ((Below.refl _ _).alloc (Nat.le_refl _) _)
theorem compare_any (a b:Int) (w:World):Calls Tryz.prog 52 #[.int .i64 a,.int .i64 b] w fun e w'=>e=.returned (.int .i64 (sgnZ (a - b)))/\w=w':=by
 have HN:∀ (x:Int) (w:World),Calls Tryz.prog 85 #[.int .i64 x] w fun e w'=>e=.returned (.bool false)/\w=w':=by
  intro x w;go_enter Tryz.func85,Tryz.ntmps85
  go_wp2
  go_ret
  exact⟨by simp,rfl⟩
 rcases Int.lt_trichotomy a b with h | h | h
 ·have HS:=Lib.hid (show sgnZ (a - b) = -1 by unfold sgnZ;rw[if_neg (by omega),if_pos (by omega)]);have H:=Lib.hid HN;clear HN;go_enter Tryz.func52,Tryz.ntmps52
  go_wp2_with fail
  refine (H.out a _).mono ?_;rintro e w' ⟨rfl,rfl⟩;go_wp2_with fail
  refine (H.out b _).mono ?_;rintro e w' ⟨rfl,rfl⟩;go_wp2_with fail
  go_ret
  exact⟨by rw[HS.out];rfl,rfl⟩
 ·subst h;have HS:=Lib.hid (show sgnZ (a - a)=0 by unfold sgnZ;rw[if_pos (by omega)]);have H:=Lib.hid HN;clear HN;go_enter Tryz.func52,Tryz.ntmps52
  go_wp2_with fail
  refine (H.out a _).mono ?_;rintro e w' ⟨rfl,rfl⟩;go_wp2_with fail
  refine (H.out a _).mono ?_;rintro e w' ⟨rfl,rfl⟩;go_wp2_with fail
  go_ret
  exact⟨by rw[HS.out];rfl,rfl⟩
 have HS:=Lib.hid (show sgnZ (a - b)=1 by unfold sgnZ;rw[if_neg (by omega),if_neg (by omega)]);have H:=Lib.hid HN;clear HN;have h':¬ a<b:=by omega
 go_enter Tryz.func52,Tryz.ntmps52
 go_wp2_with fail
 refine (H.out a _).mono ?_;rintro e w' ⟨rfl,rfl⟩;go_wp2_with fail
 refine (H.out b _).mono ?_;rintro e w' ⟨rfl,rfl⟩;go_wp2_with fail
 go_ret
 exact⟨by rw[HS.out];rfl,rfl⟩
theorem sgnZ_le (z:Int) : -1<=sgnZ z/\sgnZ z<=1:=by unfold sgnZ;split;omega;split<;>omega
theorem sgnZ_diff {y z:Int} (h:sgnZ y≠sgnZ z):sgnZ (sgnZ y - sgnZ z)=sgnZ (y - z):=by
 unfold sgnZ at h ⊢
 split at h<;>split at h<;>(try split at h)<;>(try split at h)<;>simp_all<;>first | omega | (rw[if_neg (by omega)];first | rw[if_pos (by omega)] | rw[if_neg (by omega)])
theorem sgnZ_same {b d:Bool} {m n:Nat} (h:sgnZ (sg b m)=sgnZ (sg d n)):sgnZ (sg b m)*cmpN m n=sgnZ (sg b m - sg d n):=by
 unfold sgnZ sg cmpN at *
 cases b<;>cases d<;>simp at h ⊢<;>(repeat' split at h)<;>(repeat' split)<;>first | rfl | omega
theorem wcmp_any (va vb:Value) (y z:Int) (k1 k2:Nat) (w:World) (hx:GI w va y k1) (hy:GI w vb z k2) (h1:k1<=1000000) (h2:k2<=1000000) :
  Calls Tryz.prog 107 #[va,vb] w fun e w'=>e=.returned (.int .i64 (sgnZ (y - z)))/\Below w.heap.size w w':=by
 have hgx:=hx;have hgy:=hy;obtain⟨b,ao,l,c,m,rfl,hg,rfl⟩:=hx.shape;obtain⟨d,po,pl,pc,n,rfl,hg2,rfl⟩:=hy.shape;have hW:=below2 w (.cells #[.bool b,.slice ao l c] 44) (.cells #[.bool d,.slice po pl pc] 44)
 by_cases hs:sgnZ (sg b m)=sgnZ (sg d n)
 ·have HE:=Lib.hid (sgnZ_same hs);have HS:=Lib.hid hs;have hbs:=sgnZ_le (sg b m);have hbp:=sgnZ_le (sg b m - sg d n);have hne:(sgnZ (sg d n) != sgnZ (sg d n))=false:=by simp
  clear hs;go_enter Tryz.func107,Tryz.ntmps107
  go_wp2_with fail
  refine (wsign_any _ _ k1 _ ((hgx.alloc _).alloc _) h1).mono ?_;rintro e w2 ⟨rfl,hb2⟩;have hk2:=blocks2 (hb2.mono (by simp));have hb2t:=hW.trans (hb2.mono (by simp;omega));clear hb2;obtain⟨kc0,kc1,_,_⟩:=two_cells hk2.1;obtain⟨kd0,kd1,_,_⟩:=two_cells hk2.2;have HK:=Lib.hid hk2;clear hk2;rw[HS.out];go_wp2_with fail
  refine (wsign_any _ _ k2 _ (hgy.below hb2t) h2).mono ?_;rintro e w4 ⟨rfl,hb4⟩;have hk0:=(hb4.block _ (lt_of_block HK.out.1)).trans HK.out.1;have hk1:=(hb4.block _ (lt_of_block HK.out.2)).trans HK.out.2;have hb4t:=hb2t.trans (hb4.mono hb2t.size);clear hb4 kc0 kc1 kd0 kd1;obtain⟨kc0,kc1,_,_⟩:=two_cells hk0;obtain⟨kd0,kd1,_,_⟩:=two_cells hk1;have HK0:=Lib.hid hk0;have HK1:=Lib.hid hk1;clear hk0 hk1;go_wp2_with fail
  refine (cmp_n (hg.below hb4t) (hg2.below hb4t)).mono ?_;rintro e w5 ⟨rfl,hb5⟩;have hb5t:=hb4t.trans (hb5.mono hb4t.size);have HP:=Lib.hid (show sgnZ (sg d n)*cmpN m n=sgnZ (sg b m - sg d n) by rw[<-HS.out];exact HE.out);have p1 : -9223372036854775808<=sgnZ (sg d n)*cmpN m n:=by rw[HP.out];omega
  have p2:sgnZ (sg d n)*cmpN m n<=9223372036854775807:=by rw[HP.out];omega
  clear hb5;go_wp2_with fail
  go_ret
  exact⟨by rw[<-HP.out];rfl,hb5t⟩
 have HD:=Lib.hid (sgnZ_diff hs);have hne:(sgnZ (sg b m) != sgnZ (sg d n))=true:=by rw[bne_iff_ne];exact hs
 clear hs;go_enter Tryz.func107,Tryz.ntmps107
 go_wp2_with fail
 refine (wsign_any _ _ k1 _ ((hgx.alloc _).alloc _) h1).mono ?_;rintro e w2 ⟨rfl,hb2⟩;have hk2:=blocks2 (hb2.mono (by simp));have hb2t:=hW.trans (hb2.mono (by simp;omega));clear hb2;obtain⟨kd0,kd1,_,_⟩:=two_cells hk2.2;have HK:=Lib.hid hk2.2;clear hk2;go_wp2_with fail
 refine (wsign_any _ _ k2 _ (hgy.below hb2t) h2).mono ?_;rintro e w4 ⟨rfl,hb4⟩;have hk1:=(hb4.block _ (lt_of_block HK.out)).trans HK.out;have hb4t:=hb2t.trans (hb4.mono hb2t.size);clear hb4 kd0 kd1;obtain⟨kd0,kd1,_,_⟩:=two_cells hk1;clear hk1;go_wp2_with fail
 refine (wsign_any _ _ k2 _ (hgy.below hb4t) h2).mono ?_;rintro e w5 ⟨rfl,hb5⟩;have hb5t:=hb4t.trans (hb5.mono hb4t.size);clear hb5 kd0 kd1;go_wp2_with fail
 refine (compare_any _ _ _).mono ?_;rintro e w6 ⟨rfl,rfl⟩;rw[HD.out];go_wp2_with fail
 go_ret
 exact⟨rfl,hb5t⟩
def zText (z:Int):List UInt8:=if z<0 then 45::Lib.decDigits z.natAbs else Lib.decDigits z.natAbs
theorem app45 (l:List UInt8):((⟨#[45]⟩:ByteArray)++(⟨l.toArray⟩:ByteArray))=⟨(45::l).toArray⟩:=by
 apply ByteArray.ext
 simp[ByteArray.data_append]
theorem take_one (c:UInt8) (m:List UInt8):((⟨(c::m).toArray⟩:ByteArray).extract 0 1).toList=[c]:=by
 rw[extract_take,ByteArray.toList_mk];rfl
theorem dec_len {n k:Nat} (h:n<L32 ^ k) (hk:k<=10000):(Lib.decDigits n).length<=100001:=by
 have h1:L32 ^ k<=10 ^ (10*k):=by rw[Nat.pow_mul];exact Nat.pow_le_pow_left (by decide) _
 have:=decDigits_len (k:=10*k+1) (Nat.lt_of_lt_of_le h (Nat.le_trans h1 (Nat.pow_le_pow_right (by decide) (by omega)))) (by omega)
 omega
theorem wtext_any (va : Value) (z : Int) (k : Nat) (w : World) (htab : Lib.TabIs Tryz.prog w "internal/strconv.uint64pow10" .u64 Lib.pow10Tab) (hx : GI w va z k) (hk : k ≤ 10000) :
  Calls Tryz.prog 124 #[va] w fun e w'=>e=.returned (.string ⟨(zText z).toArray⟩)/\Below w.heap.size w w':=by
 have hgx:=hx;obtain⟨b,ao,l,c,n,rfl,hg,rfl⟩:=hx.shape;have hW:Below w.heap.size w (w.alloc (.cells #[.bool b,.slice ao l c] 44)):=(Below.refl _ _).alloc (Nat.le_refl _) _;have hgn:=hg;obtain⟨xs,hs,dx,rfl,lx⟩:=hgn;have HN:=Lib.hid (sg_natAbs b (val L32 xs));have hdl:=dec_len hg.lt hk
 by_cases hz:sg b (val L32 xs)<0
 ·have HS:=Lib.hid (show sgnZ (sg b (val L32 xs)) = -1 by unfold sgnZ;rw[if_neg (by omega),if_pos hz]);have HT:=Lib.hid (show zText (sg b (val L32 xs))=45::Lib.decDigits (val L32 xs) by unfold zText;rw[if_pos hz,HN.out]);clear hz;go_enter Tryz.func124,Tryz.ntmps124
  go_wp2_with fail
  refine (wsign_any _ _ k _ (hgx.alloc _) (by omega)).mono ?_;rintro e w2 ⟨rfl,hb2⟩;have hk2:=(hb2.block w.heap.size (by simp)).trans (heap_alloc_new w _);have hb2t:=hW.trans (hb2.mono (by simp));clear hb2;obtain⟨kc0,kc1,_,_⟩:=two_cells hk2;clear hk2;rw[HS.out];go_wp2_with fail
  refine (text_any _ xs w2 (tab_below htab hb2t) (hs.below hb2t) dx (by omega)).mono ?_;rintro e w4 ⟨rfl,hb4⟩;have hb4t:=hb2t.trans (hb4.mono hb2t.size);go_wp2_with fail
  go_ret
  exact⟨by rw[HT.out,<-app45];rfl,hb4t⟩
 have HS:=Lib.hid (show (0:Int)<=sgnZ (sg b (val L32 xs)) by unfold sgnZ;rw[if_neg hz];split<;>omega);have HT:=Lib.hid (show zText (sg b (val L32 xs))=Lib.decDigits (val L32 xs) by unfold zText;rw[if_neg hz,HN.out]);clear hz;have h0:=HS.out;go_enter Tryz.func124,Tryz.ntmps124
 go_wp2_with fail
 refine (wsign_any _ _ k _ (hgx.alloc _) (by omega)).mono ?_;rintro e w2 ⟨rfl,hb2⟩;have hk2:=(hb2.block w.heap.size (by simp)).trans (heap_alloc_new w _);have hb2t:=hW.trans (hb2.mono (by simp));clear hb2;obtain⟨kc0,kc1,_,_⟩:=two_cells hk2;clear hk2;go_wp2_with fail
 refine (text_any _ xs w2 (tab_below htab hb2t) (hs.below hb2t) dx (by omega)).mono ?_;rintro e w4 ⟨rfl,hb4⟩;have hb4t:=hb2t.trans (hb4.mono hb2t.size);go_wp2_with fail
 go_ret
 exact⟨by rw[HT.out];rfl,hb4t⟩
theorem prefix_no (l:List UInt8) (w:World) (hm:l.length<=1000000000) (h:l.head? ≠ some 45) :
  Calls Tryz.prog 160 #[.string ⟨l.toArray⟩,.string ⟨#[45]⟩] w fun e w'=>e=.returned (.bool false)/\w=w':=by
 cases l with
 | nil =>
  clear h;go_enter Tryz.func160,Tryz.ntmps160
  go_wp2
  go_ret
  exact⟨rfl,rfl⟩
 | cons c m =>
  have HC:=Lib.hid (show (([c]:List UInt8)==[45])=false by
   rw[beq_eq_false_iff_ne];intro e;exact h (by injection e with e;rw[e];rfl))
  clear h;go_enter Tryz.func160,Tryz.ntmps160
  go_wp2
  go_ret
  refine⟨?_,rfl⟩
  show Ending.returned (.bool (((⟨(c::m).toArray⟩:ByteArray).extract 0 1).toList==[45]))=_
  rw[take_one,HC.out]
theorem cut_no (l:List UInt8) (w:World) (hm:l.length<=1000000000) (h:l.head? ≠ some 45) :
  Calls Tryz.prog 164 #[.string ⟨l.toArray⟩,.string ⟨#[45]⟩] w fun e w'=>e=.returned (.tuple #[.string ⟨l.toArray⟩,.bool false])/\w=w':=by
 have HP:=Lib.hid (fun w=>prefix_no l w hm h);clear h
 have H:∀ w,Calls Tryz.prog 173 #[.string ⟨l.toArray⟩,.string ⟨#[45]⟩] w fun e w'=>e=.returned (.tuple #[.string ⟨l.toArray⟩,.bool false])/\w=w':=by
  intro w;go_enter Tryz.func173,Tryz.ntmps173
  go_wp2_with fail
  refine (HP.out _).mono ?_;rintro e w' ⟨rfl,rfl⟩;go_wp2_with fail
  go_ret2
  exact⟨rfl,rfl⟩
 have H':=Lib.hid H;clear H;go_enter Tryz.func164,Tryz.ntmps164
 go_wp2_with fail
 refine (H'.out _).mono ?_;rintro e w' ⟨rfl,rfl⟩;go_wp2_with fail
 go_ret2
 exact⟨rfl,rfl⟩
def zn (l:List UInt8):Int:=if l.head?=some 45 then -(dn (l.drop 1):Int) else (dn l:Int)
theorem num_head {l:List UInt8} (h:Numeral l):l.head? ≠ some 45:=by
 intro e;obtain⟨h1,_,_,h4⟩:=h
 cases l with
 | nil=>exact h1 rfl
 | cons c m =>
  injection e with e;have:=h4 c (List.mem_cons_self ..);subst e
  simp at this
theorem num_lt {l:List UInt8} (h:Numeral l):dn l<L32 ^ 34:=by
 have h1:=parse_room h.2.2.2 (Nat.le_refl l.length);exact lt_pow_more h1 (by have:=h.2.1;omega)
end Go.Proofs.YtkocdbgmckdcpaaGreatDoor
namespace Go.Proofs.YtkocdbgmckdcpaaGreatDoor
set_option maxRecDepth 100000
inductive U where
 | node (k:Nat) (nm ot:Bs) (z:Nat) (ln cl:Nat) (ks:List U)
def U.k:U->Nat | .node k _ _ _ _ _ _=>k
def U.ks:U->List U | .node _ _ _ _ _ _ ks=>ks
def u0:U:=.node 0 [] [] 0 0 0 []
mutual
def ud:U->Nat
 | .node _ _ _ _ _ _ ks=>uds ks+1
def uds:List U->Nat
 | []=>0
 | t::ts=>max (ud t) (uds ts)
end
structure St where
 rest:List Tok
 err:Option (Nat × Nat × Nat)
def tk0:Tok:=⟨4,[],0,0⟩
def St.nx (s:St):Tok:=s.rest.headD tk0
def St.tk (s:St):St:=if s.nx.kind=4 then s else ⟨s.rest.drop 1,s.err⟩
def St.fail (s:St) (t:Tok) (c:Nat):St:=⟨s.rest.drop (s.rest.length - 1),s.err.or (some (c,t.line,t.col))⟩
def St.is (s:St) (w:Bs):Bool:=s.nx.text==w
def St.acc (s:St) (w:Bs):St:=if s.is w then s.tk else s
def St.exp (s:St) (w:Bs):St:=if s.is w then s.tk else s.fail s.nx 1
def St.exps (s:St) (ws:List Bs):St:=ws.foldl St.exp s
def St.name (s:St):St:=if s.nx.kind=0 then s.tk else s.tk.fail s.nx 1
def St.counted (s:St) (count limit:Nat):St:=if limit<=count then s.name.fail s.nx 2 else s.name
abbrev wLet:Bs:=[108,101,116]
abbrev wIf:Bs:=[105,102]
abbrev wMatch:Bs:=[109,97,116,99,104]
abbrev wAssert:Bs:=[97,115,115,101,114,116]
abbrev wIn:Bs:=[105,110]
abbrev wThen:Bs:=[116,104,101,110]
abbrev wElse:Bs:=[101,108,115,101]
abbrev wWith:Bs:=[119,105,116,104]
abbrev wNil:Bs:=[91,93]
abbrev wArrow:Bs:=[45,62]
abbrev wBar:Bs:=[124]
abbrev wCons:Bs:=[58,58]
abbrev wEq:Bs:=[61]
abbrev wSemi:Bs:=[59]
abbrev wV:Bs:=[118]
abbrev wTrue:Bs:=[116,114,117,101]
abbrev wFalse:Bs:=[102,97,108,115,101]
abbrev wOpen:Bs:=[40]
abbrev wClose:Bs:=[41]
abbrev wComma:Bs:=[44]
abbrev wColon:Bs:=[58]
abbrev wBraceO:Bs:=[123]
abbrev wBraceC:Bs:=[125]
abbrev wQualif:Bs:=[113,117,97,108,105,102]
abbrev wFun:Bs:=[102,117,110]
abbrev wInt:Bs:=[105,110,116]
abbrev wBool:Bs:=[98,111,111,108]
abbrev wList:Bs:=[108,105,115,116]
structure Bop where
 sign:Bs
 kind:Nat
 level:Nat
 left:Nat
 right:Nat
def bops:List Bop:=[⟨[124,124],22,1,1,2⟩,⟨[38,38],21,2,2,3⟩,⟨[61],15,3,4,4⟩,⟨[60,62],16,3,4,4⟩,⟨[60],17,3,4,4⟩,⟨[60,61],18,3,4,4⟩,⟨[62],19,3,4,4⟩,⟨[62,61],20,3,4,4⟩,⟨[58,58],23,4,5,4⟩,⟨[43],10,5,5,6⟩,⟨[45],11,5,5,6⟩,⟨[42],12,6,6,7⟩,⟨[47],13,6,6,7⟩,⟨[37],14,6,6,7⟩]
def bopOf (w:Bs):Option Bop:=bops.find? (·.sign==w)
def unOf (w:Bs):Option Nat:=
 if w=[45] then some 5 else if w=[110,111,116] then some 6 else if w=[108,101,110] then some 7 else if w=[104,100] then some 8 else if w=[116,108] then some 9 else none
def prt (k:Nat) (t:Tok) (ks:List U):U:=.node k [] [] 0 t.line t.col ks
def nmd (k:Nat) (t:Tok) (ks:List U):U:=.node k t.text [] 0 t.line t.col ks
mutual
def cExpr:Nat->St->Option (U × St)
 | 0,_=>none
 | n+1,s =>
  if s.is wLet then cLet n s
  else if s.is wIf then cIf n s
  else if s.is wMatch then cMatch n s
  else if s.is wAssert then cAssert n s
  else cBin n 1 s
def cLet:Nat->St->Option (U × St)
 | 0,_=>none
 | n+1,s =>
  (cExpr n ((s.tk.name).exp wEq)).bind fun r1 =>
  (cExpr n (r1.2.exp wIn)).bind fun r2 =>
  some (.node 26 s.tk.nx.text [] 0 s.nx.line s.nx.col [r1.1,r2.1],r2.2)
def cIf:Nat->St->Option (U × St)
 | 0,_=>none
 | n+1,s =>
  (cExpr n s.tk).bind fun r1 =>
  (cExpr n (r1.2.exp wThen)).bind fun r2 =>
  (cExpr n (r2.2.exp wElse)).bind fun r3 =>
  some (prt 25 s.nx [r1.1,r2.1,r3.1],r3.2)
def cMatch:Nat->St->Option (U × St)
 | 0,_=>none
 | n+1,s =>
  (cExpr n s.tk).bind fun r1 =>
  (cExpr n (((r1.2.exp wWith).exp wNil).exp wArrow)).bind fun r2 =>
  (cExpr n (((((r2.2.exp wBar).name).exp wCons).name).exp wArrow)).bind fun r3 =>
  some (.node 27 (r2.2.exp wBar).nx.text (((r2.2.exp wBar).name).exp wCons).nx.text 0 s.nx.line s.nx.col [r1.1,r2.1,r3.1],r3.2)
def cAssert:Nat->St->Option (U × St)
 | 0,_=>none
 | n+1,s =>
  (cExpr n s.tk).bind fun r1 =>
  (cExpr n (r1.2.exp wSemi)).bind fun r2 =>
  some (prt 28 s.nx [r1.1,r2.1],r2.2)
def cBin:Nat->Nat->St->Option (U × St)
 | 0,_,_=>none
 | n+1,least,s=>(cOne n s).bind fun r=>cLoop n least r.1 7 r.2
def cLoop:Nat->Nat->U->Nat->St->Option (U × St)
 | 0,_,_,_,_=>none
 | n+1,least,e,level,s =>
  match bopOf s.nx.text with
  | none=>some (e,s)
  | some op =>
   if op.level<least\/level<op.left then some (e,s)
   else (cBin n op.right s.tk).bind fun r=>cLoop n least (prt op.kind s.nx [e,r.1]) op.level r.2
def cOne:Nat->St->Option (U × St)
 | 0,_=>none
 | n+1,s =>
  match unOf s.nx.text with
  | none=>cAtom n s
  | some k=>(cOne n s.tk).bind fun r=>some (prt k s.nx [r.1],r.2)
def cAtom:Nat->St->Option (U × St)
 | 0,_=>none
 | n+1,s =>
  if s.nx.kind=1 then some (.node 0 [] [] (dn s.nx.text) s.nx.line s.nx.col [],s.tk)
  else if s.nx.kind=0 then
   if s.tk.is wOpen then (cArgs n s.tk.tk).bind fun r=>some (nmd 24 s.nx r.1,r.2)
   else some (nmd 3 s.nx [],s.tk)
  else if s.is wV then some (nmd 3 s.nx [],s.tk)
  else if s.is wTrue then some (prt 1 s.nx [],s.tk)
  else if s.is wFalse then some (prt 2 s.nx [],s.tk)
  else if s.is wNil then some (prt 4 s.nx [],s.tk)
  else if s.is wOpen then (cExpr n s.tk).bind fun r=>some (r.1,r.2.exp wClose)
  else some (u0,s.tk.fail s.nx 1)
def cArgs:Nat->St->Option (List U × St)
 | 0,_=>none
 | n+1,s=>if s.is wClose then some ([],s.tk) else (cExpr n s).bind fun r=>cMore n [r.1] r.2
def cMore:Nat->List U->St->Option (List U × St)
 | 0,_,_=>none
 | n+1,l,s=>if s.is wComma then (cExpr n s.tk).bind fun r=>cMore n (l++[r.1]) r.2 else some (l,s.exp wClose)
end
structure PmU where
 nm:Bs
 b:Nat
 kn:Bool
 ref:U
 ln:Nat
 cl:Nat
structure QlU where
 nm:Bs
 ps:List PmU
 body:U
 ln:Nat
 cl:Nat
structure FnU where
 nm:Bs
 ps:List PmU
 res:PmU
 body:U
 ln:Nat
 cl:Nat
structure PgU where
 qs:List QlU
 fs:List FnU
def cAll (n:Nat) (s:St):Option (U × St):=(cExpr n s).bind fun r=>some (r.1,if 60<ud r.1 then r.2.fail s.nx 2 else r.2)
def cBase (s:St):Nat × St:=
 if s.is wInt then (0,s.tk) else if s.is wBool then (1,s.tk) else if s.is wList then (2,s.tk) else (0,s.tk.fail s.nx 1)
def cRef (n:Nat) (p:PmU) (s:St):Option (PmU × St):=
 if s.is wBraceO then (cAll n s.tk).bind fun r=>some ({ p with kn:=true,ref:=r.1 },r.2.exp wBraceC) else some (p,s)
def typ (nm:Bs) (t:Tok) (b:Nat):PmU:=⟨nm,b,false,u0,t.line,t.col⟩
def cVar (s:St):PmU × St:=let s2:=(s.exp wV).exp wColon;(typ s.nx.text s.nx (cBase s2).1,(cBase s2).2)
def cParam (count:Nat) (s:St):PmU × St:=let s2:=(s.counted count 6).exp wColon;(typ s.nx.text s.nx (cBase s2).1,(cBase s2).2)
def cRes (n:Nat) (s:St):Option (PmU × St):=cRef n (typ wV s.nx (cBase s).1) (cBase s).2
def cQMore:Nat->List PmU->St->Option (List PmU × St)
 | 0,_,_=>none
 | n+1,l,s=>if s.is wComma then cQMore n (l++[(cParam l.length s.tk).1]) (cParam l.length s.tk).2 else some (l,s)
def cFPar (n:Nat) (l:List PmU) (s:St):Option (List PmU × St):=(cRef n (cParam l.length s).1 (cParam l.length s).2).bind fun r=>some (l++[r.1],r.2)
def cFMore:Nat->Nat->List PmU->St->Option (List PmU × St)
 | 0,_,_,_=>none
 | m+1,n,l,s=>if s.is wComma then (cFPar n l s.tk).bind fun r=>cFMore m n r.1 r.2 else some (l,s.exp wClose)
def cFPars (m n:Nat) (s:St):Option (List PmU × St):=if s.is wClose then some ([],s.tk) else (cFPar n [] s).bind fun r=>cFMore m n r.1 r.2
def cQual (m n count:Nat) (s:St):Option (QlU × St):=
 let s1:=(s.counted count 20).exp wOpen
 (cQMore m [(cVar s1).1] (cVar s1).2).bind fun r =>
 (cAll n ((r.2.exp wClose).exp wColon)).bind fun q =>
 some (⟨s.nx.text,r.1,q.1,s.nx.line,s.nx.col⟩,q.2)
def cFun (m n count:Nat) (s:St):Option (FnU × St):=
 let s1:=(s.counted count 20).exp wOpen
 (cFPars m n s1).bind fun r =>
 (cRes n (r.2.exp wColon)).bind fun t =>
 (cAll n (t.2.exp wEq)).bind fun q =>
 some (⟨s.nx.text,r.1,t.1,q.1,s.nx.line,s.nx.col⟩,q.2)
def cProg:Nat->Nat->PgU->St->Option (PgU × St)
 | 0,_,_,_=>none
 | m+1,n,p,s =>
  if s.is wQualif then (cQual m n p.qs.length s.tk).bind fun r=>cProg m n ⟨p.qs++[r.1],p.fs⟩ r.2
  else if s.is wFun then (cFun m n p.fs.length s.tk).bind fun r=>cProg m n ⟨p.qs,p.fs++[r.1]⟩ r.2
  else some (p,s)
def St.fin (s:St):St:=if s.nx.kind=4 then s else s.fail s.nx 1
structure RS where
 rest:List Tok
 bad:Nat
 pl:Tok
def RS.at' (r:RS):Tok:=r.rest.headD tk0
def RS.bd (r:RS) (t:Tok) (e:Nat):RS:=if r.bad=0 then ⟨r.rest,e,t⟩ else r
def RS.is (r:RS) (w:Bs):Bool:=(r.bad==0) && (r.at'.kind==2 || r.at'.kind==3) && (r.at'.text==w)
def RS.inc (r:RS):RS:=⟨r.rest.drop 1,r.bad,r.pl⟩
def RS.name (r:RS):RS:=if r.at'.kind=0 then (if r.bad=0 then r.inc else r) else r.bd r.at' 1
structure RE where
 S:Bs
 d:Nat
def plc (ln cl:Nat):Bs:=[64]++zText (ln:Nat)++[58]++zText (cl:Nat)
def opn (k:Nat) (ln cl:Nat) (nm:Bs):Bs:=[40]++zText (k:Nat)++plc ln cl++[32]++nm
def mk (k:Nat) (t:Tok) (nm:Bs) (ks:List RE):RE:=⟨opn k t.line t.col nm++ks.flatMap RE.S++[41],ks.foldl (fun d e=>max d e.d) 0+1⟩
def twoT:List (Bs × Nat):=[([43],5),([45],5),([42],6),([47],6),([37],6),([61],3),([60,62],3),([60],3),([60,61],3),([62],3),([62,61],3),([38,38],2),([124,124],1),([58,58],4)]
def two (t:Tok):Nat × Nat:=if t.kind≠2 then (0,0) else match twoT.findIdx? (fun p=>p.1==t.text) with | some i=>((twoT.getD i ([],0)).2,10+i) | none=>(0,0)
set_option linter.unusedVariables false
def sigs:List Bs:=[[58,58],[45,62],[38,38],[124,124],[91,93],[60,62],[60,61],[62,61],[40],[41],[123],[125],[44],[58],[59],[124],[61],[60],[62],[43],[45],[42],[47],[37]]
def alls:List Bs:=wds++sigs
structure TokOk (t:Tok):Prop where
 k4:t.kind<=4
 k0:t.kind=0->t.text ∉ alls/\t.text ≠ []
 k1:t.kind=1->t.text ∉ alls/\Numeral t.text
 k2:t.kind=2->t.text ∈ sigs
 k3:t.kind=3->t.text ∈ wds
 ke:t.kind=4->t.text=[]
def GoodL:List Tok->Prop
 | []=>False
 | [t]=>t.kind=4/\TokOk t
 | t::u::ts=>t.kind<4/\TokOk t/\GoodL (u::ts)
theorem GoodL.head {l:List Tok} (h:GoodL l):TokOk (l.headD tk0):=by
 match l,h with
 | [t],h=>exact h.2
 | t::u::ts,h=>exact h.2.1
theorem GoodL.tail {l:List Tok} (h:GoodL l) (hk:(l.headD tk0).kind≠4):GoodL (l.drop 1):=by
 match l,h with
 | [t],h=>exact absurd h.1 hk
 | t::u::ts,h=>exact h.2.2
theorem GoodL.last {l:List Tok} (h:GoodL l):∃ e,l.drop (l.length - 1)=[e]/\e.kind=4/\e.text=[]:=by
 induction l with
 | nil=>exact absurd h id
 | cons t ts ih =>
  match ts,h,ih with
  | [],h,_=>exact⟨t,rfl,h.1,h.2.ke h.1⟩
  | u::ts,h,ih =>
   obtain⟨e,h1,h2⟩:=ih h.2.2;refine⟨e,?_,h2⟩;simp only[lsc,Nat.add_sub_cancel] at h1 ⊢;rw[List.drop_succ_cons];exact h1
theorem GoodL.ne {l:List Tok} (h:GoodL l):l ≠ []:=by intro e;rw[e] at h;exact h
theorem nil_alls:([]:Bs) ∉ alls:=by decide
theorem is_kind {t:Tok} (h:TokOk t) {w:Bs} (hw:w ∈ alls) (e:t.text=w):t.kind=2\/t.kind=3:=by
 have h4:=h.k4;have e0:t.kind≠0:=fun k=>(h.k0 k).1 (e ▸ hw)
 have e1:t.kind≠1:=fun k=>(h.k1 k).1 (e ▸ hw)
 have e4:t.kind≠4:=fun k=>nil_alls (by have:=h.ke k;rw[e] at this;exact this ▸ hw)
 omega
theorem St.is_true {s:St} {w:Bs} (h:s.is w=true):s.nx.text=w:=by simpa [St.is] using h
theorem bop_mem {w:Bs} {op:Bop} (h:bopOf w=some op):op ∈ bops/\op.sign=w:=by
 unfold bopOf at h;exact⟨List.mem_of_find?_eq_some h,by have:=List.find?_some h;simpa using this⟩
theorem bop_tab:∀ op ∈ bops,1<=op.level/\op.level<=6/\op.left=(if op.level=3 then 4 else if op.level=4 then 5 else op.level)/\op.right=(if op.level=4 then 4 else op.level+1)/\op.sign ∈ sigs/\op.kind≠0/\op.kind≠27/\two ⟨2,op.sign,0,0⟩=(op.level,op.kind):=by decide
def start (lev:Nat):Nat:=if lev=7 then 6 else if lev=3 then 2 else if lev=4 then 3 else lev
def Inv (lev:Nat) (s:St):Prop:=∀ op,bopOf s.nx.text=some op->op.level<=start lev\/(op.level=3/\lev<=3)
theorem un_alls {w:Bs} {k:Nat} (h:unOf w=some k):w ∈ alls/\5<=k/\k<=9:=by
 unfold unOf at h
 split at h
 ·rename_i e;injection h with h;subst h e;exact⟨by decide,by decide,by decide⟩
 split at h
 ·rename_i e;injection h with h;subst h e;exact⟨by decide,by decide,by decide⟩
 split at h
 ·rename_i e;injection h with h;subst h e;exact⟨by decide,by decide,by decide⟩
 split at h
 ·rename_i e;injection h with h;subst h e;exact⟨by decide,by decide,by decide⟩
 split at h
 ·rename_i e;injection h with h;subst h e;exact⟨by decide,by decide,by decide⟩
 cases h
end Go.Proofs.YtkocdbgmckdcpaaGreatDoor
