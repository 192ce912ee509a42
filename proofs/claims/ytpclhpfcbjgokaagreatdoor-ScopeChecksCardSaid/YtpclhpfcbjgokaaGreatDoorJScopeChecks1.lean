/-
 Joined texts: LxM,KBase,KNat,KRef,Shelf,KText,KMul,Rely,KSh,KDiv,KPar,KWhoA,KWhoF,PsM,PsR,PsE,PsN,TrM,TrA,TrG,PsU,LxA,LxB,LxC,LxD,PsA.
-/
import Init
import Derived.WalkKit
import Derived.WalkSpells
import Derived.WalkLawsBesides
import Derived.Lib.Hide
import Derived.Laws.CopyOwn
import Derived.Laws.AppendOwnNone
import Derived.Test.YtpclhpfcbjgokaaGreatDoorRows
import Derived.Deep.QuietTactic
import Derived.BigQuiet
import Derived.Shelf.Small.Bits
import Derived.Shelf.Small.Strs
import Derived.Shelf.LaysM
import Derived.Shelf.Strconv.Clone
import Derived.Shelf.Strings.Search1
import Derived.Shelf.Strings.Prefix
import Derived.Test.YtpclhpfcbjgokaaGreatDoorProg
import Derived.Lib.Builder
import Derived.Lib.ItoaNum
import Derived.Lib.AppendStr
import Derived.RegionTactic
import Derived.StillTailTactics
import Derived.Deep.RegionHeld3
import Derived.Lib.ItoaMem
import Derived.Deep.DeepCutAuto
import Derived.ProofKit
import Derived.OpenShut
import Derived.ShutString
import Derived.ChangeOld
import Derived.OwnWalk
import Derived.Laws.OwnMore
import Derived.Deep.AppendLies
import Derived.Deep.DrawnRows
import Derived.Laws.Rows
set_option maxHeartbeats 32000000
namespace Go.Proofs.YtpclhpfcbjgokaaGreatDoor
set_option maxRecDepth 100000
theorem gsa {α:Type _} {xs:List α} {i:Nat}:xs.toArray[i]?=xs[i]?:=List.getElem?_toArray
theorem gsc {α:Type _} {a:α} {xs:List α} {i:Nat}:(a::xs)[i+1]?=xs[i]?:=List.getElem?_cons_succ
theorem gsz {α:Type _} {a:α} {l:List α}:(a::l)[0]?=some a:=List.getElem?_cons_zero
theorem lsa {α:Type _} {xs ys:List α}:(xs++ys).length=xs.length+ys.length:=List.length_append
theorem lsc {α:Type _} {a:α} {xs:List α}:(a::xs).length=xs.length+1:=List.length_cons
theorem lsn {α:Type _}:([]:List α).length=0:=List.length_nil
theorem t1_ {α:Type _} {a:α} {xs:List α} {i:Nat}:(a::xs).take (i+1)=a::xs.take i:=List.take_succ_cons
theorem t2_ {α:Type _} {l:List α}:l.take 0=[]:=List.take_zero
theorem t3_ {α:Type _} {a:α} {l:List α} {i:Nat}:(a::l).drop (i+1)=l.drop i:=List.drop_succ_cons
theorem t4_ {α:Type _} {l:List α}:l.drop 0=l:=List.drop_zero
theorem t5_ {α:Type _} {l:List α} {i:Nat} {a:α}:l.toArray.setIfInBounds i a=(l.set i a).toArray:=List.setIfInBounds_toArray _ _ _
theorem t6_ {α:Type _} {x:α} {xs:List α} {a:α}:(x::xs).set 0 a=a::xs:=List.set_cons_zero
theorem t7_ {α:Type _} {x:α} {xs:List α} {n:Nat} {a:α}:(x::xs).set (n+1) a=x::xs.set n a:=List.set_cons_succ
abbrev Bs:=List UInt8
def isL (c:UInt8):Bool:=(97<=c && c<=122) || (65<=c && c<=90) || c==95
def isD (c:UInt8):Bool:=48<=c && c<=57
def isLD (c:UInt8):Bool:=isL c || isD c
def spn (p:UInt8->Bool):Bs->Nat
 | []=>0
 | c::l=>if p c then spn p l+1 else 0
theorem spn_le (p:UInt8->Bool) (l:Bs):spn p l<=l.length:=by
 induction l with
 | nil=>simp[spn]
 | cons c l ih=>simp only[spn,lsc];split<;>omega
theorem spn_step {p:UInt8->Bool} {l:Bs} {k:Nat} (h:k<l.length) (hp:p l[k]=true):spn p (l.drop k)=spn p (l.drop (k+1))+1:=by
 rw[List.drop_eq_getElem_cons h,spn,if_pos hp]
theorem spn_stop {p:UInt8->Bool} {l:Bs} {k:Nat} (h:k<l.length) (hp:p l[k]=false):spn p (l.drop k)=0:=by
 rw[List.drop_eq_getElem_cons h,spn,hp];rfl
theorem spn_end {p:UInt8->Bool} {l:Bs} {k:Nat} (h:l.length<=k):spn p (l.drop k)=0:=by
 rw[List.drop_of_length_le h];rfl
theorem spn_all {p:UInt8->Bool} (l:Bs):∀ c ∈ l.take (spn p l),p c=true:=by
 induction l with
 | nil=>simp[spn]
 | cons a l ih =>
  by_cases h:p a=true
  ·simp only[spn,h,if_true,List.take_succ_cons];intro c hc;rcases List.mem_cons.1 hc with rfl | hc
   ·exact h
   exact ih c hc
  simp[spn,h]
def wds:List Bs:=[[102,117,110],[113,117,97,108,105,102],[108,101,116],[105,110],[105,102],[116,104,101,110],[101,108,115,101],[109,97,116,99,104],[119,105,116,104],[97,115,115,101,114,116],[110,111,116],[116,114,117,101],[102,97,108,115,101],[105,110,116],[98,111,111,108],[108,105,115,116],[108,101,110],[104,100],[116,108],[118]]
def isW (l:Bs):Bool:=wds.contains l
def pairB (a b:UInt8):Bool:=(a==58 && b==58) || (a==45 && b==62) || (a==38 && b==38) || (a==124 && b==124) || (a==91 && b==93) || (a==60 && b==62) || (a==60 && b==61) || (a==62 && b==61)
def sglB (a:UInt8):Bool:=a==40 || a==41 || a==123 || a==125 || a==44 || a==58 || a==59 || a==124 || a==61 || a==60 || a==62 || a==43 || a==45 || a==42 || a==47 || a==37
def sgn:Bs->Nat
 | []=>0
 | [a]=>if sglB a then 1 else 0
 | a::b::_=>if pairB a b then 2 else if sglB a then 1 else 0
theorem sgn_le (l:Bs):sgn l<=2/\sgn l<=l.length:=by
 unfold sgn
 split
 ·simp
 ·split<;>simp
 split
 ·simp
 split<;>simp
def blk (c:UInt8):Bool:=c==32 || c==9 || c==10 || c==13
def gapL:Bool->Bs->Nat
 | _,[]=>0
 | true,c::l=>if c=10 then gapL false l+1 else gapL true l+1
 | false,c::l=>if c=35 then gapL true l+1 else if blk c then gapL false l+1 else 0
theorem gap_le (b:Bool) (l:Bs):gapL b l<=l.length:=by
 induction l generalizing b with
 | nil=>cases b<;>simp[gapL]
 | cons c l ih =>
  have h1:=ih true;have h2:=ih false
  cases b<;>simp only[gapL,lsc]<;>split<;>(try split)<;>omega
theorem gap_end {b:Bool} {l:Bs} {k:Nat} (h:l.length<=k):gapL b (l.drop k)=0:=by
 rw[List.drop_of_length_le h];cases b<;>rfl
theorem gap_blank {l:Bs} {k:Nat} (h:k<l.length) (hp:blk l[k]=true):gapL false (l.drop k)=gapL false (l.drop (k+1))+1:=by
 rw[List.drop_eq_getElem_cons h,gapL,if_neg (fun e=>by rw[e] at hp;simp[blk] at hp),if_pos hp]
theorem gap_hash {l:Bs} {k:Nat} (h:k<l.length) (hp:l[k]=35):gapL false (l.drop k)=gapL true (l.drop (k+1))+1:=by
 rw[List.drop_eq_getElem_cons h,gapL,if_pos hp]
theorem gap_stop {l:Bs} {k:Nat} (h:k<l.length) (hb:blk l[k]=false) (hp:l[k]≠35):gapL false (l.drop k)=0:=by
 rw[List.drop_eq_getElem_cons h,gapL,if_neg hp,hb];rfl
def notNl (c:UInt8):Bool:=c != 10
theorem gap_cmt (l:Bs):gapL true l=spn notNl l+gapL false (l.drop (spn notNl l)):=by
 induction l with
 | nil=>simp[gapL,spn]
 | cons c l ih =>
  by_cases h:c=10
  ·subst h;simp[gapL,spn,notNl,blk]
  simp only[gapL,spn,notNl,if_neg h];have:(c != 10)=true:=by simp[h]
  simp only[this,if_true,List.drop_succ_cons];have e:spn (fun c=>c != 10) l=spn notNl l:=rfl;rw[ih];omega
theorem gap_cmt' {l:Bs} {k:Nat} (h:k<l.length) (hp:l[k]=35):gapL false (l.drop k)=spn notNl (l.drop k)+gapL false (l.drop (k+spn notNl (l.drop k))):=by
 rw[gap_hash h hp,gap_cmt,List.drop_drop];have e:spn notNl (l.drop k)=spn notNl (l.drop (k+1))+1:=spn_step h (by rw[hp];rfl);rw[e,show k+(spn notNl (l.drop (k+1))+1)=k+1+spn notNl (l.drop (k+1)) from by omega]
 omega
def stepP (p:Nat × Nat) (c:UInt8):Nat × Nat:=if c=10 then (p.1+1,1) else (p.1,p.2+1)
def adv (p:Nat × Nat) (l:Bs):Nat × Nat:=l.foldl stepP p
theorem adv_cons (p:Nat × Nat) (c:UInt8) (l:Bs):adv p (c::l)=adv (stepP p c) l:=rfl
theorem adv_app (p:Nat × Nat) (l r:Bs):adv p (l++r)=adv (adv p l) r:=by simp[adv]
theorem adv_take_succ (p:Nat × Nat) (l:Bs) (k:Nat) (h:k<l.length):adv p (l.take (k+1))=stepP (adv p (l.take k)) l[k]:=by
 rw[List.take_succ_eq_append_getElem h,adv_app];rfl
theorem stepP_nl {p:Nat × Nat} {c:UInt8} (h:c=10):stepP p c=(p.1+1,1):=by rw[stepP,if_pos h]
theorem stepP_no {p:Nat × Nat} {c:UInt8} (h:c≠10):stepP p c=(p.1,p.2+1):=by rw[stepP,if_neg h]
theorem adv_bd (p:Nat × Nat) (l:Bs):(adv p l).1<=p.1+l.length/\(adv p l).2<=p.2+1+l.length:=by
 induction l generalizing p with
 | nil=>simp[adv]
 | cons c l ih =>
  rw[adv_cons];have:=ih (stepP p c)
  by_cases h:c=10
  ·rw[stepP_nl h] at this ⊢;simp only[lsc] at this ⊢;omega
  rw[stepP_no h] at this ⊢;simp only[lsc] at this ⊢;omega
inductive Meas where | ok (kind len:Nat) | bad (e:Nat)
def meas:Bs->Meas
 | []=>.ok 4 0
 | a::r =>
  if isL a then
   if 40<spn isLD (a::r) then .bad 2 else if isW ((a::r).take (spn isLD (a::r))) then .ok 3 (spn isLD (a::r)) else .ok 0 (spn isLD (a::r))
  else if isD a then
   if 1<spn isD (a::r)/\a=48 then .bad 1 else if 300<spn isD (a::r) then .bad 2 else .ok 1 (spn isD (a::r))
  else if 0<sgn (a::r) then .ok 2 (sgn (a::r)) else .bad 1
theorem meas_cons (a:UInt8) (r:Bs):meas (a::r) =
  if isL a then
   if 40<spn isLD (a::r) then .bad 2 else if isW ((a::r).take (spn isLD (a::r))) then .ok 3 (spn isLD (a::r)) else .ok 0 (spn isLD (a::r))
  else if isD a then
   if 1<spn isD (a::r)/\a=48 then .bad 1 else if 300<spn isD (a::r) then .bad 2 else .ok 1 (spn isD (a::r))
  else if 0<sgn (a::r) then .ok 2 (sgn (a::r)) else .bad 1:=rfl
theorem isLD_ne {c:UInt8} (h:isLD c=true):c≠10/\blk c=false/\c≠35:=by
 have hc:∀ x:UInt8,(x=10\/x=32\/x=9\/x=13\/x=35)->isLD x=false:=by
  intro x hx;rcases hx with rfl | rfl | rfl | rfl | rfl<;>rfl
 refine⟨fun e=>?_,?_,fun e=>?_⟩
 ·rw[hc c (.inl e)] at h;cases h
 ·cases hb:blk c with
  | false=>rfl
  | true =>
   have:c=32\/c=9\/c=10\/c=13:=by simpa [blk,or_assoc] using hb
   rw[hc c (by rcases this with e | e | e | e<;>simp[e])] at h;cases h
 rw[hc c (by simp[e])] at h;cases h
theorem isD_LD {c:UInt8} (h:isD c=true):isLD c=true:=by simp[isLD,h]
theorem isL_LD {c:UInt8} (h:isL c=true):isLD c=true:=by simp[isLD,h]
theorem sgl_ne {c:UInt8} (h:sglB c=true):c≠10/\blk c=false/\c≠35:=by
 have hc:∀ x:UInt8,(x=10\/x=32\/x=9\/x=13\/x=35)->sglB x=false:=by
  intro x hx;rcases hx with rfl | rfl | rfl | rfl | rfl<;>rfl
 refine⟨fun e=>?_,?_,fun e=>?_⟩
 ·rw[hc c (.inl e)] at h;cases h
 ·cases hb:blk c with
  | false=>rfl
  | true =>
   have:c=32\/c=9\/c=10\/c=13:=by simpa [blk,or_assoc] using hb
   rw[hc c (by rcases this with e | e | e | e<;>simp[e])] at h;cases h
 rw[hc c (by simp[e])] at h;cases h
theorem pair_ne {a b:UInt8} (h:pairB a b=true):(a≠10/\blk a=false/\a≠35)/\b≠10:=by
 simp only[pairB,Bool.or_eq_true,Bool.and_eq_true,beq_iff_eq] at h;rcases h with ((((((⟨rfl,rfl⟩ | ⟨rfl,rfl⟩) | ⟨rfl,rfl⟩) | ⟨rfl,rfl⟩) | ⟨rfl,rfl⟩) | ⟨rfl,rfl⟩) | ⟨rfl,rfl⟩) | ⟨rfl,rfl⟩<;>exact⟨⟨by decide,rfl,by decide⟩,by decide⟩
theorem meas_ok {l:Bs} {k n:Nat} (hl:l ≠ []) (h:meas l=.ok k n):k<4/\1<=n/\n<=l.length/\(∀ c ∈ l.take n,c≠10)/\(∀ c,l.head?=some c->blk c=false/\c≠35):=by
 match l,hl with
 | a::r,_ =>
  rw[meas_cons] at h
  by_cases h1:isL a=true
  ·rw[if_pos h1] at h;have e:spn isLD (a::r)=spn isLD r+1:=by rw[spn,if_pos (isL_LD h1)]
   have hne:=isLD_ne (isL_LD h1);have hle:=spn_le isLD (a::r);have hall:=spn_all (p:=isLD) (a::r)
   split at h
   ·cases h
   ·split at h<;>(injection h with hk hn;subst hk;subst hn;exact⟨by omega,by omega,hle,fun c hc=>(isLD_ne (hall c hc)).1,fun c hc=>by simp at hc;subst hc;exact hne.2⟩)
  rw[if_neg h1] at h
  by_cases h2:isD a=true
  ·rw[if_pos h2] at h;have e:spn isD (a::r)=spn isD r+1:=by rw[spn,if_pos h2]
   have hne:=isLD_ne (isD_LD h2);have hle:=spn_le isD (a::r);have hall:=spn_all (p:=isD) (a::r)
   split at h
   ·cases h
   split at h
   ·cases h
   injection h with hk hn;subst hk;subst hn;exact⟨by omega,by omega,hle,fun c hc=>(isLD_ne (isD_LD (hall c hc))).1,fun c hc=>by simp at hc;subst hc;exact hne.2⟩
  rw[if_neg h2] at h
  split at h
  ·rename_i h3
   injection h with hk hn;subst hk;subst hn;have hle:=(sgn_le (a::r)).2
   match r,h3,hle with
   | [],h3,hle =>
    have e2:sglB a=true:=by
     cases hs:sglB a with
     | true=>rfl
     | false=>simp[sgn,hs] at h3
    have e1:sgn [a]=1:=by simp[sgn,e2]
    have hne:=sgl_ne e2;exact⟨by omega,by omega,hle,fun c hc=>by rw[e1] at hc;simp at hc;subst hc;exact hne.1,fun c hc=>by simp at hc;subst hc;exact hne.2⟩
   | b::r',h3,hle =>
    by_cases e2:pairB a b=true
    ·have e1:sgn (a::b::r')=2:=by simp[sgn,e2]
     have hne:=pair_ne e2;exact⟨by omega,by omega,hle,fun c hc=>by rw[e1] at hc;simp at hc;rcases hc with rfl | rfl;exact hne.1.1;exact hne.2,fun c hc=>by simp at hc;subst hc;exact hne.1.2⟩
    have e3:sglB a=true:=by
     cases hs:sglB a with
     | true=>rfl
     | false=>simp[sgn,e2,hs] at h3
    have e1:sgn (a::b::r')=1:=by simp[sgn,e2,e3]
    have hne:=sgl_ne e3;exact⟨by omega,by omega,hle,fun c hc=>by rw[e1] at hc;simp at hc;subst hc;exact hne.1,fun c hc=>by simp at hc;subst hc;exact hne.2⟩
  cases h
structure Tok where
 kind:Nat
 text:Bs
 line:Nat
 col:Nat
def lexS (s:Bs) (p:Nat × Nat):List Tok × Nat:=
 if _h:s.drop (gapL false s)=[] then ([⟨4,[],(adv p (s.take (gapL false s))).1,(adv p (s.take (gapL false s))).2⟩],0)
 else match meas (s.drop (gapL false s)) with
  | .bad e=>([⟨4,[],(adv p (s.take (gapL false s))).1,(adv p (s.take (gapL false s))).2⟩],e)
  | .ok k n =>
   let r:=lexS ((s.drop (gapL false s)).drop (n - 1+1)) (adv (adv p (s.take (gapL false s))) ((s.drop (gapL false s)).take (n - 1+1)))
   (⟨k,(s.drop (gapL false s)).take n,(adv p (s.take (gapL false s))).1,(adv p (s.take (gapL false s))).2⟩::r.1,r.2)
termination_by s.length
decreasing_by
 have:0<(s.drop (gapL false s)).length:=List.length_pos_iff.2 _h
 simp at this ⊢;omega
theorem lex_end {s:Bs} {p:Nat × Nat} (h:s.drop (gapL false s)=[]):lexS s p=([⟨4,[],(adv p s).1,(adv p s).2⟩],0):=by
 have e:s.take (gapL false s)=s:=List.take_of_length_le (List.drop_eq_nil_iff.1 h);rw[lexS,dif_pos h,e]
theorem lex_bad {s:Bs} {p:Nat × Nat} {e:Nat} (h:s.drop (gapL false s) ≠ []) (hm:meas (s.drop (gapL false s))=.bad e):lexS s p=([⟨4,[],(adv p (s.take (gapL false s))).1,(adv p (s.take (gapL false s))).2⟩],e):=by
 rw[lexS,dif_neg h,hm]
theorem lex_tok {s:Bs} {p:Nat × Nat} {k n:Nat} (h:s.drop (gapL false s) ≠ []) (hm:meas (s.drop (gapL false s))=.ok k n) :
  lexS s p=(⟨k,(s.drop (gapL false s)).take n,(adv p (s.take (gapL false s))).1,(adv p (s.take (gapL false s))).2⟩::(lexS ((s.drop (gapL false s)).drop n) (adv (adv p (s.take (gapL false s))) ((s.drop (gapL false s)).take n))).1,
   (lexS ((s.drop (gapL false s)).drop n) (adv (adv p (s.take (gapL false s))) ((s.drop (gapL false s)).take n))).2):=by
 have h1:=(meas_ok h hm).2.1;have e:n - 1+1=n:=by omega
 rw[lexS,dif_neg h,hm];simp only[e]
theorem lex_ne (s:Bs) (p:Nat × Nat):(lexS s p).1 ≠ []:=by
 rw[lexS];split
 ·simp
 split<;>simp
theorem meas_bad {l:Bs} {e:Nat} (h:meas l=.bad e):e=1\/e=2:=by
 match l with
 | []=>cases h
 | a::r =>
  rw[meas_cons] at h
  repeat' split at h
  all_goals first | (injection h with h;omega) | cases h
theorem lex_code (s:Bs) (p:Nat × Nat):(lexS s p).2=0\/(lexS s p).2=1\/(lexS s p).2=2:=by
 induction hn:s.length using Nat.strongRecOn generalizing s p with
 | ind n ih =>
  by_cases h:s.drop (gapL false s)=[]
  ·rw[lex_end h];exact .inl rfl
  cases hm:meas (s.drop (gapL false s)) with
  | bad e=>rw[lex_bad h hm];rcases meas_bad hm with e | e<;>simp[e]
  | ok k m =>
   rw[lex_tok h hm];have:=meas_ok h hm;exact ih _ (by subst hn;have h1:=List.length_pos_iff.2 h;simp only[List.length_drop] at this h1 ⊢;omega) _ _ rfl
theorem lex_ind {C:Bs->Nat × Nat->List Tok->Prop} (hend:∀ s p,s.drop (gapL false s)=[]->C s p [⟨4,[],(adv p s).1,(adv p s).2⟩])
  (htok:∀ s p k n ts,s.drop (gapL false s) ≠ []->meas (s.drop (gapL false s))=.ok k n->C ((s.drop (gapL false s)).drop n) (adv (adv p (s.take (gapL false s))) ((s.drop (gapL false s)).take n)) ts ->
   lexS ((s.drop (gapL false s)).drop n) (adv (adv p (s.take (gapL false s))) ((s.drop (gapL false s)).take n))=(ts,0) ->
   C s p (⟨k,(s.drop (gapL false s)).take n,(adv p (s.take (gapL false s))).1,(adv p (s.take (gapL false s))).2⟩::ts))
  (s:Bs) (p:Nat × Nat) (h0:(lexS s p).2=0):C s p (lexS s p).1:=by
 induction hn:s.length using Nat.strongRecOn generalizing s p with
 | ind n ih =>
  by_cases h:s.drop (gapL false s)=[]
  ·rw[lex_end h];exact hend s p h
  cases hm:meas (s.drop (gapL false s)) with
  | bad e=>rw[lex_bad h hm] at h0;rcases meas_bad hm with e | e<;>simp[e] at h0
  | ok k m =>
   rw[lex_tok h hm] at h0 ⊢;have:=meas_ok h hm;refine htok s p k m _ h hm (ih _ (by subst hn;have h1:=List.length_pos_iff.2 h;simp only[List.length_drop] at this h1 ⊢;omega) _ _ h0 rfl) ?_;exact Prod.ext rfl h0
def textSum (ts:List Tok):Nat:=(ts.map fun t=>t.text.length).sum
theorem lex_sum (s:Bs) (p:Nat × Nat):(lexS s p).1.length<=s.length+1/\textSum (lexS s p).1<=s.length:=by
 induction hn:s.length using Nat.strongRecOn generalizing s p with
 | ind n ih =>
  by_cases h:s.drop (gapL false s)=[]
  ·rw[lex_end h];simp[textSum]
  cases hm:meas (s.drop (gapL false s)) with
  | bad e=>rw[lex_bad h hm];simp[textSum]
  | ok k m =>
   rw[lex_tok h hm];have h2:=meas_ok h hm;have h3:=ih _ (by subst hn;have h1:=List.length_pos_iff.2 h;simp only[List.length_drop] at h2 h1 ⊢;omega) ((s.drop (gapL false s)).drop m) (adv (adv p (s.take (gapL false s))) ((s.drop (gapL false s)).take m)) rfl;simp only[textSum,List.length_drop,lsc,List.map_cons,List.sum_cons,List.length_take] at h2 h3 ⊢
   omega
def Placed (s:Bs) (p:Nat × Nat):Nat->List Tok->Prop
 | off,[]=>off=s.length
 | off,t::ts=>∃ o,off<=o/\o+t.text.length<=s.length/\adv p (s.take o)=(t.line,t.col)/\(s.drop o).take t.text.length=t.text/\(∀ c ∈ t.text,c≠10)/\Placed s p (o+t.text.length) ts
theorem lex_placed (s0:Bs) (p0:Nat × Nat) (h0:(lexS s0 p0).2=0):Placed s0 p0 0 (lexS s0 p0).1:=by
 refine lex_ind (C:=fun s p ts=>∀ off,off<=s0.length->s=s0.drop off->p=adv p0 (s0.take off)->Placed s0 p0 off ts) ?_ ?_ s0 p0 h0 0 (Nat.zero_le _) rfl rfl
 ·intro s p h off ho hs hp;refine⟨s0.length,ho,by simp,?_,by simp,by simp,by simp[Placed]⟩;rw[hs,hp,<-adv_app,List.take_append_drop,List.take_length]
 intro s p k n ts h hm ih he off ho hs hp;have h2:=meas_ok h hm;have hg:=gap_le false s;have hl:s.length=s0.length - off:=by rw[hs,List.length_drop]
 have h3:n<=s.length - gapL false s:=by have:=h2.2.2.1;simpa using this
 have hp1:adv p (s.take (gapL false s))=adv p0 (s0.take (off+gapL false s)):=by
  rw[hp,<-adv_app,List.take_add];rw[<-hs]
 have hdd:(s.drop (gapL false s))=s0.drop (off+gapL false s):=by rw[<-List.drop_drop,<-hs]
 have hlen:((s.drop (gapL false s)).take n).length=n:=by rw[List.length_take,List.length_drop];omega
 refine⟨off+gapL false s,by omega,by rw[hlen];omega,by rw[<-hp1],by rw[hlen,<-hdd],h2.2.2.2.1,?_⟩;rw[hlen];refine ih _ (by omega) (by rw[hdd,List.drop_drop]) ?_;rw[hp1,hdd,<-adv_app,<-List.take_add]
def val (B:Nat):List Nat->Nat
 | []=>0
 | x::xs=>x+B*val B xs
def Dig (B:Nat) (xs:List Nat):Prop:=∀ x ∈ xs,x<B
theorem val_append (B:Nat) (xs ys:List Nat):val B (xs++ys)=val B xs+B ^ xs.length*val B ys:=by
 induction xs with
 | nil=>simp[val]
 | cons x xs ih=>simp only[List.cons_append,val,ih,lsc,Nat.pow_succ];grind
theorem val_lt {B:Nat} {xs:List Nat} (h:Dig B xs):val B xs<B ^ xs.length:=by
 induction xs with
 | nil=>simp[val]
 | cons x xs ih =>
  have h1:x<B:=h x (by simp);have h2:=ih (fun y hy=>h y (by simp[hy]));simp only[val,lsc,Nat.pow_succ];have:B*(val B xs+1)<=B*B ^ xs.length:=Nat.mul_le_mul_left _ h2
  grind
theorem val_take_succ (B:Nat) (xs:List Nat) (k:Nat) (h:k<xs.length):val B (xs.take (k+1))=val B (xs.take k)+xs.getD k 0*B ^ k:=by
 rw[List.take_succ_eq_append_getElem h,val_append];have e:(xs.take k).length=k:=by simp;omega
 simp[val,e,List.getD,h,Nat.mul_comm]
theorem val_replicate_zero (B n:Nat):val B (List.replicate n 0)=0:=by
 induction n with
 | zero=>rfl
 | succ n ih=>simp[List.replicate_succ,val,ih]
theorem Dig.set {B:Nat} {xs:List Nat} (h:Dig B xs) {i v:Nat} (hv:v<B):Dig B (xs.set i v):=by
 intro x hx;rcases List.mem_or_eq_of_mem_set hx with h' | h'
 ·exact h x h'
 omega
theorem Dig.take {B:Nat} {xs:List Nat} (h:Dig B xs) (n:Nat):Dig B (xs.take n):=fun x hx=>h x (List.mem_of_mem_take hx)
theorem Dig.getD {B:Nat} {xs:List Nat} (h:Dig B xs) (hB:0<B) (i:Nat):xs.getD i 0<B:=by
 by_cases hi:i<xs.length
 ·have:=h xs[i] (List.getElem_mem hi);simpa [List.getD,hi] using this
 simpa [List.getD,Nat.le_of_not_lt hi] using hB
theorem Dig.replicate {B:Nat} (hB:0<B) (n:Nat):Dig B (List.replicate n 0):=fun x hx=>by rw[List.eq_of_mem_replicate hx];exact hB
def nz (xs:List Nat):Nat:=(xs.reverse.dropWhile (· == 0)).length
theorem nz_le (xs:List Nat):nz xs<=xs.length:=by
 unfold nz;have:=(List.dropWhile_suffix (p:=(· == 0)) (l:=xs.reverse)).length_le
 simpa using this
theorem nz_zero {xs:List Nat} {k:Nat} (h:k<xs.length) (h0:xs.getD k 0=0):nz (xs.take (k+1))=nz (xs.take k):=by
 unfold nz;rw[List.take_succ_eq_append_getElem h]
 simp[List.getD,h] at h0
 simp[h0]
theorem nz_pos {xs:List Nat} {k:Nat} (h:k<xs.length) (h0:xs.getD k 0≠0):nz (xs.take (k+1))=k+1:=by
 unfold nz;rw[List.take_succ_eq_append_getElem h]
 simp[List.getD,h] at h0
 have e:(xs[k]==0)=false:=by simpa using h0
 rw[List.reverse_append,List.reverse_singleton,List.singleton_append,List.dropWhile_cons,e]
 simp;omega
def dig (B:Nat) (n:Nat):List Nat:=
 if _h:2<=B/\0<n then n % B::dig B (n / B) else []
termination_by n
decreasing_by exact Nat.div_lt_self _h.2 (by omega)
theorem dig_zero (B:Nat):dig B 0=[]:=by unfold dig;simp
theorem dig_pos {B n:Nat} (hB:2<=B) (h:0<n):dig B n=n % B::dig B (n / B):=by rw[dig];simp[hB,h]
theorem val_dig {B:Nat} (hB:2<=B) (n:Nat):val B (dig B n)=n:=by
 induction n using Nat.strongRecOn with
 | ind n ih =>
  by_cases h:0<n
  ·rw[dig_pos hB h];simp only[val];rw[ih _ (Nat.div_lt_self h (by omega))];have:=Nat.mod_add_div n B;omega
  have:n=0:=by omega
  subst this;simp[dig_zero,val]
theorem Dig_dig {B:Nat} (hB:2<=B) (n:Nat):Dig B (dig B n):=by
 induction n using Nat.strongRecOn with
 | ind n ih =>
  by_cases h:0<n
  ·rw[dig_pos hB h];intro x hx;rcases List.mem_cons.1 hx with rfl | hx
   ·exact Nat.mod_lt _ (by omega)
   exact ih _ (Nat.div_lt_self h (by omega)) x hx
  have:n=0:=by omega
  subst this;simp[dig_zero,Dig]
theorem take_nz {B:Nat} (hB:2<=B) {xs:List Nat} (h:Dig B xs):xs.take (nz xs)=dig B (val B xs):=by
 induction xs with
 | nil=>simp[nz,val,dig_zero]
 | cons x xs ih =>
  have hx:x<B:=h x (by simp);have hd:Dig B xs:=fun y hy=>h y (by simp[hy])
  have ih':=ih hd
  by_cases hz:nz xs=0
  ·have hv:val B xs=0:=by
    have:dig B (val B xs)=[]:=by rw[<-ih',hz];rfl
    by_cases h0:0<val B xs
    ·rw[dig_pos hB h0] at this;cases this
    omega
   have hall:xs.reverse.dropWhile (· == 0)=[]:=List.eq_nil_of_length_eq_zero hz;simp only[val,hv,Nat.mul_zero,Nat.add_zero]
   have e:nz (x::xs)=if x=0 then 0 else 1:=by
    unfold nz;rw[List.reverse_cons,List.dropWhile_append,hall]
    by_cases hx0:x=0
    ·simp[hx0]
    simp[hx0,List.dropWhile]
    have:(x==0)=false:=by simpa using hx0
    simp[this]
   by_cases hx0:x=0
   ·rw[e,if_pos hx0,hx0,dig_zero];rfl
   rw[e,if_neg hx0,dig_pos hB (by omega),Nat.mod_eq_of_lt hx,Nat.div_eq_of_lt hx,dig_zero];rfl
  have hne:xs.reverse.dropWhile (· == 0) ≠ []:=fun e=>hz (by unfold nz;rw[e];rfl)
  have e:nz (x::xs)=nz xs+1:=by
   unfold nz;rw[List.reverse_cons,List.dropWhile_append,if_neg (by simpa using hne)]
   simp
  have hv:0<val B xs:=by
   rcases Nat.eq_zero_or_pos (val B xs) with h0 | h0
   ·rw[h0,dig_zero] at ih';have:=congrArg List.length ih'
    simp at this
    have hl:=nz_le xs;rcases this with h1 | h1
    ·omega
    subst h1;simp[nz] at hz
   exact h0
  have hv':0<x+B*val B xs:=by
   have h1:1<=B:=by omega
   have:=Nat.mul_le_mul h1 hv;omega
  rw[e,List.take_succ_cons,ih',val,dig_pos (n:=x+B*val B xs) hB hv'];rw[Nat.add_mul_mod_self_left,Nat.mod_eq_of_lt hx,Nat.add_mul_div_left _ _ (by omega),Nat.div_eq_of_lt hx,Nat.zero_add]
theorem dig_val_take {B:Nat} (hB:2<=B) {xs:List Nat} (h:Dig B xs):dig B (val B xs)=xs.take (nz xs):=(take_nz hB h).symm
theorem length_dig_val {B:Nat} (hB:2<=B) {xs:List Nat} (h:Dig B xs):(dig B (val B xs)).length=nz xs:=by
 rw[dig_val_take hB h,List.length_take];have:=nz_le xs;omega
theorem val_take_nz {B:Nat} (hB:2<=B) {xs:List Nat} (h:Dig B xs):val B (xs.take (nz xs))=val B xs:=by rw[take_nz hB h,val_dig hB]
theorem length_dig_le {B:Nat} (hB:2<=B) {n k:Nat} (h:n<B ^ k):(dig B n).length<=k:=by
 induction k generalizing n with
 | zero=>simp at h;subst h;simp[dig_zero]
 | succ k ih =>
  by_cases h0:0<n
  ·rw[dig_pos hB h0,lsc];have:n / B<B ^ k:=Nat.div_lt_of_lt_mul (by rw[Nat.pow_succ] at h;rw[Nat.mul_comm];exact h);have:=ih this;omega
  have:n=0:=by omega
  subst this;simp[dig_zero]
end Go.Proofs.YtpclhpfcbjgokaaGreatDoor
namespace Go.Proofs.YtpclhpfcbjgokaaGreatDoor
open Go.RowKit
set_option maxRecDepth 100000
def nth (xs:List Nat) (i:Nat):Int:=((xs.getD i 0:Nat):Int)
theorem nth_eq {xs:List Nat} {i:Nat} (h:i<xs.length):nth xs i=((xs[i]:Nat):Int):=by
 unfold nth;simp[List.getD,h]
def Sl (w:World) (k:IntKind) (v:Value) (xs:List Nat):Prop:=
 ∃ (ao:Option Addr) (cap:Nat),v=.slice ao xs.length cap/\xs.length<=cap/\cap<=9223372036854775807/\(ao=none->cap=0) /\
  ∀ i,i<xs.length->∃ a,ao=some a/\w.cell? (a.add i)=some (.int k (nth xs i))
theorem addr_add_add (a:Addr) (i j:Nat):(a.add i).add j=a.add (i+j):=by
 unfold Addr.add
 by_cases hi:i=0
 ·simp[hi]
 by_cases hj:j=0
 ·simp[hj]
 simp[hi,hj];omega
theorem cell_lt {w:World} {a:Addr} {v:Value} (h:w.cell? a=some v):a.block<w.heap.size:=World.block_lt_of_cell? w a h
theorem Sl.nil (w:World) (k:IntKind):Sl w k (.slice none 0 0) []:=
 ⟨none,0,rfl,by simp,by omega,fun _=>rfl,fun i hi=>by simp at hi⟩
theorem Sl.below {w w':World} {k:IntKind} {v:Value} {xs:List Nat} (h:Sl w k v xs) (hb:Below w.heap.size w w'):Sl w' k v xs:=by
 obtain⟨ao,cap,rfl,h1,h2,h3,h4⟩:=h;refine⟨ao,cap,rfl,h1,h2,h3,fun i hi=>?_⟩;obtain⟨a,ha,hc⟩:=h4 i hi;exact⟨a,ha,by rw[hb.cell (cell_lt hc)];exact hc⟩
theorem Sl.take {w:World} {k:IntKind} {ao:Option Addr} {n cap:Nat} {xs:List Nat} (h:Sl w k (.slice ao n cap) xs) (m:Nat) (hm:m<=xs.length):Sl w k (.slice ao m cap) (xs.take m):=by
 obtain⟨ao',cap',e,h1,h2,h3,h4⟩:=h;injection e with e1 e2 e3;subst e1;subst e3;have hl:(xs.take m).length=m:=by simp;omega
 refine⟨ao,cap,by rw[hl],by rw[hl];omega,h2,h3,fun i hi=>?_⟩;rw[hl] at hi;obtain⟨a,ha,hc⟩:=h4 i (by omega);refine⟨a,ha,?_⟩;rw[hc];unfold nth
 simp[List.getD,hi]
def Blk (w:World) (g:Nat) (k:IntKind) (T:TypeId) (l:List Nat):Prop:=
 w.heap[g]?=some (.cells ((l.map fun (n:Nat)=>Value.int k ((n:Nat):Int)).toArray) T (0,0))
theorem Blk.lt {w:World} {g:Nat} {k:IntKind} {T:TypeId} {l:List Nat} (h:Blk w g k T l):g<w.heap.size:=lt_of_block h
theorem Blk.cell {w:World} {g:Nat} {k:IntKind} {T:TypeId} {l:List Nat} (h:Blk w g k T l) {i:Nat} (hi:i<l.length):w.cell? ⟨g,i,none⟩=some (.int k (nth l i)):=by
 rw[cell_of_row w g i _ T (0,0) h]
 simp[hi,nth_eq hi]
theorem Blk.frozen {w:World} {g:Nat} {k:IntKind} {T:TypeId} {l:List Nat} (h:Blk w g k T l) (i:Nat):w.frozen? ⟨g,i,none⟩=false:=frozen_of_row w g i _ T h
theorem Blk.set {w:World} {g:Nat} {k:IntKind} {T:TypeId} {l:List Nat} (h:Blk w g k T l) (i:Nat) (n:Nat) (z:Int) (hz:z=(n:Int)):Blk (w.setCell ⟨g,i,none⟩ (.int k z)) g k T (l.set i n):=by
 subst hz;unfold Blk;rw[heap_setCell_same w g i _ T _ h]
 simp[List.map_set]
theorem addr_at (g off i:Nat):(⟨g,off,none⟩:Addr).add i=⟨g,off+i,none⟩:=by simp[Addr.add]
theorem Blk.sl {w:World} {g:Nat} {k:IntKind} {T:TypeId} {l:List Nat} (h:Blk w g k T l) (off n cap:Nat) (hn:off+n<=l.length) (hc:n<=cap) (hm:cap<=9223372036854775807) :
  Sl w k (.slice (some ⟨g,off,none⟩) n cap) ((l.drop off).take n):=by
 have hl:((l.drop off).take n).length=n:=by simp;omega
 refine⟨some ⟨g,off,none⟩,cap,by rw[hl],by rw[hl];exact hc,hm,(fun e=>by cases e),fun i hi=>⟨_,rfl,?_⟩⟩;rw[hl] at hi;rw[addr_at,h.cell (i:=off+i) (by omega)];unfold nth
 simp[List.getD,hi]
theorem grown_setCell {w0 w:World} {g i:Nat} (h:w0.grownBy w (some g)) (v:Value):w0.grownBy (w.setCell ⟨g,i,none⟩ v) (some g):=
 ⟨h.os,h.tape,h.output,by simpa [World.setCell] using h.size,fun k hk hne=>by
  rw[Below.heap_setCell _ _ _ _ (fun e=>hne (by rw[e]))];exact h.block k hk hne⟩
theorem grown_drew {w0 w:World} {row:Option Nat} (h:w0.grownBy w row):w0.grownBy w.drew row:=⟨h.os,h.tape,h.output,h.size,h.block⟩
def Ws (w:World) (k:IntKind) (T:TypeId) (v:Value) (g:Nat) (pre s post:List Nat):Prop:=
 ∃ (ao:Option Addr) (cap:Nat),v=.slice ao s.length cap/\s.length<=cap/\cap<=9223372036854775807/\(ao=none->cap=0) /\
  (s.length≠0->ao=some ⟨g,pre.length,none⟩/\Blk w g k T (pre++s++post))
def WsAt (w:World) (k:IntKind) (T:TypeId) (ao:Option Addr) (g:Nat) (pre s post:List Nat) (n:Nat):Prop:=
 n≠0->ao=some ⟨g,pre.length,none⟩/\Blk w g k T (pre++s++post)
theorem u32_wf {xs:List Nat} (h:Dig 4294967296 xs) (i:Nat):0<=nth xs i/\nth xs i<4294967296:=by
 have h1:=h.getD (by omega) i;unfold nth;omega
theorem nth_mid (pre s post:List Nat) (i:Nat) (h:i<s.length):nth (pre++s++post) (pre.length+i)=nth s i:=by
 unfold nth
 simp[List.getD,List.getElem?_append_left,List.getElem?_append_right,h]
theorem set_mid (pre s post:List Nat) (i n:Nat) (h:i<s.length):(pre++s++post).set (pre.length+i) n=pre++s.set i n++post:=by
 rw[List.append_assoc,List.set_append_right _ _ (by omega),List.set_append_left _ _ (by omega),List.append_assoc]
 simp
theorem heap_of_owns {w:World} {base:Nat} {e:TypeId} {g n cap:Nat} {xs:List Value} (h:w.ownsRow base e 1 (.slice (some ⟨g,0,none⟩) n cap) n xs) (hn:n=cap):w.heap[g]?=some (.cells xs.toArray e (0,0)):=by
 obtain⟨hl,h2⟩:=h;rcases h2 with ⟨e1,_⟩ | ⟨g',cap',cur,e1,_,hg,_,_,hs,ht⟩
 ·cases e1
 injection e1 with e1 e2 e3;injection e1 with e1;injection e1 with e1;subst e1;subst e3;subst hn;rw[hg,<-ht,Nat.mul_one]
 congr 2
 rw[List.take_of_length_le (by simp[hs])]
theorem wpList_make_blk {P:Program} (w:World) {ops:Array Oper} {rest:List Oper} {o:Oper} {a:Act} {Q:Exit->Act->World->Prop}
  (hg:o.guard=none) (l c:Operand) (t:TypeId) (hop:o.op=Op.makeSlice t l c)
  (e:TypeId) (i:TypeInfo) (k:IntKind) (h1:P.underlying t=some (.slice e)) (h2:P.info? e=some i) (h3:i.zero=some (.int k 0)) (h4:i.size=1)
  (kl kc:IntKind) (L C:Int) (n:Nat) (hl:a.eval l=.int kl L) (hc:a.eval c=.int kc C) (hL:L=(n:Int)) (hC:C=(n:Int)) (b2:i.bytes<=8) (b3:n<=35184372088832)
  (hK:∀ w',Blk w' w.heap.size k e (List.replicate n 0)->Below w.heap.size w w'->w.heap.size<w'.heap.size->wpList P ops Q rest (a.put o.dst (.slice (some ⟨w.heap.size,0,none⟩) n n)) w') :
  wpList P ops Q (o::rest) a w:=by
 have hb:i.bytes*n<=281474976710656:=Nat.le_trans (Nat.mul_le_mul b2 b3) (by omega);refine wpList_make_full w hg l c t hop w.heap.size e i (.int k 0) 1 h1 h2 h3 h4 kl kc L C n hl hc hL hC hb (by unfold maxLen;omega) (Nat.le_refl _) ?_;intro w' ho hgr;have hh:=heap_of_owns ho rfl
 have hB:Blk w' w.heap.size k e (List.replicate n 0):=by
  unfold Blk;rw[hh]
  have:(madeCells (Value.cells (.int k 0)) (n*1)).toList=List.replicate n (.int k 0):=by
   rw[Nat.mul_one];exact toList_madeCells_one _ _
  rw[this]
  simp
 exact hK w' hB ⟨hgr.os,hgr.tape,hgr.output,hgr.size,fun j hj=>hgr.block j hj (by simp)⟩ hB.lt
theorem sl_len {w:World} {k:IntKind} {sp:Option Addr} {n c:Nat} {xs:List Nat} (h:Sl w k (.slice sp n c) xs):n=xs.length:=by
 obtain⟨ao,cap,e,_⟩:=h;injection e
theorem sig_any (ao:Option Addr) (n cap:Nat) (xs:List Nat) (w:World) (h:Sl w .u32 (.slice ao n cap) xs) :
  Calls Tryz.prog 122 #[.slice ao n cap] w fun e w'=>e=.returned (.slice ao (nz xs) cap)/\w=w':=by
 have H:=Lib.hid h;obtain⟨ao',cap',e,h1,h2,h3,h4⟩:=h;injection e with e1 e2 e3;subst e1;subst e2;subst e3;go_enter Tryz.func122,Tryz.ntmps122
 go_wp2
 go_loop [3] (fun n=>∃ k:Nat,k<=xs.length/\n=.int .i64 k/\Hid (nz (xs.take k)=nz xs)) (fun n=>(intOf n).toNat)
 case atStart=>exact⟨xs.length,Nat.le_refl _,rfl,Lib.hid (by rw[List.take_length])⟩
 case round =>
  obtain⟨k,hk,rfl,Hn⟩:=hrel
  by_cases h0:0<k
  ·obtain⟨a,rfl,g⟩:=h4 (k-1) (by omega);clear h4
   go_wp2
   ·have hz:(nth xs (k - 1)==0)=true:=by assumption
    go_round
    case rel=>exact⟨k - 1,by omega,by go_num,Lib.hid (by rw[<-Hn.out,<-nz_zero (k:=k - 1) (by omega) (by have:=nth_eq (xs:=xs) (i:=k - 1) (by omega);simp at hz;unfold nth at hz;omega),show k - 1+1=k by omega])⟩
    case measure=>simp[intOf];omega
   have hz:(nth xs (k - 1)==0)=false:=by assumption
   have hk':k=nz xs:=by
    rw[<-Hn.out,show k=(k - 1)+1 by omega,nz_pos (by omega) (by simp at hz;unfold nth at hz;omega)]
   subst hk';go_ret
   exact⟨rfl,rfl⟩
  have hk':k=nz xs:=by
   rw[<-Hn.out,show k=0 by omega];rfl
  have HK:=Lib.hid hk';clear hk';have hk0:k=0:=by omega
  subst hk0
  go_wp2
  go_ret
  exact⟨by rw[<-HK.out];rfl,rfl⟩
def trimmedOf (ao:Option Addr) (cap:Nat) (xs:List Nat):Value:=if nz xs=0 then .slice none 0 0 else .slice ao (nz xs) cap
theorem trimmed_any (ao:Option Addr) (n cap:Nat) (xs:List Nat) (w:World) (h:Sl w .u32 (.slice ao n cap) xs) :
  Calls Tryz.prog 129 #[.slice ao n cap] w fun e w'=>e=.returned (trimmedOf ao cap xs)/\w=w':=by
 by_cases h0:nz xs=0
 ·have H0:=Lib.hid h0;clear h0;have hz:(((nz xs:Nat):Int)==0)=true:=by rw[H0.out];rfl
  go_enter Tryz.func129,Tryz.ntmps129
  go_wp2_with (go_at_call 122;refine (sig_any _ _ _ _ _ h).mono ?_;rintro e w' ⟨rfl,rfl⟩)
  go_ret
  exact⟨by unfold trimmedOf;rw[if_pos H0.out];rfl,rfl⟩
 have hz:(((nz xs:Nat):Int)==0)=false:=by simp;omega
 go_enter Tryz.func129,Tryz.ntmps129
 go_wp2_with (go_at_call 122;refine (sig_any _ _ _ _ _ h).mono ?_;rintro e w' ⟨rfl,rfl⟩)
 go_ret
 exact⟨by unfold trimmedOf;rw[if_neg h0];rfl,rfl⟩
theorem info51:(Tryz.prog.info? 180).map (fun i=>(i.zero,i.size,i.bytes))=some (some (.int .u32 0),1,4):=by kernel_rfl
abbrev L32:Nat:=4294967296
theorem below_drewN' (w:World) (n:Nat) (B:Nat):Below B w (w.drewN n):=⟨rfl,rfl,rfl,Nat.le_refl _,fun _ _=>rfl⟩
theorem trimmed_sl {w:World} {ao:Option Addr} {n cap:Nat} {xs:List Nat} (h:Sl w .u32 (.slice ao n cap) xs) (hd:Dig L32 xs):Sl w .u32 (trimmedOf ao cap xs) (dig L32 (val L32 xs)):=by
 rw[<-take_nz (by decide) hd];unfold trimmedOf
 by_cases h0:nz xs=0
 ·rw[if_pos h0,h0];exact Sl.nil _ _
 rw[if_neg h0];exact h.take _ (nz_le xs)
theorem below_of_grown' {B:Nat} {a b:World} {g:Nat} (h:a.grownBy b (some g)) (hg:B<=g) (hB:B<=a.heap.size:=by omega):Below B a b:=
 ⟨h.os,h.tape,h.output,h.size,fun k hk=>h.block k (by omega) (fun e=>by injection e with e;omega)⟩
theorem sl_shape {w:World} {k:IntKind} {v:Value} {xs:List Nat} (h:Sl w k v xs):∃ ao cap,v=.slice ao xs.length cap:=by
 obtain⟨ao,cap,e,_⟩:=h;exact⟨ao,cap,e⟩
theorem getD_out {xs:List Nat} {i:Nat} (h:xs.length<=i):xs.getD i 0=0:=by simp[List.getD,h]
theorem val_take_succ' (B:Nat) (xs:List Nat) (k:Nat):val B (xs.take (k+1))=val B (xs.take k)+xs.getD k 0*B ^ k:=by
 by_cases h:k<xs.length
 ·exact val_take_succ B xs k h
 rw[getD_out (by omega),List.take_of_length_le (by omega),List.take_of_length_le (by omega)];simp
theorem dig_last {B n:Nat} (hB:2<=B) (h:0<(dig B n).length):(dig B n).getD ((dig B n).length - 1) 0≠0:=by
 intro h0;have h1:=take_nz hB (Dig_dig hB n);rw[val_dig hB] at h1;have h2:=congrArg List.length h1;rw[List.length_take] at h2;have h3:=nz_zero (xs:=dig B n) (k:=(dig B n).length - 1) (by omega) h0;rw[show (dig B n).length - 1+1=(dig B n).length by omega,List.take_length] at h3;have h4:=nz_le ((dig B n).take ((dig B n).length - 1));rw[List.length_take] at h4
 omega
end Go.Proofs.YtpclhpfcbjgokaaGreatDoor
namespace Go.Proofs
open Go.Shelf
def Tryz.lays128_ren:Go.Shelf.Ren:=⟨fun | 128=>123 | n=>n,fun | 51=>180 | 3=>3 | 4=>4 | 46=>209 | 5=>5 | 9=>9 | n=>n,fun | n=>n⟩
theorem Tryz.lays128:Go.Proofs.Lays.n128 Tryz.prog Tryz.lays128_ren:={
 mixed:=by kernel_rfl
 f128:=Tryz.func123.trans (congrArg some (by kernel_rfl))
 t3:=Tryz.underlying3
 a3:=Tryz.isAgg3
 z3:=Tryz.sizeOf3
 v3:=Tryz.zeroValue3
 t4:=Tryz.underlying4
 a4:=Tryz.isAgg4
 z4:=Tryz.sizeOf4
 v4:=Tryz.zeroValue4
 t5:=Tryz.underlying5
 a5:=Tryz.isAgg5
 z5:=Tryz.sizeOf5
 v5:=Tryz.zeroValue5
 t9:=Tryz.underlying9
 a9:=Tryz.isAgg9
 z9:=Tryz.sizeOf9
 v9:=Tryz.zeroValue9
 t46:=Tryz.underlying209
 a46:=Tryz.isAgg209
 z46:=Tryz.sizeOf209
 v46:=Tryz.zeroValue209
 t51:=Tryz.underlying180
 a51:=Tryz.isAgg180
 z51:=Tryz.sizeOf180
 v51:=Tryz.zeroValue180 }
theorem Tryz.bits_Len32 (x:Int) (w:World) (h0:0<=x) (h1:x<=4294967295) :
  Calls Tryz.prog 123 #[.int .u32 x] w fun e w'=>e=.returned (.int .i64 (Lib.bitLen x.toNat))/\w'=w:=Any.bits_Len32 Tryz.lays128 x w h0 h1
def Tryz.lays137_ren:Go.Shelf.Ren:=⟨fun | 137=>106 | 217=>116 | 266=>124 | n=>n,fun | 9=>9 | 5=>5 | 3=>3 | n=>n,fun | n=>n⟩
theorem Tryz.lays137:Go.Proofs.Lays.n137 Tryz.prog Tryz.lays137_ren:={
 mixed:=by kernel_rfl
 f137:=Tryz.func106.trans (congrArg some (by kernel_rfl))
 f217:=Tryz.func116.trans (congrArg some (by kernel_rfl))
 f266:=Tryz.func124.trans (congrArg some (by kernel_rfl))
 t3:=Tryz.underlying3
 a3:=Tryz.isAgg3
 z3:=Tryz.sizeOf3
 v3:=Tryz.zeroValue3
 t5:=Tryz.underlying5
 a5:=Tryz.isAgg5
 z5:=Tryz.sizeOf5
 v5:=Tryz.zeroValue5
 t9:=Tryz.underlying9
 a9:=Tryz.isAgg9
 z9:=Tryz.sizeOf9
 v9:=Tryz.zeroValue9 }
open Go.RowKit in
theorem Tryz.strings_IndexByte (s:ByteArray) (c:Int) (w:World) :
  Calls Tryz.prog 106 #[.string s,.int .u8 c] w fun e w'=>e=.returned (.int .i64 (Lib.indexByte s.data.toList c.toNat.toUInt8))/\w'=w:=Any.strings_IndexByte Tryz.lays137 s c w
def Tryz.laysM316_ren:Go.Shelf.Ren:=⟨fun | 316=>101 | n=>n,fun | 9=>9 | 3=>3 | 4=>4 | 37=>194 | 0=>0 | 127=>195 | 5=>5 | n=>n,fun | n=>n⟩
theorem Tryz.laysM316:Go.Proofs.LaysM.n316 Tryz.prog Tryz.laysM316_ren:={
 mixed:=by kernel_rfl
 f316:=Tryz.func101.trans (congrArg some (by kernel_rfl))
 t0:=Tryz.underlying0
 a0:=Tryz.isAgg0
 z0:=Tryz.sizeOf0
 v0:=Tryz.zeroValue0
 t3:=Tryz.underlying3
 a3:=Tryz.isAgg3
 z3:=Tryz.sizeOf3
 v3:=Tryz.zeroValue3
 t4:=Tryz.underlying4
 a4:=Tryz.isAgg4
 z4:=Tryz.sizeOf4
 v4:=Tryz.zeroValue4
 t9:=Tryz.underlying9
 a9:=Tryz.isAgg9
 z9:=Tryz.sizeOf9
 v9:=Tryz.zeroValue9
 t37:=Tryz.underlying194
 a37:=Tryz.isAgg194
 z37:=Tryz.sizeOf194
 v37:=Tryz.zeroValue194
 t127:=Tryz.underlying195
 a127:=Tryz.isAgg195
 z127:=Tryz.sizeOf195
 v127:=Tryz.zeroValue195
 t5:=Tryz.underlying5
 a5:=Tryz.isAgg5
 z5:=Tryz.sizeOf5
 v5:=Tryz.zeroValue5
 i0:=by kernel_rfl
 i3:=by kernel_rfl
 i4:=by kernel_rfl
 i5:=by kernel_rfl
 i9:=by kernel_rfl
 i37:=by kernel_rfl
 i127:=by kernel_rfl }
open Go.RowKit in
theorem Tryz.stringslite_Clone (s:ByteArray) (w:World) (hlim:s.size<=281474976710656) :
  Calls Tryz.prog 101 #[.string s] w fun e w'=>e=.returned (.string s)/\Below w.heap.size w w':=Any.stringslite_Clone Tryz.laysM316 s w hlim
def Tryz.lays206_ren:Go.Shelf.Ren:=⟨fun | 206=>117 | n=>n,fun | 9=>9 | 4=>4 | 3=>3 | n=>n,fun | n=>n⟩
def Tryz.lays99_ren:Go.Shelf.Ren:=⟨fun | 99=>111 | 206=>117 | n=>n,fun | 9=>9 | 4=>4 | 3=>3 | n=>n,fun | n=>n⟩
theorem Tryz.lays99:Go.Proofs.Lays.n99 Tryz.prog Tryz.lays99_ren:={
 mixed:=by kernel_rfl
 f99:=Tryz.func111.trans (congrArg some (by kernel_rfl))
 f206:=Tryz.func117.trans (congrArg some (by kernel_rfl))
 t3:=Tryz.underlying3
 a3:=Tryz.isAgg3
 z3:=Tryz.sizeOf3
 v3:=Tryz.zeroValue3
 t4:=Tryz.underlying4
 a4:=Tryz.isAgg4
 z4:=Tryz.sizeOf4
 v4:=Tryz.zeroValue4
 t9:=Tryz.underlying9
 a9:=Tryz.isAgg9
 z9:=Tryz.sizeOf9
 v9:=Tryz.zeroValue9 }
open Go.RowKit Go.Lib in
theorem Tryz.strings_HasPrefix (s p:ByteArray) (w:World) :
  Calls Tryz.prog 111 #[.string s,.string p] w fun e w'=>e=.returned (.bool (Lib.hasPrefix s.data.toList p.data.toList))/\w'=w:=Any.strings_HasPrefix Tryz.lays99 s p w
end Go.Proofs
namespace Go.Proofs.YtpclhpfcbjgokaaGreatDoor
open Go.RowKit
set_option maxRecDepth 100000
theorem mul_bound {x y:Nat} (hx:x<4294967296) (hy:y<4294967296):x*y<=18446744065119617025:=
 Nat.le_trans (Nat.mul_le_mul (show x<=4294967295 by omega) (show y<=4294967295 by omega)) (by decide)
theorem ws_part {w:World} {T:TypeId} {g i n:Nat} {P:List Nat} (hB:Blk w g .u32 T P) (hi:i<P.length) (hn:n=P.length - i) (hm:P.length<=9223372036854775807) :
  Ws w .u32 T (.slice (some ⟨g,i,none⟩) n n) g (P.take i) (P.drop i) []:=by
 have e1:(P.drop i).length=n:=by simp;omega
 have e2:(P.take i).length=i:=by simp;omega
 refine⟨some ⟨g,i,none⟩,n,by rw[e1],by rw[e1];omega,by omega,(fun e=>by cases e),fun _=>⟨by rw[e2],?_⟩⟩;rw[List.take_append_drop,List.append_nil];exact hB
theorem ws_whole {w:World} {T:TypeId} {v:Value} {g:Nat} {pre s post:List Nat} (h:Ws w .u32 T v g pre s post) (h0:s.length≠0):Blk w g .u32 T (pre++s++post):=by
 obtain⟨_,_,_,_,_,_,h4⟩:=h;exact (h4 h0).2
def GN (w:World) (v:Value) (n k:Nat):Prop:=∃ xs,Sl w .u32 v xs/\Dig L32 xs/\val L32 xs=n/\xs.length<=k
theorem GN.below {w w':World} {v:Value} {n k:Nat} (h:GN w v n k) (hb:Below w.heap.size w w'):GN w' v n k:=by
 obtain⟨xs,h1,h2,h3,h4⟩:=h;exact⟨xs,h1.below hb,h2,h3,h4⟩
theorem gn_dig {w:World} {v:Value} {n k:Nat} (h:Sl w .u32 v (dig L32 n)) (hn:n<L32 ^ k):GN w v n k:=
 ⟨_,h,Dig_dig (by decide) _,val_dig (by decide) _,length_dig_le (by decide) hn⟩
def bl (n:Nat):Nat:=(dig 2 n).length
theorem bl_zero:bl 0=0:=by unfold bl;rw[dig_zero];rfl
theorem bl_half {n:Nat} (h:0<n):bl n=1+bl (n / 2):=by unfold bl;rw[dig_pos (by decide) h];simp;omega
theorem bitLen_bl (n:Nat) (h:n<2 ^ 64):Lib.bitLen n=bl n:=by
 induction n using Nat.strongRecOn with
 | ind n ih =>
  by_cases h0:n=0
  ·subst h0;rw[bl_zero];decide
  rw[Lib.bitLen_half n h0 h,bl_half (by omega),ih (n / 2) (by omega) (by omega)]
theorem bl_top (k:Nat):∀ v t:Nat,v<2 ^ k->0<t->bl (v+t*2 ^ k)=k+bl t:=by
 induction k with
 | zero=>intro v t hv ht;simp at hv;subst hv;simp
 | succ k ih =>
  intro v t hv ht;have hp:0<2 ^ (k+1):=Nat.pow_pos (by decide);have hpos:0<v+t*2 ^ (k+1):=by have:=Nat.mul_pos ht hp;omega
  rw[bl_half hpos];have e:(v+t*2 ^ (k+1)) / 2=v / 2+t*2 ^ k:=by rw[Nat.pow_succ,<-Nat.mul_assoc];omega
  rw[e,ih (v / 2) t (by rw[Nat.pow_succ] at hv;omega) ht]
  omega
theorem bl_le {n k:Nat} (h:n<2 ^ k):bl n<=k:=length_dig_le (by decide) h
theorem bits_nat (va:Value) (xs:List Nat) (w:World) (hx:Sl w .u32 va xs) (dx:Dig L32 xs) (lx:xs.length<=1000000) :
  Calls Tryz.prog 115 #[va] w fun e w'=>e=.returned (.int .i64 ((bl (val L32 xs):Nat):Int))/\w=w':=by
 have HX:=Lib.hid hx;obtain⟨ao,ac,rfl,a1,a2,a3,a4⟩:=hx;have nx:=nz_le xs
 by_cases h0:nz xs=0
 ·have hv:val L32 xs=0:=by rw[<-val_take_nz (B:=L32) (by decide) dx,h0];rfl
  have HV:=Lib.hid hv;have hz:(((nz xs:Nat):Int)==0)=true:=by rw[h0];rfl
  clear h0 hv a4;go_enter Tryz.func115,Tryz.ntmps115
  go_wp2_with fail
  refine (sig_any _ _ _ xs _ HX.out).mono ?_;rintro e w' ⟨rfl,rfl⟩;go_wp2_with fail
  go_ret
  exact⟨by rw[HV.out,bl_zero];rfl,rfl⟩
 have hz:(((nz xs:Nat):Int)==0)=false:=by rw[beq_eq_false_iff_ne];omega
 have hp:1<=nz xs:=by omega
 obtain⟨a,rfl,hca⟩:=a4 (nz xs - 1) (by omega);have t1:=dx.getD (by decide) (nz xs - 1);have t2:=u32_wf dx (nz xs - 1);have hl:bl (xs.getD (nz xs - 1) 0)<=32:=bl_le t1
 have hbl:Lib.bitLen (nth xs (nz xs - 1)).toNat=bl (xs.getD (nz xs - 1) 0):=by
  unfold nth;rw[Int.toNat_natCast];exact bitLen_bl _ (Nat.lt_trans t1 (by decide))
 have htop:0<xs.getD (nz xs - 1) 0:=by
  rcases Nat.eq_zero_or_pos (xs.getD (nz xs - 1) 0) with h | h
  ·have h3:=nz_zero (xs:=xs.take (nz xs)) (k:=nz xs - 1) (by rw[List.length_take];omega) (by simpa [List.getD,show nz xs - 1<nz xs by omega] using h);have h5:(dig L32 (val L32 xs)).length=nz xs:=length_dig_val (by decide) dx;have h6:=take_nz (B:=L32) (by decide) (Dig_dig (B:=L32) (by decide) (val L32 xs));rw[val_dig (by decide)] at h6;have h7:=congrArg List.length h6;rw[List.length_take,h5,dig_val_take (by decide) dx] at h7
   have h8:nz ((xs.take (nz xs)).take (nz xs - 1+1))=nz (xs.take (nz xs)):=by
    rw[show nz xs - 1+1=nz xs by omega,List.take_take,Nat.min_self]
   have h9:=nz_le ((xs.take (nz xs)).take (nz xs - 1));rw[List.length_take,List.length_take] at h9
   omega
  exact h
 have hfin:bl (val L32 xs)=(nz xs - 1)*32+bl (xs.getD (nz xs - 1) 0):=by
  have e:=val_take_nz (B:=L32) (by decide) dx;have e2:=val_take_succ' L32 xs (nz xs - 1);rw[show nz xs - 1+1=nz xs by omega] at e2;have e3:L32 ^ (nz xs - 1)=2 ^ ((nz xs - 1)*32):=by rw[Nat.mul_comm,Nat.pow_mul]
  have e4:=val_lt (dx.take (nz xs - 1));rw[List.length_take,Nat.min_eq_left (by omega),e3] at e4;rw[<-e,e2,e3,bl_top _ _ _ e4 htop]
 generalize bl (xs.getD (nz xs - 1) 0)=b at *;have HF:=Lib.hid hfin;have HB:=Lib.hid hbl;clear h0 a4 hbl hfin;go_enter Tryz.func115,Tryz.ntmps115
 go_wp2_with fail
 refine (sig_any _ _ _ xs _ HX.out).mono ?_;rintro e w' ⟨rfl,rfl⟩;go_wp2_with fail
 refine (Tryz.bits_Len32 _ _ (by omega) (by omega)).mono ?_;rintro e w' ⟨rfl,rfl⟩;rw[HB.out];go_wp2_with fail
 go_ret
 refine⟨?_,rfl⟩;rw[HF.out,show (((nz xs - 1)*32+b:Nat):Int)=(((nz xs:Nat):Int) - 1)*32+(b:Int) by omega]
 rfl
theorem bits_n {va:Value} {n k:Nat} {w:World} (hx:GN w va n k) (hk:k<=1000000) :
  Calls Tryz.prog 115 #[va] w fun e w'=>e=.returned (.int .i64 ((bl n:Nat):Int))/\w=w':=by
 obtain⟨xs,hx,dx,rfl,lx⟩:=hx;exact bits_nat _ _ w hx dx (by omega)
theorem getD_set (P:List Nat) (i v t:Nat):(P.set i v).getD t 0=if t=i/\i<P.length then v else P.getD t 0:=by
 by_cases h:t=i
 ·subst h
  by_cases hl:t<P.length
  ·simp[List.getD,hl]
  simp[List.getD,hl]
 rw[List.getD_eq_getElem?_getD,List.getElem?_set_ne (fun e=>h e.symm),<-List.getD_eq_getElem?_getD,if_neg (by simp[h])]
def Keeps (w w':World):Prop:=∀ a k z,w.cell? a=some (.int k z)->w'.cell? a=some (.int k z)
def noInt (c:Array Value):Bool:=c.toList.all fun v=>match v with | .int ..=>false | _=>true
structure Priv (g:Nat) (w w':World):Prop where
 os:w'.os=w.os
 tape:w'.tape=w.tape
 output:w'.output=w.output
 size:w'.heap.size=w.heap.size
 block:∀ k,k≠g->w'.heap[k]?=w.heap[k]?
 keeps:Keeps w w'
 shape:∀ c T,w.heap[g]?=some (.cells c T (0,0))->noInt c=true->∃ c',w'.heap[g]?=some (.cells c' T (0,0))/\c'.size=c.size/\noInt c'=true
theorem cell_at {w:World} {g:Nat} {c:Array Value} {T:TypeId} (h:w.heap[g]?=some (.cells c T (0,0))) (i:Nat) {v:Value} (hv:c[i]?=some v):w.cell? ⟨g,i,none⟩=some v:=by
 rw[cell_of_row w g i _ T (0,0) h];exact hv
theorem froz_at {w:World} {g:Nat} {c:Array Value} {T:TypeId} (h:w.heap[g]?=some (.cells c T (0,0))) (i:Nat):w.frozen? ⟨g,i,none⟩=false:=frozen_of_row w g i _ T h
theorem made_at (W:World) (o:Obj) (g:Nat) (h:W.heap.size=g):(W.alloc o).heap[g]?=some o:=by
 subst h
 show (W.heap.push o)[W.heap.size]?=some o
 simp
namespace Rely
abbrev Fact:=(Nat->Value)->Value->World->Prop
def mask (L:List Nat) (x:Nat->Value):Nat->Value:=fun j=>if L.contains j then x j else undef
def upd (x:Nat->Value) (k:Nat) (v:Value):Nat->Value:=fun j=>if j=k then v else x j
def dstOf (ops:List Oper) (j:Nat):Option Tmp:=(ops[j]?).bind (·.dst)
def dep (D:List (List Nat)) (k:Nat):List Nat:=D.getD k []
def ok (ops:List Oper) (D:List (List Nat)) (m size:Nat):Bool:=
 decide (m<=ops.length) && (List.range ops.length).all fun k =>
  match ops[k]? with
  | none=>false
  | some o =>
   (o.after.all fun e=>!Region.binds .any e || decide (e.on<k)) &&
   ((dep D k).all fun j=>(o.after.any fun e=>Region.binds .any e && (e.on==j || (dep D e.on).contains j)) && ((dep D j).all fun i=>(dep D k).contains i) && decide (j<k)) &&
   (decide (k<m) || (List.range m).all fun j=>(dep D k).contains j) &&
   (match o.dst with | none=>true | some d=>decide (d<size) && (List.range k).all fun j=>dstOf ops j != some d)
def okSt (ops:List Oper) (D:List (List Nat)) (al:List Nat) (st:List (Nat × Nat)) (nq:Nat):Bool:=
 (List.range ops.length).all fun k=>match st.lookup k with
  | none=>true
  | some i=>(if i<1000 then (dep D k).contains i && al.contains i else decide (i - 1000<nq)) && (List.range ops.length).all fun j=>j==k || st.lookup j != some i
def pre (ops:List Oper) (D:List (List Nat)) (k t:Nat):Bool:=
 (List.range ops.length).all fun j=>dstOf ops j != some t || j==k || (dep D j).contains k
def fill:List Oper->(Nat->Value)->Nat->Array Value->Array Value
 | [],_,_,t=>t
 | o::l,x,k,t=>fill l x (k+1) (match o.dst with | some d=>t.setIfInBounds d (x k) | none=>t)
def noQ:Exit->Act->World->Prop:=fun _ _ _=>False
def fact (F:List Fact) (j:Nat):Fact:=(F.reverse[j]?).getD fun _ _ _=>True
section
variable (P:Program) (ops:List Oper) (D:List (List Nat)) (al:List Nat) (st:List (Nat × Nat)) (og:Nat->Nat) (nq:Nat) (t0:Array Value) (ds:List Deferred) (w0:World)
def own (k:Nat):Option Nat:=st.lookup k
def tv (x:Nat->Value) (i:Nat):Value:=if i<1000 then x i else .pointer (some ⟨og (i - 1000),0,none⟩)
structure At (F:Nat->Fact) (k:Nat) (T:Array Value) (x:Nat->Value) (w:World):Prop where
 be:∀ B,B<=w0.heap.size->(∀ q,q<nq->B<=og q)->Below B w0 w
 bl:∀ b,b<w0.heap.size->(∀ q,q<nq->og q≠b)->w.heap[b]?=w0.heap[b]?
 kp:Keeps w0 w
 od:∀ q,q<nq->(∀ k',own st k'=some (1000+q)->k'=k\/(dep D k').contains k=true)->w.heap[og q]?=w0.heap[og q]?
 tm:∀ j d,(dep D k).contains j=true->dstOf ops j=some d->T[d]?=some (x j)
 fa:∀ j,(dep D k).contains j=true->F j (mask (dep D j) x) (x j) w
 pre:∀ t,Rely.pre ops D k t=true->T[t]?=t0[t]?
structure Next (V:Fact) (k:Nat) (x:Nat->Value) (w:World) (v:Value) (w':World):Prop where
 is:V x v w'
 bw:own st k=none->Below w.heap.size w w'
 pv:∀ i,own st k=some i->∃ g,tv og x i=.pointer (some ⟨g,0,none⟩)/\Priv g w w'
 al:al.contains k=true->∃ g,v=.pointer (some ⟨g,0,none⟩)/\w.heap.size<=g/\g<w'.heap.size
def Runs (F:Nat->Fact) (k:Nat) (o:Oper) (V:Fact):Prop:=
 ∀ (T:Array Value) (x:Nat->Value) (w:World),At ops D st og nq t0 w0 F k T x w ->
  ∀ K:Act->World->Prop,Hid (∀ v w',Next al st og V k x w v w'->K ((⟨T,ds⟩:Act).put o.dst v) w') ->
   if Region.wanted o (yielded ops.toArray T)=true then o.wp P ⟨T,ds⟩ w K noQ else K ((⟨T,ds⟩:Act).put o.dst undef) w
def Stays (k:Nat) (V:Fact):Prop:=(∀ x v w w',V x v w->Below w.heap.size w w'->V x v w')/\(st ≠ []->∀ x v w w' g,V x v w->(∀ i,own st k=some i->tv og x i ≠ .pointer (some ⟨g,0,none⟩))->Priv g w w'->V x v w')
def Left (F:Nat->Fact) (m:Nat) (x:Nat->Value) (w:World):Prop:=
 ((∀ B,B<=w0.heap.size->(∀ q,q<nq->B<=og q)->Below B w0 w)/\(∀ b,b<w0.heap.size->(∀ q,q<nq->og q≠b)->w.heap[b]?=w0.heap[b]?)/\Keeps w0 w)/\(∀ j,j<m->F j (mask (dep D j) x) (x j) w) /\
 (∀ i,al.contains i=true->i<m->∃ g,x i=.pointer (some ⟨g,0,none⟩)/\w0.heap.size<=g/\g<w.heap.size) /\
 (∀ i j,al.contains i=true->al.contains j=true->i<m->j<m->i≠j->x i≠x j)
def Chain (m:Nat) (G:(Nat->Value)->World->Prop):List Oper->Nat->List Fact->Prop
 | [],k,F=>k=m/\∀ x w,Left D al og nq w0 (fact F) m x w->G x w
 | o::rest,k,F=>(k=m/\∀ x w,Left D al og nq w0 (fact F) m x w->G x w) \/
  ∃ V,Stays st og k V/\Runs P ops D al st og nq t0 ds w0 (fact F) k o V/\Chain m G rest (k+1) (V::F)
variable {P ops D al st og nq t0 ds w0}
def plain (al:List Nat) (st:List (Nat × Nat)) (k:Nat):Bool:=!al.contains k && (own st k).isNone
theorem wanted_at {o:Oper} {T:Array Value} {g d:Nat} {want b:Bool} (hg:o.guard=some (g,want)) (hd:dstOf ops g=some d) (hT:T[d]?=some (.bool b)):Region.wanted o (yielded ops.toArray T)=(b==want):=by
 have hy:yielded ops.toArray T g=some b:=by
  have hd':(ops.toArray[g]?).bind (·.dst)=some d:=by simpa [dstOf] using hd
  unfold yielded;rw[hd'];simp only[Option.bind_some,hT]
 unfold Region.wanted;rw[hg];simp only[hy]
 cases b<;>cases want<;>rfl
structure Inv (H:Nat->Fact) (m:Nat) (listed:Array Bool) (a:Act) (w:World) (x:Nat->Value):Prop where
 tm:∀ j d,listed.getD j false=true->dstOf ops j=some d->a.tmps[d]?=some (x j)
 pre:∀ t,(∀ j,listed.getD j false=true->dstOf ops j≠some t)->a.tmps[t]?=t0[t]?
 sz:a.tmps.size=t0.size
 df:a.defers=ds
 be:∀ B,B<=w0.heap.size->(∀ q,q<nq->B<=og q)->Below B w0 w
 bl:∀ b,b<w0.heap.size->(∀ q,q<nq->og q≠b)->w.heap[b]?=w0.heap[b]?
 kp:Keeps w0 w
 od:∀ q,q<nq->(∀ k',listed.getD k' false=true->own st k'≠some (1000+q))->w.heap[og q]?=w0.heap[og q]?
 sw:w0.heap.size<=w.heap.size
 ls:listed.size=ops.length
 dn:∀ j,listed.getD j false=true->∀ i,(dep D j).contains i=true->listed.getD i false=true
 lt:∀ j,listed.getD j false=true->j<m
 fa:∀ j,listed.getD j false=true->H j (mask (dep D j) x) (x j) w
 pt:∀ i,al.contains i=true->listed.getD i false=true->∃ g,x i=.pointer (some ⟨g,0,none⟩)/\w0.heap.size<=g/\g<w.heap.size
 ne:∀ i j,al.contains i=true->al.contains j=true->listed.getD i false=true->listed.getD j false=true->i≠j->x i≠x j
section
variable {m size:Nat} (hok:ok ops D m size=true)
include hok
end
section
variable {m:Nat} {Q:Exit->Act->World->Prop} {H:Nat->Fact}
def Rest (P:Program) (ops:List Oper) (Q:Exit->Act->World->Prop) (t0:Array Value) (ds:List Deferred) (m:Nat) (x:Nat->Value) (w:World):Prop:=
 wpAny P .any ops.toArray Q (ops.length - m) (List.replicate m true++List.replicate (ops.length - m) false).toArray ⟨fill (ops.take m) x 0 t0,ds⟩ w
end
end
end Rely
open Classical in
theorem bl_pos {n:Nat} (h:0<n):0<bl n:=by rw[bl_half h];omega
theorem snoc_ind {α:Type} {P:List α->Prop} (h0:P []) (h1:∀ l c,P l->P (l++[c])):∀ l,P l:=by
 intro l;rw[<-List.reverse_reverse l]
 induction l.reverse with
 | nil=>exact h0
 | cons c r ih=>rw[List.reverse_cons];exact h1 _ _ ih
def dn (l:List UInt8):Nat:=l.foldl (fun n c=>10*n+(c.toNat - 48)) 0
def AllD (l:List UInt8):Prop:=∀ c ∈ l,48<=c.toNat/\c.toNat<=57
theorem dn_snoc (l:List UInt8) (c:UInt8):dn (l++[c])=10*dn l+(c.toNat - 48):=by
 unfold dn;rw[List.foldl_append];rfl
theorem AllD.left {l m:List UInt8} (h:AllD (l++m)):AllD l:=fun c hc=>h c (List.mem_append_left _ hc)
theorem AllD.right {l m:List UInt8} (h:AllD (l++m)):AllD m:=fun c hc=>h c (List.mem_append_right _ hc)
theorem AllD.take {l:List UInt8} (h:AllD l) (n:Nat):AllD (l.take n):=fun c hc=>h c (List.mem_of_mem_take hc)
theorem dn_append (l:List UInt8):∀ m:List UInt8,dn (l++m)=dn l*10 ^ m.length+dn m:=by
 refine snoc_ind (by simp[dn]) fun m c ih=>?_
 rw[<-List.append_assoc,dn_snoc,dn_snoc,ih,lsa,List.length_singleton,Nat.pow_succ];generalize 10 ^ m.length=p;have:dn l*(p*10)=10*(dn l*p):=by grind
 omega
theorem dn_lt:∀ {l:List UInt8} (_:AllD l),dn l<10 ^ l.length:=by
 intro l;refine snoc_ind (P:=fun l=>AllD l->dn l<10 ^ l.length) (by simp[dn]) (fun m c ih h=>?_) l;have h1:=ih h.left;have h2:=h c (List.mem_append_right _ (List.mem_singleton.2 rfl));rw[dn_snoc,lsa,List.length_singleton,Nat.pow_succ]
 omega
def Numeral (l:List UInt8):Prop:=l ≠ []/\l.length<=300/\(1<l.length->l.getD 0 48≠48)/\AllD l
end Go.Proofs.YtpclhpfcbjgokaaGreatDoor
namespace Go.Proofs.YtpclhpfcbjgokaaGreatDoor
open Go.RowKit Go.Sort Go.Lib
set_option maxRecDepth 100000
end Go.Proofs.YtpclhpfcbjgokaaGreatDoor
namespace Go.Proofs.YtpclhpfcbjgokaaGreatDoor
open Go.RowKit
set_option maxRecDepth 100000
theorem dn_take_succ (l:List UInt8) (k:Nat) (h:k<l.length):dn (l.take (k+1))=10*dn (l.take k)+(l[k].toNat - 48):=by
 rw[List.take_succ_eq_append_getElem h,dn_snoc]
theorem at_bytes (l:List UInt8) (k:Nat) (h:k<(⟨l.toArray⟩:ByteArray).size):(⟨l.toArray⟩:ByteArray)[k]=l[k]'h:=rfl
theorem number_any (l:List UInt8) (w:World) (hd:AllD l) (hl:l.length<=9) :
  Calls Tryz.prog 128 #[.string ⟨l.toArray⟩] w fun e w'=>e=.returned (.int .u32 ((dn l:Nat):Int))/\w'=w:=by
 have hsz:(⟨l.toArray⟩:ByteArray).size=l.length:=rfl;go_enter Tryz.func128,Tryz.ntmps128
 go_wp2
 go_loopw [3,7] (fun c i wr=>∃ k:Nat,i=.int .i64 k/\c=.int .u32 ((dn (l.take k):Nat):Int)/\k<=l.length/\wr=w) (fun _ i _=>l.length - (intOf i).toNat)
 case atStart=>exact⟨0,rfl,rfl,Nat.zero_le _,rfl⟩
 case round =>
  obtain⟨k,rfl,rfl,hk,rfl⟩:=hrel
  by_cases hlt:k<l.length
  ·have h1:=hd l[k] (List.getElem_mem hlt);have h2:=dn_lt (hd.take k);have h3:10 ^ (l.take k).length<=10 ^ 8:=Nat.pow_le_pow_right (by decide) (by rw[List.length_take];omega);have HS:=Lib.hid (dn_take_succ l k hlt);have H1:=Lib.hid h1;have hm:dn (l.take k)<100000000:=by have h4:10 ^ 8=100000000:=rfl;omega
   clear h1 h2 h3
   go_wp2
   go_roundw
   case rel =>
    refine⟨k+1,by go_num,?_,by omega,by trivial⟩;have h1:=H1.out;rw[at_bytes,HS.out]
    congr 1
    omega
   case measure=>simp[intOf];omega
  have hk0:k=l.length:=by omega
  subst hk0;have HT:=Lib.hid (List.take_length (l:=l))
  go_wp2
  go_ret
  exact⟨by rw[<-HT.out];simp,rfl⟩
theorem mulAdd_step {B:Nat} {t s:List Nat} {m n k c z:Nat} (ht:k<t.length) (hv:val B (t.take k)+c*B ^ k=m*val B (s.take k)+n) (hz:z=c+m*s.getD k 0) :
  val B ((t.set k (z % B)).take (k+1))+z / B*B ^ (k+1)=m*val B (s.take (k+1))+n:=by
 have e1:(t.set k (z % B)).take k=t.take k:=List.take_set_of_le (by omega);have e2:(t.set k (z % B)).getD k 0=z % B:=by simp[List.getD,ht]
 rw[val_take_succ' B (t.set k (z % B)) k,val_take_succ' B s k,e1,e2,Nat.pow_succ];have h2:=Nat.mod_add_div z B;generalize z % B=r at *;generalize z / B=q at *;generalize B ^ k=P at *;have h3:(r+B*q)*P=(c+m*s.getD k 0)*P:=by rw[h2,hz]
 grind
theorem mulAdd_any (g:Nat) (pre s post:List Nat) (vs:Value) (m n:Nat) (w:World) (hw:Ws w .u32 180 vs g pre s post) (hs:Dig L32 s) (hm:m<4294967296) (hn:n<4294967296) (hlt:m*val L32 s+n<L32 ^ s.length) :
  Calls Tryz.prog 127 #[vs,.int .u32 m,.int .u32 n] w fun e w'=>∃ s',e=.returned (.tuple #[])/\Ws w' .u32 180 vs g pre s' post/\w.grownBy w' (some g)/\s'.length=s.length/\Dig L32 s' /\
   val L32 s'=m*val L32 s+n:=by
 have HLT:=Lib.hid hlt;clear hlt;obtain⟨ao,cap,rfl,h1,h2,h3,h4⟩:=hw;go_enter Tryz.func127,Tryz.ntmps127
 go_wp2
 go_loopw [6,13] (fun c i wr=>∃ (k:Nat) (t:List Nat) (cc:Nat),i=.int .i64 k/\c=.int .u64 (cc:Int)/\cc<4294967296/\k<=s.length/\w.grownBy wr (some g)/\Hid (t.length=s.length)/\Dig 4294967296 t /\
   WsAt wr .u32 180 ao g pre t post s.length/\Hid (t.drop k=s.drop k)/\Hid (val L32 (t.take k)+cc*L32 ^ k=m*val L32 (s.take k)+n))
  (fun _ i _=>s.length - (intOf i).toNat)
 case atStart=>exact⟨0,s,n,rfl,rfl,hn,by omega,World.grownBy.refl _ _,Lib.hid rfl,hs,h4,Lib.hid rfl,Lib.hid (by simp[val])⟩
 case round =>
  obtain⟨k,t,cc,rfl,rfl,hcc,hk,hg,Ht,hdt,hB,HD,HV⟩:=hrel
  by_cases hlt:k<s.length
  ·obtain⟨rfl,hB'⟩:=hB (by omega);have hkt:k<t.length:=by have:=Ht.out;omega
   have hsk:t.getD k 0=s.getD k 0:=by
    have:=congrArg (fun l=>l.getD 0 0) HD.out
    simpa [List.getD,List.getElem?_drop] using this
   have hct:wr.cell? ⟨g,pre.length+k,none⟩=some (.int .u32 (nth s k)):=by
    rw[hB'.cell (by simp;omega),nth_mid _ _ _ _ hkt];unfold nth;rw[hsk]
   have hft:=hB'.frozen (pre.length+k);have t1:=u32_wf hs k;have t0:=hs.getD (by decide) k
   have hmm:0<=(m:Int)*nth s k/\(m:Int)*nth s k<=18446744065119617025:=by
    have:=mul_bound hm t0;have e:(m:Int)*nth s k=((m*s.getD k 0:Nat):Int):=by unfold nth;simp
    rw[e];omega
   have HE:=Lib.hid (show (cc:Int)+(m:Int)*nth s k=((cc+m*s.getD k 0:Nat):Int) by unfold nth;simp);have HZ:=Lib.hid (show cc+m*s.getD k 0<18446744073709551616 by have:=mul_bound hm t0;omega);have HS:=Lib.hid (mulAdd_step (B:=L32) hkt HV.out rfl);clear hB h4 t0 hsk
   go_wp2
   go_roundw
   case rel =>
    have hE:=HE.out;have hz:=HZ.out;refine⟨k+1,t.set k ((cc+m*s.getD k 0) % L32),(cc+m*s.getD k 0) / L32,by go_num,?_,?_,by omega,grown_setCell hg _,Lib.hid (by rw[List.length_set];exact Ht.out),hdt.set (Nat.mod_lt _ (by decide)),fun _=>⟨rfl,?_⟩,Lib.hid ?_,HS⟩
    ·rw[hE];congr 1
    ·exact Nat.div_lt_of_lt_mul (by omega)
    ·rw[<-set_mid _ _ _ _ _ hkt];exact hB'.set _ _ _ (by rw[hE];rfl)
    rw[List.drop_set_of_lt (by omega)];have:=congrArg (List.drop 1) HD.out
    rwa [List.drop_drop,List.drop_drop] at this
   case measure=>simp[intOf];omega
  have hkk:k=s.length:=by omega
  subst hkk;have hv:=HV.out;rw[List.take_length,List.take_of_length_le (by have:=Ht.out;omega)] at hv
  have hc0:cc=0:=by
   rcases Nat.eq_zero_or_pos cc with h | h
   ·exact h
   have:=Nat.mul_le_mul_right (L32 ^ s.length) h;have:=HLT.out
   omega
  have HF:=Lib.hid (show val L32 t=m*val L32 s+n by rw[hc0] at hv;omega);have hfin:Ws wr .u32 180 (.slice ao s.length cap) g pre t post:=⟨ao,cap,by rw[Ht.out],by rw[Ht.out];exact h1,h2,h3,by rw[Ht.out];exact hB⟩
  clear hv h4 hc0
  go_wp2
  go_end0
  exact⟨t,rfl,hfin,hg,Ht.out,hdt,HF.out⟩
theorem isNum_true (l:List UInt8) (w:World) (h:Numeral l) :
  Calls Tryz.prog 126 #[.string ⟨l.toArray⟩] w fun e w'=>e=.returned (.bool true)/\w'=w:=by
 have hsz:(⟨l.toArray⟩:ByteArray).size=l.length:=rfl;obtain⟨h1,h2,h3,h4⟩:=h;have hp:0<l.length:=List.length_pos_iff.2 h1;have hz:((l.length:Int)==0)=false:=by rw[beq_eq_false_iff_ne];omega
 have hx:l.length<=1\/1<l.length/\((((⟨l.toArray⟩:ByteArray)[0]'hp).toNat:Int)==48)=false:=by
  by_cases hl:l.length<=1
  ·exact .inl hl
  refine .inr ⟨by omega,?_⟩;have:=h3 (by omega);rw[at_bytes,beq_eq_false_iff_ne];intro e;have e2:l[0].toNat=48:=by omega
  exact this (by simp only[List.getD_eq_getElem?_getD,List.getElem?_eq_getElem hp,Option.getD_some];exact UInt8.toNat_inj.1 e2)
 have H4:=Lib.hid h4;clear h1 h3 h4;go_enter Tryz.func126,Tryz.ntmps126
 rcases hx with hx | ⟨hx1,hx2⟩
 all_goals go_wp2
 all_goals go_loopw [24] (fun i wr=>∃ k:Nat,i=.int .i64 k/\k<=l.length/\wr=w) (fun i _=>l.length - (intOf i).toNat)
 case atStart=>exact⟨0,rfl,Nat.zero_le _,rfl⟩
 case atStart=>exact⟨0,rfl,Nat.zero_le _,rfl⟩
 all_goals
  obtain⟨k,rfl,hk,rfl⟩:=hrel
  by_cases hlt:k<l.length
  ·have hk1:48<=((⟨l.toArray⟩:ByteArray)[k]'hlt).toNat/\((⟨l.toArray⟩:ByteArray)[k]'hlt).toNat<=57:=H4.out l[k] (List.getElem_mem hlt)
   go_wp2
   go_roundw
   case rel=>exact⟨k+1,by go_num,by omega,by trivial⟩
   case measure=>simp[intOf];omega
  go_wp2
  go_ret
  exact⟨rfl,rfl⟩
theorem extract_take (l:List UInt8) (k:Nat):(⟨l.toArray⟩:ByteArray).extract 0 k=⟨(l.take k).toArray⟩:=by
 apply ByteArray.ext
 simp
theorem extract_drop (l:List UInt8) (k:Nat):(⟨l.toArray⟩:ByteArray).extract k l.length=⟨(l.drop k).toArray⟩:=by
 apply ByteArray.ext
 simp[List.take_of_length_le]
theorem parse_sum {pre grp:List UInt8} (h:pre=[]\/grp.length=9):1000000000*dn pre+dn grp=dn (pre++grp):=by
 rw[dn_append];rcases h with rfl | h
 ·simp[dn]
 rw[h,show 10 ^ 9=1000000000 from rfl,Nat.mul_comm]
theorem parse_room {l m:List UInt8} (hm:AllD m) (h:m.length<=l.length):dn m<L32 ^ (l.length / 9+1):=by
 have h1:=dn_lt hm;have h2:10 ^ m.length<=10 ^ (9*(l.length / 9+1)):=Nat.pow_le_pow_right (by decide) (by omega);have h3:10 ^ (9*(l.length / 9+1))<=L32 ^ (l.length / 9+1):=by rw[Nat.pow_mul];exact Nat.pow_le_pow_left (by decide) _
 omega
def sizeOfS:Value->Nat
 | .string b=>b.size
 | _=>0
def sg (b:Bool) (n:Nat):Int:=if b then -(n:Int) else (n:Int)
def GI (w:World) (v:Value) (z:Int) (k:Nat):Prop:=∃ b va n,v=.agg #[.bool b,va]/\GN w va n k/\z=sg b n
def CI (w:World) (v:Value) (z:Int) (k:Nat):Prop:=∃ va,v=.agg #[.bool (decide (z<0)),va]/\Sl w .u32 va (dig L32 z.natAbs)/\z.natAbs<L32 ^ k
theorem GI.below {w w':World} {v:Value} {z:Int} {k:Nat} (h:GI w v z k) (hb:Below w.heap.size w w'):GI w' v z k:=by
 obtain⟨b,va,n,rfl,h,rfl⟩:=h;exact⟨b,va,n,rfl,h.below hb,rfl⟩
theorem CI.gi {w:World} {v:Value} {z:Int} {k:Nat} (h:CI w v z k):GI w v z k:=by
 obtain⟨va,rfl,h,h2⟩:=h;refine⟨_,va,_,rfl,gn_dig h h2,?_⟩;unfold sg
 by_cases hz:z<0
 ·rw[if_pos (by simpa using hz)];omega
 rw[if_neg (by simpa using hz)];omega
theorem dig_len_pos {n:Nat}:0<n->0<(dig L32 n).length:=fun h=>by
 rcases Nat.eq_zero_or_pos (dig L32 n).length with h0 | h0
 ·have:=val_dig (B:=L32) (by decide) n;rw[List.eq_nil_of_length_eq_zero h0] at this
  simp[val] at this;omega
 exact h0
theorem GN.shape {w:World} {v:Value} {n k:Nat} (h:GN w v n k):∃ ao l c,v=.slice ao l c/\l<=k:=by
 obtain⟨xs,h,_,_,hk⟩:=h;obtain⟨ao,c,rfl⟩:=sl_shape h;exact⟨ao,_,c,rfl,hk⟩
theorem GI.shape {w:World} {v:Value} {z:Int} {k:Nat} (h:GI w v z k):∃ b ao l c n,v=.agg #[.bool b,.slice ao l c]/\GN w (.slice ao l c) n k/\z=sg b n:=by
 obtain⟨b,va,n,rfl,h,rfl⟩:=h;obtain⟨ao,l,c,rfl,_⟩:=h.shape;exact⟨b,ao,l,c,n,rfl,h,rfl⟩
theorem two_cells {w:World} {g:Nat} {T:TypeId} {a b:Value} (h:w.heap[g]?=some (.cells #[a,b] T (0,0))) :
  w.cell? ⟨g,0,none⟩=some a/\w.cell? ⟨g,1,none⟩=some b/\w.frozen? ⟨g,0,none⟩=false/\w.frozen? ⟨g,1,none⟩=false:=
 ⟨by rw[cell_of_row w g 0 _ T (0,0) h];rfl,by rw[cell_of_row w g 1 _ T (0,0) h];rfl,frozen_of_row w g 0 _ T h,frozen_of_row w g 1 _ T h⟩
theorem Sl.set {w:World} {k:IntKind} {v:Value} {xs:List Nat} (h:Sl w k v xs) {p:Addr} {u:Value} (hc:w.cell? p=some u) (hu:∀ k z,u ≠ .int k z) (x:Value):Sl (w.setCell p x) k v xs:=by
 obtain⟨ao,cap,rfl,h1,h2,h3,h4⟩:=h;refine⟨ao,cap,rfl,h1,h2,h3,fun i hi=>?_⟩;obtain⟨a,ha,hq⟩:=h4 i hi;refine⟨a,ha,?_⟩;rw[World.cell?_setCell_other w p (a.add i) x (fun e=>by rw[<-e,hc] at hq;injection hq with hq;exact hu _ _ hq)];exact hq
theorem Sl.set2 {w:World} {k:IntKind} {v:Value} {xs:List Nat} (h:Sl w k v xs) {g:Nat} {T:TypeId} {b0:Bool} {a0:Option Addr} {n0 c0:Nat} (hB:w.heap[g]?=some (.cells #[.bool b0,.slice a0 n0 c0] T (0,0))) (x y:Value) :
  Sl ((w.setCell ⟨g,0,none⟩ x).setCell ⟨g,1,none⟩ y) k v xs:=by
 obtain⟨q0,q1,_,_⟩:=two_cells hB;refine (h.set q0 (by intro k z e;cases e) x).set (u:=.slice a0 n0 c0) ?_ (by intro k z e;cases e) y;rw[World.cell?_setCell_other w _ _ x (by intro e;injection e with _ e;omega)];exact q1
theorem GN.alloc {w:World} {v:Value} {n k:Nat} (h:GN w v n k) (o:Obj):GN (w.alloc o) v n k:=h.below ((Below.refl _ _).alloc (Nat.le_refl _) _)
theorem undrew {B:Nat} {w w1:World} (h:Below B w.drew w1):Below B w w1:=⟨h.os,h.tape,h.output,h.size,h.block⟩
theorem below_setg {B g:Nat} {w w':World} (h:Below B w w') (hB:B<=g) (x y:Value):Below B w ((w'.setCell ⟨g,0,none⟩ x).setCell ⟨g,1,none⟩ y):=
 (h.setCell (by simpa using hB) _).setCell (by simpa using hB) _
theorem bl_eq0 {n:Nat}:bl n=0 ↔ n=0:=⟨fun h=>by rcases Nat.eq_zero_or_pos n with h0 | h0;exact h0;exact absurd h (by have:=bl_pos h0;omega),fun h=>by rw[h,bl_zero]⟩
def sgnZ (z:Int):Int:=if z=0 then 0 else if z<0 then -1 else 1
theorem wsign_any (va:Value) (z:Int) (k:Nat) (w:World) (hx:GI w va z k) (hk:k<=1000000) :
  Calls Tryz.prog 105 #[va] w fun e w'=>e=.returned (.int .i64 (sgnZ z))/\Below w.heap.size w w':=by
 obtain⟨b,ao,l,c,n,rfl,hg,rfl⟩:=hx.shape
 by_cases h0:n=0
 ·subst h0;have HB:=Lib.hid (show sgnZ (sg b 0)=0 by cases b<;>simp[sgnZ,sg]);have hz:(((bl 0:Nat):Int)==0)=true:=by rw[bl_zero];rfl
  go_enter Tryz.func105,Tryz.ntmps105
  go_wp2_with fail
  refine (bits_n (hg.alloc _) hk).mono ?_;rintro e w3 ⟨rfl,rfl⟩;go_wp2_with fail
  go_ret
  exact⟨by rw[HB.out];rfl,(Below.refl _ _).alloc (Nat.le_refl _) _⟩
 have hz:(((bl n:Nat):Int)==0)=false:=by rw[beq_eq_false_iff_ne];have:=mt bl_eq0.1 h0;omega
 have hp:0<n:=by omega
 cases b
 ·have HB:=Lib.hid (show sgnZ (sg false n)=1 by unfold sgnZ sg;simp only[Bool.false_eq_true,if_false];rw[if_neg (by omega),if_neg (by omega)]);go_enter Tryz.func105,Tryz.ntmps105
  go_wp2_with fail
  refine (bits_n (hg.alloc _) hk).mono ?_;rintro e w3 ⟨rfl,rfl⟩;go_wp2_with fail
  go_ret
  exact⟨by rw[HB.out];rfl,(Below.refl _ _).alloc (Nat.le_refl _) _⟩
 have HB:=Lib.hid (show sgnZ (sg true n) = -1 by unfold sgnZ sg;simp only[if_true];rw[if_neg (by omega),if_pos (by omega)]);go_enter Tryz.func105,Tryz.ntmps105
 go_wp2_with fail
 refine (bits_n (hg.alloc _) hk).mono ?_;rintro e w3 ⟨rfl,rfl⟩;go_wp2_with fail
 go_ret
 exact⟨by rw[HB.out];rfl,(Below.refl _ _).alloc (Nat.le_refl _) _⟩
theorem lt_pow_more {m k k':Nat} (h:m<L32 ^ k) (hk:k<=k'):m<L32 ^ k':=Nat.lt_of_lt_of_le h (Nat.pow_le_pow_right (by decide) hk)
def zText (z:Int):List UInt8:=if z<0 then 45::Lib.decDigits z.natAbs else Lib.decDigits z.natAbs
theorem take_one (c:UInt8) (m:List UInt8):((⟨(c::m).toArray⟩:ByteArray).extract 0 1).toList=[c]:=by
 rw[extract_take,ByteArray.toList_mk];rfl
theorem prefix_no (l:List UInt8) (w:World) (hm:l.length<=1000000000) (h:l.head? ≠ some 45) :
  Calls Tryz.prog 117 #[.string ⟨l.toArray⟩,.string ⟨#[45]⟩] w fun e w'=>e=.returned (.bool false)/\w=w':=by
 cases l with
 | nil =>
  clear h;go_enter Tryz.func117,Tryz.ntmps117
  go_wp2
  go_ret
  exact⟨rfl,rfl⟩
 | cons c m =>
  have HC:=Lib.hid (show (([c]:List UInt8)==[45])=false by
   rw[beq_eq_false_iff_ne];intro e;exact h (by injection e with e;rw[e];rfl))
  clear h;go_enter Tryz.func117,Tryz.ntmps117
  go_wp2
  go_ret
  refine⟨?_,rfl⟩
  show Ending.returned (.bool (((⟨(c::m).toArray⟩:ByteArray).extract 0 1).toList==[45]))=_
  rw[take_one,HC.out]
theorem cut_no (l:List UInt8) (w:World) (hm:l.length<=1000000000) (h:l.head? ≠ some 45) :
  Calls Tryz.prog 118 #[.string ⟨l.toArray⟩,.string ⟨#[45]⟩] w fun e w'=>e=.returned (.tuple #[.string ⟨l.toArray⟩,.bool false])/\w=w':=by
 have HP:=Lib.hid (fun w=>prefix_no l w hm h);clear h
 have H:∀ w,Calls Tryz.prog 125 #[.string ⟨l.toArray⟩,.string ⟨#[45]⟩] w fun e w'=>e=.returned (.tuple #[.string ⟨l.toArray⟩,.bool false])/\w=w':=by
  intro w;go_enter Tryz.func125,Tryz.ntmps125
  go_wp2_with fail
  refine (HP.out _).mono ?_;rintro e w' ⟨rfl,rfl⟩;go_wp2_with fail
  go_ret2
  exact⟨rfl,rfl⟩
 have H':=Lib.hid H;clear H;go_enter Tryz.func118,Tryz.ntmps118
 go_wp2_with fail
 refine (H'.out _).mono ?_;rintro e w' ⟨rfl,rfl⟩;go_wp2_with fail
 go_ret2
 exact⟨rfl,rfl⟩
def zn (l:List UInt8):Int:=if l.head?=some 45 then -(dn (l.drop 1):Int) else (dn l:Int)
theorem num_head {l:List UInt8} (h:Numeral l):l.head? ≠ some 45:=by
 intro e;obtain⟨h1,_,_,h4⟩:=h
 cases l with
 | nil=>exact h1 rfl
 | cons c m =>
  injection e with e;have:=h4 c (List.mem_cons_self ..);subst e
  simp at this
theorem num_lt {l:List UInt8} (h:Numeral l):dn l<L32 ^ 34:=by
 have h1:=parse_room h.2.2.2 (Nat.le_refl l.length);exact lt_pow_more h1 (by have:=h.2.1;omega)
end Go.Proofs.YtpclhpfcbjgokaaGreatDoor
namespace Go.Proofs.YtpclhpfcbjgokaaGreatDoor
set_option maxRecDepth 100000
inductive U where
 | node (k:Nat) (nm ot:Bs) (z:Nat) (ln cl:Nat) (ks:List U)
def U.k:U->Nat | .node k _ _ _ _ _ _=>k
def U.ks:U->List U | .node _ _ _ _ _ _ ks=>ks
def u0:U:=.node 0 [] [] 0 0 0 []
mutual
def ud:U->Nat
 | .node _ _ _ _ _ _ ks=>uds ks+1
def uds:List U->Nat
 | []=>0
 | t::ts=>max (ud t) (uds ts)
end
structure St where
 rest:List Tok
 err:Option (Nat × Nat × Nat)
def tk0:Tok:=⟨4,[],0,0⟩
def St.nx (s:St):Tok:=s.rest.headD tk0
def St.tk (s:St):St:=if s.nx.kind=4 then s else ⟨s.rest.drop 1,s.err⟩
def St.fail (s:St) (t:Tok) (c:Nat):St:=⟨s.rest.drop (s.rest.length - 1),s.err.or (some (c,t.line,t.col))⟩
def St.is (s:St) (w:Bs):Bool:=s.nx.text==w
def St.acc (s:St) (w:Bs):St:=if s.is w then s.tk else s
def St.exp (s:St) (w:Bs):St:=if s.is w then s.tk else s.fail s.nx 1
def St.exps (s:St) (ws:List Bs):St:=ws.foldl St.exp s
def St.name (s:St):St:=if s.nx.kind=0 then s.tk else s.tk.fail s.nx 1
def St.counted (s:St) (count limit:Nat):St:=if limit<=count then s.name.fail s.nx 2 else s.name
abbrev wLet:Bs:=[108,101,116]
abbrev wIf:Bs:=[105,102]
abbrev wMatch:Bs:=[109,97,116,99,104]
abbrev wAssert:Bs:=[97,115,115,101,114,116]
abbrev wIn:Bs:=[105,110]
abbrev wThen:Bs:=[116,104,101,110]
abbrev wElse:Bs:=[101,108,115,101]
abbrev wWith:Bs:=[119,105,116,104]
abbrev wNil:Bs:=[91,93]
abbrev wArrow:Bs:=[45,62]
abbrev wBar:Bs:=[124]
abbrev wCons:Bs:=[58,58]
abbrev wEq:Bs:=[61]
abbrev wSemi:Bs:=[59]
abbrev wV:Bs:=[118]
abbrev wTrue:Bs:=[116,114,117,101]
abbrev wFalse:Bs:=[102,97,108,115,101]
abbrev wOpen:Bs:=[40]
abbrev wClose:Bs:=[41]
abbrev wComma:Bs:=[44]
abbrev wColon:Bs:=[58]
abbrev wBraceO:Bs:=[123]
abbrev wBraceC:Bs:=[125]
abbrev wQualif:Bs:=[113,117,97,108,105,102]
abbrev wFun:Bs:=[102,117,110]
abbrev wInt:Bs:=[105,110,116]
abbrev wBool:Bs:=[98,111,111,108]
abbrev wList:Bs:=[108,105,115,116]
structure Bop where
 sign:Bs
 kind:Nat
 level:Nat
 left:Nat
 right:Nat
def bops:List Bop:=[⟨[124,124],22,1,1,2⟩,⟨[38,38],21,2,2,3⟩,⟨[61],15,3,4,4⟩,⟨[60,62],16,3,4,4⟩,⟨[60],17,3,4,4⟩,⟨[60,61],18,3,4,4⟩,⟨[62],19,3,4,4⟩,⟨[62,61],20,3,4,4⟩,⟨[58,58],23,4,5,4⟩,⟨[43],10,5,5,6⟩,⟨[45],11,5,5,6⟩,⟨[42],12,6,6,7⟩,⟨[47],13,6,6,7⟩,⟨[37],14,6,6,7⟩]
def bopOf (w:Bs):Option Bop:=bops.find? (·.sign==w)
def unOf (w:Bs):Option Nat:=
 if w=[45] then some 5 else if w=[110,111,116] then some 6 else if w=[108,101,110] then some 7 else if w=[104,100] then some 8 else if w=[116,108] then some 9 else none
def prt (k:Nat) (t:Tok) (ks:List U):U:=.node k [] [] 0 t.line t.col ks
def nmd (k:Nat) (t:Tok) (ks:List U):U:=.node k t.text [] 0 t.line t.col ks
mutual
def cExpr:Nat->St->Option (U × St)
 | 0,_=>none
 | n+1,s =>
  if s.is wLet then cLet n s
  else if s.is wIf then cIf n s
  else if s.is wMatch then cMatch n s
  else if s.is wAssert then cAssert n s
  else cBin n 1 s
def cLet:Nat->St->Option (U × St)
 | 0,_=>none
 | n+1,s =>
  (cExpr n ((s.tk.name).exp wEq)).bind fun r1 =>
  (cExpr n (r1.2.exp wIn)).bind fun r2 =>
  some (.node 26 s.tk.nx.text [] 0 s.nx.line s.nx.col [r1.1,r2.1],r2.2)
def cIf:Nat->St->Option (U × St)
 | 0,_=>none
 | n+1,s =>
  (cExpr n s.tk).bind fun r1 =>
  (cExpr n (r1.2.exp wThen)).bind fun r2 =>
  (cExpr n (r2.2.exp wElse)).bind fun r3 =>
  some (prt 25 s.nx [r1.1,r2.1,r3.1],r3.2)
def cMatch:Nat->St->Option (U × St)
 | 0,_=>none
 | n+1,s =>
  (cExpr n s.tk).bind fun r1 =>
  (cExpr n (((r1.2.exp wWith).exp wNil).exp wArrow)).bind fun r2 =>
  (cExpr n (((((r2.2.exp wBar).name).exp wCons).name).exp wArrow)).bind fun r3 =>
  some (.node 27 (r2.2.exp wBar).nx.text (((r2.2.exp wBar).name).exp wCons).nx.text 0 s.nx.line s.nx.col [r1.1,r2.1,r3.1],r3.2)
def cAssert:Nat->St->Option (U × St)
 | 0,_=>none
 | n+1,s =>
  (cExpr n s.tk).bind fun r1 =>
  (cExpr n (r1.2.exp wSemi)).bind fun r2 =>
  some (prt 28 s.nx [r1.1,r2.1],r2.2)
def cBin:Nat->Nat->St->Option (U × St)
 | 0,_,_=>none
 | n+1,least,s=>(cOne n s).bind fun r=>cLoop n least r.1 7 r.2
def cLoop:Nat->Nat->U->Nat->St->Option (U × St)
 | 0,_,_,_,_=>none
 | n+1,least,e,level,s =>
  match bopOf s.nx.text with
  | none=>some (e,s)
  | some op =>
   if op.level<least\/level<op.left then some (e,s)
   else (cBin n op.right s.tk).bind fun r=>cLoop n least (prt op.kind s.nx [e,r.1]) op.level r.2
def cOne:Nat->St->Option (U × St)
 | 0,_=>none
 | n+1,s =>
  match unOf s.nx.text with
  | none=>cAtom n s
  | some k=>(cOne n s.tk).bind fun r=>some (prt k s.nx [r.1],r.2)
def cAtom:Nat->St->Option (U × St)
 | 0,_=>none
 | n+1,s =>
  if s.nx.kind=1 then some (.node 0 [] [] (dn s.nx.text) s.nx.line s.nx.col [],s.tk)
  else if s.nx.kind=0 then
   if s.tk.is wOpen then (cArgs n s.tk.tk).bind fun r=>some (nmd 24 s.nx r.1,r.2)
   else some (nmd 3 s.nx [],s.tk)
  else if s.is wV then some (nmd 3 s.nx [],s.tk)
  else if s.is wTrue then some (prt 1 s.nx [],s.tk)
  else if s.is wFalse then some (prt 2 s.nx [],s.tk)
  else if s.is wNil then some (prt 4 s.nx [],s.tk)
  else if s.is wOpen then (cExpr n s.tk).bind fun r=>some (r.1,r.2.exp wClose)
  else some (u0,s.tk.fail s.nx 1)
def cArgs:Nat->St->Option (List U × St)
 | 0,_=>none
 | n+1,s=>if s.is wClose then some ([],s.tk) else (cExpr n s).bind fun r=>cMore n [r.1] r.2
def cMore:Nat->List U->St->Option (List U × St)
 | 0,_,_=>none
 | n+1,l,s=>if s.is wComma then (cExpr n s.tk).bind fun r=>cMore n (l++[r.1]) r.2 else some (l,s.exp wClose)
end
structure PmU where
 nm:Bs
 b:Nat
 kn:Bool
 ref:U
 ln:Nat
 cl:Nat
structure QlU where
 nm:Bs
 ps:List PmU
 body:U
 ln:Nat
 cl:Nat
structure FnU where
 nm:Bs
 ps:List PmU
 res:PmU
 body:U
 ln:Nat
 cl:Nat
structure PgU where
 qs:List QlU
 fs:List FnU
def cAll (n:Nat) (s:St):Option (U × St):=(cExpr n s).bind fun r=>some (r.1,if 60<ud r.1 then r.2.fail s.nx 2 else r.2)
def cBase (s:St):Nat × St:=
 if s.is wInt then (0,s.tk) else if s.is wBool then (1,s.tk) else if s.is wList then (2,s.tk) else (0,s.tk.fail s.nx 1)
def cRef (n:Nat) (p:PmU) (s:St):Option (PmU × St):=
 if s.is wBraceO then (cAll n s.tk).bind fun r=>some ({ p with kn:=true,ref:=r.1 },r.2.exp wBraceC) else some (p,s)
def typ (nm:Bs) (t:Tok) (b:Nat):PmU:=⟨nm,b,false,u0,t.line,t.col⟩
def cVar (s:St):PmU × St:=let s2:=(s.exp wV).exp wColon;(typ s.nx.text s.nx (cBase s2).1,(cBase s2).2)
def cParam (count:Nat) (s:St):PmU × St:=let s2:=(s.counted count 6).exp wColon;(typ s.nx.text s.nx (cBase s2).1,(cBase s2).2)
def cRes (n:Nat) (s:St):Option (PmU × St):=cRef n (typ wV s.nx (cBase s).1) (cBase s).2
def cQMore:Nat->List PmU->St->Option (List PmU × St)
 | 0,_,_=>none
 | n+1,l,s=>if s.is wComma then cQMore n (l++[(cParam l.length s.tk).1]) (cParam l.length s.tk).2 else some (l,s)
def cFPar (n:Nat) (l:List PmU) (s:St):Option (List PmU × St):=(cRef n (cParam l.length s).1 (cParam l.length s).2).bind fun r=>some (l++[r.1],r.2)
def cFMore:Nat->Nat->List PmU->St->Option (List PmU × St)
 | 0,_,_,_=>none
 | m+1,n,l,s=>if s.is wComma then (cFPar n l s.tk).bind fun r=>cFMore m n r.1 r.2 else some (l,s.exp wClose)
def cFPars (m n:Nat) (s:St):Option (List PmU × St):=if s.is wClose then some ([],s.tk) else (cFPar n [] s).bind fun r=>cFMore m n r.1 r.2
def cQual (m n count:Nat) (s:St):Option (QlU × St):=
 let s1:=(s.counted count 20).exp wOpen
 (cQMore m [(cVar s1).1] (cVar s1).2).bind fun r =>
 (cAll n ((r.2.exp wClose).exp wColon)).bind fun q =>
 some (⟨s.nx.text,r.1,q.1,s.nx.line,s.nx.col⟩,q.2)
def cFun (m n count:Nat) (s:St):Option (FnU × St):=
 let s1:=(s.counted count 20).exp wOpen
 (cFPars m n s1).bind fun r =>
 (cRes n (r.2.exp wColon)).bind fun t =>
 (cAll n (t.2.exp wEq)).bind fun q =>
 some (⟨s.nx.text,r.1,t.1,q.1,s.nx.line,s.nx.col⟩,q.2)
def cProg:Nat->Nat->PgU->St->Option (PgU × St)
 | 0,_,_,_=>none
 | m+1,n,p,s =>
  if s.is wQualif then (cQual m n p.qs.length s.tk).bind fun r=>cProg m n ⟨p.qs++[r.1],p.fs⟩ r.2
  else if s.is wFun then (cFun m n p.fs.length s.tk).bind fun r=>cProg m n ⟨p.qs,p.fs++[r.1]⟩ r.2
  else some (p,s)
def St.fin (s:St):St:=if s.nx.kind=4 then s else s.fail s.nx 1
structure RS where
 rest:List Tok
 bad:Nat
 pl:Tok
def RS.at' (r:RS):Tok:=r.rest.headD tk0
def RS.bd (r:RS) (t:Tok) (e:Nat):RS:=if r.bad=0 then ⟨r.rest,e,t⟩ else r
def RS.is (r:RS) (w:Bs):Bool:=(r.bad==0) && (r.at'.kind==2 || r.at'.kind==3) && (r.at'.text==w)
def RS.inc (r:RS):RS:=⟨r.rest.drop 1,r.bad,r.pl⟩
def RS.name (r:RS):RS:=if r.at'.kind=0 then (if r.bad=0 then r.inc else r) else r.bd r.at' 1
structure RE where
 S:Bs
 d:Nat
def plc (ln cl:Nat):Bs:=[64]++zText (ln:Nat)++[58]++zText (cl:Nat)
def opn (k:Nat) (ln cl:Nat) (nm:Bs):Bs:=[40]++zText (k:Nat)++plc ln cl++[32]++nm
def mk (k:Nat) (t:Tok) (nm:Bs) (ks:List RE):RE:=⟨opn k t.line t.col nm++ks.flatMap RE.S++[41],ks.foldl (fun d e=>max d e.d) 0+1⟩
def twoT:List (Bs × Nat):=[([43],5),([45],5),([42],6),([47],6),([37],6),([61],3),([60,62],3),([60],3),([60,61],3),([62],3),([62,61],3),([38,38],2),([124,124],1),([58,58],4)]
def two (t:Tok):Nat × Nat:=if t.kind≠2 then (0,0) else match twoT.findIdx? (fun p=>p.1==t.text) with | some i=>((twoT.getD i ([],0)).2,10+i) | none=>(0,0)
set_option linter.unusedVariables false
def fname (k:Nat) (nm ot:Bs) (z:Nat):Bs:=if k=0 then zText (z:Nat) else if k=27 then nm++[32]++ot else nm
mutual
def frm:U->Bs
 | .node k nm ot z ln cl ks=>opn k ln cl (fname k nm ot z)++frms ks++[41]
def frms:List U->Bs
 | []=>[]
 | u::us=>frm u++frms us
end
def fm (u:U):RE:=⟨frm u,ud u⟩
def sigs:List Bs:=[[58,58],[45,62],[38,38],[124,124],[91,93],[60,62],[60,61],[62,61],[40],[41],[123],[125],[44],[58],[59],[124],[61],[60],[62],[43],[45],[42],[47],[37]]
def alls:List Bs:=wds++sigs
structure TokOk (t:Tok):Prop where
 k4:t.kind<=4
 k0:t.kind=0->t.text ∉ alls/\t.text ≠ []
 k1:t.kind=1->t.text ∉ alls/\Numeral t.text
 k2:t.kind=2->t.text ∈ sigs
 k3:t.kind=3->t.text ∈ wds
 ke:t.kind=4->t.text=[]
def GoodL:List Tok->Prop
 | []=>False
 | [t]=>t.kind=4/\TokOk t
 | t::u::ts=>t.kind<4/\TokOk t/\GoodL (u::ts)
theorem GoodL.head {l:List Tok} (h:GoodL l):TokOk (l.headD tk0):=by
 match l,h with
 | [t],h=>exact h.2
 | t::u::ts,h=>exact h.2.1
theorem GoodL.tail {l:List Tok} (h:GoodL l) (hk:(l.headD tk0).kind≠4):GoodL (l.drop 1):=by
 match l,h with
 | [t],h=>exact absurd h.1 hk
 | t::u::ts,h=>exact h.2.2
theorem GoodL.last {l:List Tok} (h:GoodL l):∃ e,l.drop (l.length - 1)=[e]/\e.kind=4/\e.text=[]:=by
 induction l with
 | nil=>exact absurd h id
 | cons t ts ih =>
  match ts,h,ih with
  | [],h,_=>exact⟨t,rfl,h.1,h.2.ke h.1⟩
  | u::ts,h,ih =>
   obtain⟨e,h1,h2⟩:=ih h.2.2;refine⟨e,?_,h2⟩;simp only[lsc,Nat.add_sub_cancel] at h1 ⊢;rw[List.drop_succ_cons];exact h1
theorem GoodL.ne {l:List Tok} (h:GoodL l):l ≠ []:=by intro e;rw[e] at h;exact h
theorem nil_alls:([]:Bs) ∉ alls:=by decide
theorem is_kind {t:Tok} (h:TokOk t) {w:Bs} (hw:w ∈ alls) (e:t.text=w):t.kind=2\/t.kind=3:=by
 have h4:=h.k4;have e0:t.kind≠0:=fun k=>(h.k0 k).1 (e ▸ hw)
 have e1:t.kind≠1:=fun k=>(h.k1 k).1 (e ▸ hw)
 have e4:t.kind≠4:=fun k=>nil_alls (by have:=h.ke k;rw[e] at this;exact this ▸ hw)
 omega
theorem St.is_true {s:St} {w:Bs} (h:s.is w=true):s.nx.text=w:=by simpa [St.is] using h
theorem bop_mem {w:Bs} {op:Bop} (h:bopOf w=some op):op ∈ bops/\op.sign=w:=by
 unfold bopOf at h;exact⟨List.mem_of_find?_eq_some h,by have:=List.find?_some h;simpa using this⟩
theorem bop_tab:∀ op ∈ bops,1<=op.level/\op.level<=6/\op.left=(if op.level=3 then 4 else if op.level=4 then 5 else op.level)/\op.right=(if op.level=4 then 4 else op.level+1)/\op.sign ∈ sigs/\op.kind≠0/\op.kind≠27/\two ⟨2,op.sign,0,0⟩=(op.level,op.kind):=by decide
def start (lev:Nat):Nat:=if lev=7 then 6 else if lev=3 then 2 else if lev=4 then 3 else lev
def Inv (lev:Nat) (s:St):Prop:=∀ op,bopOf s.nx.text=some op->op.level<=start lev\/(op.level=3/\lev<=3)
theorem un_alls {w:Bs} {k:Nat} (h:unOf w=some k):w ∈ alls/\5<=k/\k<=9:=by
 unfold unOf at h
 split at h
 ·rename_i e;injection h with h;subst h e;exact⟨by decide,by decide,by decide⟩
 split at h
 ·rename_i e;injection h with h;subst h e;exact⟨by decide,by decide,by decide⟩
 split at h
 ·rename_i e;injection h with h;subst h e;exact⟨by decide,by decide,by decide⟩
 split at h
 ·rename_i e;injection h with h;subst h e;exact⟨by decide,by decide,by decide⟩
 split at h
 ·rename_i e;injection h with h;subst h e;exact⟨by decide,by decide,by decide⟩
 cases h
end Go.Proofs.YtpclhpfcbjgokaaGreatDoor
namespace Go.Proofs.YtpclhpfcbjgokaaGreatDoor
open Go.RowKit
set_option maxRecDepth 100000
def New (w:World) (v:Value):Prop:=∃ ao n c,v=.slice ao n c/\(n≠0->∀ a,ao=some a->w.heap.size<=a.block)
theorem trim_new (w:World) (cap:Nat) (xs:List Nat):New w (trimmedOf (some ⟨w.heap.size,0,none⟩) cap xs):=by
 unfold trimmedOf
 split
 ·exact⟨_,_,_,rfl,fun h=>absurd rfl h⟩
 exact⟨_,_,_,rfl,fun _ a h=>by injection h with h;subst h;exact Nat.le_refl _⟩
theorem parse_new (l:List UInt8) (w:World) (h:Numeral l) :
  Calls Tryz.prog 119 #[.string ⟨l.toArray⟩] w fun e w'=>∃ v,e=.returned (.tuple #[v,.bool true])/\Sl w' .u32 v (dig L32 (dn l))/\New w v/\Below w.heap.size w w':=by
 obtain⟨i0,hi,hz0,hz1,hz2⟩:=info_parts info51;have hsz:(⟨l.toArray⟩:ByteArray).size=l.length:=rfl;have HN:=Lib.hid h;have hl:=h.2.1;have HD:=Lib.hid h.2.2.2;clear h;go_enter Tryz.func119,Tryz.ntmps119
 go_wp2_with fail
 refine (isNum_true l w HN.out).mono ?_;rintro e w' ⟨rfl,hw'⟩;obtain rfl:=hw'.symm;go_wp2_with (at_make;refine wpList_make_blk _ rfl _ _ 43 rfl 180 i0 .u32 Tryz.underlying43 hi hz0 hz1 _ _ _ _ (l.length / 9+1) rfl rfl (by omega) (by omega) (by omega) (by omega) ?_;intro w1 hB1 hb1 hs1)
 go_loopw [0] (fun sv wr=>∃ (pre rest:List UInt8) (s':List Nat),sv=.string ⟨rest.toArray⟩/\Hid (pre++rest=l)/\Blk wr w.heap.size .u32 180 s'/\Dig L32 s'/\Hid (s'.length=l.length / 9+1)/\Hid (val L32 s'=dn pre)/\Hid (pre=[]\/rest.length % 9=0)/\Below w.heap.size w wr) (fun sv _=>sizeOfS sv)
 case atStart=>exact⟨[],l,_,rfl,Lib.hid rfl,hB1,Dig.replicate (by decide) _,Lib.hid (by simp),Lib.hid (by rw[val_replicate_zero];rfl),Lib.hid (.inl rfl),hb1⟩
 case round =>
  clear hB1 hb1 hs1;obtain⟨pre,rest,s',rfl,HP,hB,hd,HL,HV,HM,hb⟩:=hrel;have hsz':(⟨rest.toArray⟩:ByteArray).size=rest.length:=rfl;have hrl:rest.length<=300:=by have:=congrArg List.length HP.out;rw[lsa] at this;omega
  by_cases h0:0<rest.length
  ·go_wp2_with fail
   rw[extract_take];have hkl:(rest.length - 1) % 9+1<=rest.length:=by omega
   have HR:Hid (AllD rest):=Lib.hid (by have:=HD.out;rw[<-HP.out] at this;exact this.right);have HG:Hid ((rest.take ((rest.length - 1) % 9+1)).length=(rest.length - 1) % 9+1):=Lib.hid (by rw[List.length_take];omega);have HP2:Hid ((pre++rest.take ((rest.length - 1) % 9+1))++rest.drop ((rest.length - 1) % 9+1)=l):=Lib.hid (by rw[List.append_assoc,List.take_append_drop];exact HP.out)
   have HS:=Lib.hid (parse_sum (pre:=pre) (grp:=rest.take ((rest.length - 1) % 9+1)) (by
    rcases HM.out with h | h
    ·exact .inl h
    right;rw[HG.out];omega))
   have HRM:=Lib.hid (parse_room (l:=l) (m:=pre++rest.take ((rest.length - 1) % 9+1)) (by have:=HD.out;rw[<-HP2.out] at this;exact this.left) (by have:=congrArg List.length HP2.out;rw[lsa] at this;omega))
   have hgb:dn (rest.take ((rest.length - 1) % 9+1))<4294967296:=by
    have h1:=dn_lt (HR.out.take ((rest.length - 1) % 9+1));have h2:10 ^ (rest.take ((rest.length - 1) % 9+1)).length<=10 ^ 9:=Nat.pow_le_pow_right (by decide) (by rw[HG.out];omega);have h3:10 ^ 9=1000000000:=rfl
    omega
   have HGB:=Lib.hid hgb;clear hgb;refine (number_any _ wr (HR.out.take _) (by rw[HG.out];omega)).mono ?_;rintro e w' ⟨rfl,hw'⟩;obtain rfl:=hw'.symm;have hws:=ws_part (i:=0) (n:=l.length / 9+1) hB (by have:=HL.out;omega) (by have:=HL.out;omega) (by have:=HL.out;omega);rw[List.take_zero,List.drop_zero] at hws;go_wp2_with fail
   refine (mulAdd_any w.heap.size [] s' [] _ 1000000000 (dn (rest.take ((rest.length - 1) % 9+1))) wr hws hd (by decide) HGB.out (by rw[HV.out,HS.out,HL.out];exact HRM.out)).mono ?_;rintro e w3 ⟨t,rfl,hw3,hg3,hl3,hd3,hv3⟩;rw[HV.out,HS.out] at hv3;have HL3:=Lib.hid hl3;have HV3:=Lib.hid hv3;have hB3:=ws_whole hw3 (by rw[hl3,HL.out];omega);rw[List.nil_append,List.append_nil] at hB3;have hb3:=hb.trans (below_of_grown' hg3 (Nat.le_refl _) hb.size);clear hl3 hv3 hw3 hg3;go_wp2_with fail
   go_roundw
   case rel=>exact⟨pre++rest.take ((rest.length - 1) % 9+1),rest.drop ((rest.length - 1) % 9+1),t,by rw[<-extract_drop],HP2,hB3,hd3,Lib.hid (by rw[HL3.out];exact HL.out),HV3,Lib.hid (.inr (by rw[List.length_drop];omega)),hb3⟩
   case measure=>simp[sizeOfS];omega
  have hr0:rest=[]:=List.eq_nil_of_length_eq_zero (by omega);have HV':=Lib.hid (show val L32 s'=dn l by rw[HV.out,<-HP.out,hr0,List.append_nil]);have hsl:=hB.sl 0 (l.length / 9+1) (l.length / 9+1) (by rw[HL.out];omega) (Nat.le_refl _) (by omega);rw[List.drop_zero,List.take_of_length_le (by rw[HL.out];omega)] at hsl;clear hr0;go_wp2_with fail
  have HT4:=trimmed_sl hsl hd;rw[HV'.out] at HT4;have HT:=Lib.hid HT4;clear HT4;refine (trimmed_any _ _ _ s' _ hsl).mono ?_;rintro e w4 ⟨rfl,rfl⟩;have HNW:=Lib.hid (trim_new w (l.length / 9+1) s');obtain⟨v4,hv4⟩:∃ v4,v4=trimmedOf (some ⟨w.heap.size,0,none⟩) (l.length / 9+1) s':=⟨_,rfl⟩
  rw[<-hv4] at HT HNW ⊢;clear hv4;go_wp2_with fail
  go_ret2
  exact⟨_,rfl,HT.out,HNW.out,hb⟩
theorem signed_new (ao:Option Addr) (n c:Nat) (w:World) :
  Calls Tryz.prog 120 #[.bool false,.slice ao n c] w fun e w'=>e=.returned (.agg #[.bool false,.slice ao n c])/\Below w.heap.size w w':=by
 go_enter Tryz.func120,Tryz.ntmps120
 go_wp2
 exact bodyPost_ret (v:=.agg #[.bool false,.slice ao n c]) (by simp[results,Tryz.results120,go_sem]) rfl ⟨rfl,(Below.refl _ _).alloc (Nat.le_refl _) _⟩
theorem wparse_new (l:List UInt8) (w:World) (hnum:Numeral l) :
  Calls Tryz.prog 112 #[.string ⟨l.toArray⟩] w fun e w'=>∃ ao n c,e=.returned (.tuple #[.agg #[.bool false,.slice ao n c],.bool true])/\Sl w' .u32 (.slice ao n c) (dig L32 (dn l))/\(n≠0->∀ a,ao=some a->w.heap.size<=a.block)/\Below w.heap.size w w':=by
 have hm:l.length<=1000000000:=by have:=hnum.2.1;omega
 have hW:Below w.heap.size w (w.alloc (.cells #[.bool false,.slice none 0 0] 45)):=(Below.refl _ _).alloc (Nat.le_refl _) _;have HC:=Lib.hid (fun w=>cut_no l w hm (num_head hnum));have hlt:=num_lt hnum;have HNUM:=Lib.hid hnum;clear hnum;go_enter Tryz.func112,Tryz.ntmps112
 go_wp2_with fail
 refine (HC.out _).mono ?_;rintro e w' ⟨rfl,rfl⟩;go_wp2_with fail
 refine (parse_new l _ HNUM.out).mono ?_;rintro e w2 ⟨v2,rfl,s2,n2,hb2⟩;have hk2:=(hb2.block w.heap.size (by simp)).trans (heap_alloc_new w _);have hb2t:=hW.trans (hb2.mono (by simp));clear hb2;obtain⟨vo,vn,vc,rfl,hnew⟩:=n2;have hvn:vn=(dig L32 (dn l)).length:=by obtain⟨_,_,e,_⟩:=s2;injection e
 have HNEW:=Lib.hid hnew;clear hnew;subst hvn;go_wp2_with fail
 refine (signed_new vo _ vc w2).mono ?_;rintro e w3 ⟨rfl,hb3⟩;have hk3:=(hb3.block _ (lt_of_block hk2)).trans hk2;have hb3t:=hb2t.trans (hb3.mono hb2t.size);have s3:=s2.below hb3;clear hb3 hk2 hb2t s2;obtain⟨q0,q1,f0,f1⟩:=two_cells hk3;have HB:=Lib.hid hk3;have HS3:=Lib.hid s3;clear hk3 s3;go_wp2_with fail
 refine bodyPost_ret (v:=.tuple #[.agg #[.bool false,.slice vo (dig L32 (dn l)).length vc],.bool true]) (by simp[results,Tryz.results112,go_sem,q0,q1]) rfl ⟨_,_,_,rfl,?_,fun h a e=>?_,below_setg hb3t (by omega) _ _⟩
 ·exact HS3.out.set2 HB.out _ _
 have:=HNEW.out h a e;simp at this;omega
end Go.Proofs.YtpclhpfcbjgokaaGreatDoor
namespace Go.Proofs.YtpclhpfcbjgokaaGreatDoor
set_option maxRecDepth 100000
inductive T where
 | node (k:Nat) (nm ot:Bs) (z:Nat) (ks:List T)
def T.k:T->Nat | .node k _ _ _ _=>k
def T.ks:T->List T | .node _ _ _ _ ks=>ks
def ar (k:Nat):Nat:=[0,0,0,0,0,1,1,1,1,1,2,2,2,2,2,2,2,2,2,2,2,2,2,2,3,3,2,3,2].getD k 0
def lv (k:Nat):Nat:=[8,8,8,8,8,7,7,7,7,7,5,5,6,6,6,3,3,3,3,3,3,2,1,4,8,0,0,0,0].getD k 0
def sg5 (k:Nat):Bs:=[[],[116,114,117,101],[102,97,108,115,101],[],[91,93],[45],[110,111,116,32],[108,101,110,32],[104,100,32],[116,108,32],[43],[45],[42],[47],[37],[61],[60,62],[60],[60,61],[62],[62,61],[38,38],[124,124],[58,58]].getD k []
def lft (l:Nat):Nat:=if l=3 then 4 else if l=4 then 5 else l
def rgt (l:Nat):Nat:=if l=3 then 4 else if l=4 then 4 else l+1
def rq (k i:Nat):Nat:=if k<10 then lv k else if k<24 then (if i=0 then lft (lv k) else rgt (lv k)) else 0
def words (k:Nat) (nm ot:Bs):List Bs:=
 if k=25 then [[105,102,32],[32,116,104,101,110,32],[32,101,108,115,101,32]]
 else if k=26 then [[108,101,116,32]++nm++[32,61,32],[32,105,110,32]]
 else if k=27 then [[109,97,116,99,104,32],[32,119,105,116,104,32,91,93,32,45,62,32],[32,124,32]++nm++[32,58,58,32]++ot++[32,45,62,32]]
 else [[97,115,115,101,114,116,32],[59,32]]
def phr:List Bs->List Bs->Bs
 | w::ws,p::ps=>w++p++phr ws ps
 | _,_=>[]
def com:List Bs->Bs
 | []=>[]
 | [p]=>p
 | p::q::ps=>p++[44,32]++com (q::ps)
def shp (k:Nat) (nm ot:Bs) (z:Nat) (ps:List Bs):Bs:=
 if k=0 then zText (z:Int)
 else if k=3 then nm
 else if k<5 then sg5 k
 else if k<10 then sg5 k++ps.getD 0 []
 else if k<24 then ps.getD 0 []++[32]++sg5 k++[32]++ps.getD 1 []
 else if k=24 then nm++[40]++com ps++[41]
 else phr (words k nm ot) ps
def br (want have':Nat) (s:Bs):Bs:=if want<=have' then s else [40]++s++[41]
mutual
def tx:T->Bs
 | .node k nm ot z ks=>shp k nm ot z (exs k 0 ks)
def exs:Nat->Nat->List T->List Bs
 | _,_,[]=>[]
 | k,i,t::ts=>br (rq k i) (lv t.k) (tx t)::exs k (i+1) ts
end
def ex (want:Nat) (t:T):Bs:=br want (lv t.k) (tx t)
mutual
def fl:T->Bs
 | .node k nm ot z ks=>if ks.isEmpty || k==24 then tx (.node k nm ot z ks) else [40]++shp k nm ot z (fls ks)++[41]
def fls:List T->List Bs
 | []=>[]
 | t::ts=>fl t::fls ts
end
mutual
def sz:T->Nat
 | .node _ _ _ _ ks=>1+szs ks
def szs:List T->Nat
 | []=>0
 | t::ts=>sz t+szs ts
end
def kp (c:UInt8):Bool:=c != 40 && c != 41 && c != 32
end Go.Proofs.YtpclhpfcbjgokaaGreatDoor
namespace Go.Proofs.YtpclhpfcbjgokaaGreatDoor
open Go.RowKit
set_option maxRecDepth 100000
structure X where
 k:Int
 nm:ByteArray
 ot:ByteArray
 b:Bool
 ao:Option Addr
 n:Nat
 c:Nat
 ko:Option Addr
 kn:Nat
 kc:Nat
 ln:Int
 cl:Int
def xv (x:X):Value:=.agg #[.int .i64 x.k,.string x.nm,.string x.ot,.bool x.b,.slice x.ao x.n x.c,.slice x.ko x.kn x.kc,.int .i64 x.ln,.int .i64 x.cl]
def xc (x:X):List Value:=[.int .i64 x.k,.string x.nm,.string x.ot,.bool x.b,.slice x.ao x.n x.c,.slice x.ko x.kn x.kc,.int .i64 x.ln,.int .i64 x.cl]
def At8 (w:World) (ko:Option Addr) (i:Nat) (y:X):Prop:=∃ a,ko=some a/\∀ j v,(xc y)[j]?=some v->w.cell? ((a.add (i*8)).add j)=some v
theorem add_block (a:Addr) (i:Nat):(a.add i).block=a.block:=by unfold Addr.add;split<;>rfl
theorem cell_keep {w w':World} {p:Addr} (h:w'.heap[p.block]?=w.heap[p.block]?):w'.cell? p=w.cell? p:=World.cell?_of_block h
theorem At8.keep {w w':World} {ko:Option Addr} {i:Nat} {y:X} (h:At8 w ko i y) (hk:∀ a,ko=some a->w'.heap[a.block]?=w.heap[a.block]?):At8 w' ko i y:=by
 obtain⟨a,rfl,h⟩:=h;refine⟨a,rfl,fun j v hv=>?_⟩;rw[cell_keep (w:=w) (by rw[add_block,add_block];exact hk a rfl)];exact h j v hv
theorem At8.lt {w:World} {ko:Option Addr} {i:Nat} {y:X} (h:At8 w ko i y):∀ a,ko=some a->a.block<w.heap.size:=by
 obtain⟨a,rfl,h⟩:=h;rintro _ ⟨⟩;have:=cell_lt (h 0 _ rfl)
 rwa [add_block,add_block] at this
theorem Sl.keep {w w':World} {k:IntKind} {ao:Option Addr} {n c:Nat} {xs:List Nat} (h:Sl w k (.slice ao n c) xs) (hk:n≠0->∀ a,ao=some a->w'.heap[a.block]?=w.heap[a.block]?):Sl w' k (.slice ao n c) xs:=by
 obtain⟨ao',cap,e,h1,h2,h3,h4⟩:=h;injection e with e1 e2 e3;subst e1;subst e3;refine⟨ao,c,by rw[e2],h1,h2,h3,fun i hi=>?_⟩;obtain⟨a,ha,hc⟩:=h4 i hi;refine⟨a,ha,?_⟩;rw[cell_keep (w:=w) (by rw[add_block];exact hk (by omega) a ha)];exact hc
theorem cells8 {w:World} {p:Addr} {y:X} (h:∀ j v,(xc y)[j]?=some v->w.cell? (p.add j)=some v):w.cell? p=some (.int .i64 y.k)/\w.cell? ⟨p.block,p.off+1,none⟩=some (.string y.nm)/\w.cell? ⟨p.block,p.off+2,none⟩=some (.string y.ot) /\
  w.cell? ⟨p.block,p.off+3,none⟩=some (.bool y.b)/\w.cell? ⟨p.block,p.off+4,none⟩=some (.slice y.ao y.n y.c)/\w.cell? ⟨p.block,p.off+5,none⟩=some (.slice y.ko y.kn y.kc)/\w.cell? ⟨p.block,p.off+6,none⟩=some (.int .i64 y.ln)/\w.cell? ⟨p.block,p.off+7,none⟩=some (.int .i64 y.cl):=
 ⟨h 0 _ rfl,h 1 _ rfl,h 2 _ rfl,h 3 _ rfl,h 4 _ rfl,h 5 _ rfl,h 6 _ rfl,h 7 _ rfl⟩
def st8 (w:World) (g:Nat) (v0 v1 v2 v3 v4 v5 v6 v7:Value):World:=
 (((((((w.setCell ⟨g,0,none⟩ v0).setCell ⟨g,1,none⟩ v1).setCell ⟨g,2,none⟩ v2).setCell ⟨g,3,none⟩ v3).setCell ⟨g,4,none⟩ v4).setCell ⟨g,5,none⟩ v5).setCell ⟨g,6,none⟩ v6).setCell ⟨g,7,none⟩ v7
theorem st8_same {w:World} {g:Nat} {T:TypeId} {a0 a1 a2 a3 a4 a5 a6 a7:Value} (h:w.heap[g]?=some (.cells #[a0,a1,a2,a3,a4,a5,a6,a7] T (0,0))) (v0 v1 v2 v3 v4 v5 v6 v7:Value) :
  (st8 w g v0 v1 v2 v3 v4 v5 v6 v7).heap[g]?=some (.cells #[v0,v1,v2,v3,v4,v5,v6,v7] T (0,0)):=by
 have h0:(w.setCell ⟨g,0,none⟩ v0).heap[g]?=some (.cells #[v0,a1,a2,a3,a4,a5,a6,a7] T (0,0)):=heap_setCell_same _ g 0 _ T v0 h;have h1:((w.setCell ⟨g,0,none⟩ v0).setCell ⟨g,1,none⟩ v1).heap[g]?=some (.cells #[v0,v1,a2,a3,a4,a5,a6,a7] T (0,0)):=heap_setCell_same _ g 1 _ T v1 h0;have h2:(((w.setCell ⟨g,0,none⟩ v0).setCell ⟨g,1,none⟩ v1).setCell ⟨g,2,none⟩ v2).heap[g]?=some (.cells #[v0,v1,v2,a3,a4,a5,a6,a7] T (0,0)):=heap_setCell_same _ g 2 _ T v2 h1;have h3:((((w.setCell ⟨g,0,none⟩ v0).setCell ⟨g,1,none⟩ v1).setCell ⟨g,2,none⟩ v2).setCell ⟨g,3,none⟩ v3).heap[g]?=some (.cells #[v0,v1,v2,v3,a4,a5,a6,a7] T (0,0)):=heap_setCell_same _ g 3 _ T v3 h2
 have h4:(((((w.setCell ⟨g,0,none⟩ v0).setCell ⟨g,1,none⟩ v1).setCell ⟨g,2,none⟩ v2).setCell ⟨g,3,none⟩ v3).setCell ⟨g,4,none⟩ v4).heap[g]?=some (.cells #[v0,v1,v2,v3,v4,a5,a6,a7] T (0,0)):=heap_setCell_same _ g 4 _ T v4 h3;have h5:((((((w.setCell ⟨g,0,none⟩ v0).setCell ⟨g,1,none⟩ v1).setCell ⟨g,2,none⟩ v2).setCell ⟨g,3,none⟩ v3).setCell ⟨g,4,none⟩ v4).setCell ⟨g,5,none⟩ v5).heap[g]?=some (.cells #[v0,v1,v2,v3,v4,v5,a6,a7] T (0,0)):=heap_setCell_same _ g 5 _ T v5 h4;have h6:(((((((w.setCell ⟨g,0,none⟩ v0).setCell ⟨g,1,none⟩ v1).setCell ⟨g,2,none⟩ v2).setCell ⟨g,3,none⟩ v3).setCell ⟨g,4,none⟩ v4).setCell ⟨g,5,none⟩ v5).setCell ⟨g,6,none⟩ v6).heap[g]?=some (.cells #[v0,v1,v2,v3,v4,v5,v6,a7] T (0,0)):=heap_setCell_same _ g 6 _ T v6 h5
 have h7:((((((((w.setCell ⟨g,0,none⟩ v0).setCell ⟨g,1,none⟩ v1).setCell ⟨g,2,none⟩ v2).setCell ⟨g,3,none⟩ v3).setCell ⟨g,4,none⟩ v4).setCell ⟨g,5,none⟩ v5).setCell ⟨g,6,none⟩ v6).setCell ⟨g,7,none⟩ v7).heap[g]?=some (.cells #[v0,v1,v2,v3,v4,v5,v6,v7] T (0,0)):=heap_setCell_same _ g 7 _ T v7 h6;exact h7
theorem set1_other (w:World) (g i:Nat) (v:Value) {k:Nat} (hk:k≠g):(w.setCell ⟨g,i,none⟩ v).heap[k]?=w.heap[k]?:=heap_setCell_other _ _ k _ (by simpa using hk)
theorem st8_other (w:World) (g:Nat) (v0 v1 v2 v3 v4 v5 v6 v7:Value) {k:Nat} (hk:k≠g):(st8 w g v0 v1 v2 v3 v4 v5 v6 v7).heap[k]?=w.heap[k]?:=by
 unfold st8;rw[set1_other _ _ _ _ hk,set1_other _ _ _ _ hk,set1_other _ _ _ _ hk,set1_other _ _ _ _ hk,set1_other _ _ _ _ hk,set1_other _ _ _ _ hk,set1_other _ _ _ _ hk,set1_other _ _ _ _ hk]
theorem st8_grown (w:World) (g:Nat) (v0 v1 v2 v3 v4 v5 v6 v7:Value):w.grownBy (st8 w g v0 v1 v2 v3 v4 v5 v6 v7) (some g):=by
 unfold st8;refine grown_setCell ?_ _;refine grown_setCell ?_ _;refine grown_setCell ?_ _;refine grown_setCell ?_ _;refine grown_setCell ?_ _;refine grown_setCell ?_ _;refine grown_setCell ?_ _;refine grown_setCell ?_ _;exact World.grownBy.refl _ _
theorem below_set1 {B:Nat} {w0 w:World} (h:Below B w0 w) {g:Nat} (hg:B<=g) (i:Nat) (v:Value):Below B w0 (w.setCell ⟨g,i,none⟩ v):=h.setCell (by simpa using hg) _
theorem st8_below {B:Nat} {w0 w:World} (h:Below B w0 w) {g:Nat} (hg:B<=g) (v0 v1 v2 v3 v4 v5 v6 v7:Value):Below B w0 (st8 w g v0 v1 v2 v3 v4 v5 v6 v7):=by
 have k:=st8_grown w g v0 v1 v2 v3 v4 v5 v6 v7;exact⟨k.os.trans h.os,k.tape.trans h.tape,k.output.trans h.output,Nat.le_trans h.size k.size,fun q hq=>by rw[st8_other _ _ _ _ _ _ _ _ _ _ (by omega)];exact h.block q hq⟩
theorem setCell_size (w:World) (p:Addr) (v:Value):(w.setCell p v).heap.size=w.heap.size:=by simp[World.setCell]
theorem infoExpr:(Tryz.prog.info? 48).map (fun i=>(i.zero,i.size,i.bytes))=some (some (.agg #[.int .i64 0,.string ⟨#[]⟩,.string ⟨#[]⟩,.bool false,.slice none 0 0,.slice none 0 0,.int .i64 0,.int .i64 0]),8,112):=by kernel_rfl
def Fresh (w:World) (v v':Value):Prop:=∀ g,v'.ownBlock=some g->v.ownBlock=some g\/w.heap.size<=g
theorem append_fresh {P:Program} {w w':World} {t ty e:TypeId} {i:TypeInfo} {z:Value} (ht:P.underlying t=some (.slice e)) (hi:P.info? e=some i) (hz:i.zero=some z)
  {base n m c:Nat} {v v':Value} {xs news:List Value} (hown:w.ownsRow base e i.size v n xs) {a:Addr} (hl:news.length=m*i.size) (hnews:∀ j u,news[j]?=some u->w.cell? (a.add j)=some u) (h1:∀ u ∈ news,u.oneCell'=true)
  (h63:n+m<=1000000000) (hbytes:(n+m)*i.bytes<=140737488355328) (hm:0<m) (hzs:z.cells.size=i.size) (hsz:0<i.size)
  (hr:(Builtin.append_ #[t,t] ty #[v,.slice (some a) m c]).run P w=.ok v' w'):Fresh w v v':=by
 have h0:=hown;rcases hown.2 with ⟨rfl,rfl⟩ | ⟨g,cap,cur,rfl,hbg,hg,hnc,hcm,hcs,htake⟩
 ·have hx:xs=[]:=List.eq_nil_of_length_eq_zero (by simpa using hown.1);subst hx;obtain⟨v2,w2,hr2,ho2,_,_⟩:=run_append_own (P:=P) w w.heap.size t ty e i z i.size i.bytes ht hi hz rfl rfl hzs hsz (.slice none 0 0) 0 [] (World.ownsRow_nil w _ e i.size) a m c news hl hnews h1 (by unfold maxLen;omega) hbytes (Nat.le_refl _);rw[hr] at hr2;injection hr2 with e1 e2;subst e1;exact fun g hg=>.inr (ho2.lt g hg).1
 by_cases hroom:n+m<=cap
 ·have hfit:n*i.size+news.length<=cur.size:=by rw[hl,hcs,<-Nat.add_mul];exact Nat.mul_le_mul_right _ hroom
  rw[run_append_room (P:=P) w t ty e i ht hi g n cap cur hg a m c news hl hnews h1 hroom hfit] at hr;injection hr with e1 e2;subst e1;exact fun q hq=>.inl hq
 rw[run_append_grow (P:=P) w t ty e i z ht hi hz ⟨g,0,none⟩ n cap xs h0.1 (h0.cells (g:=g) rfl) a m c news hl hnews (by omega) (by omega) (growslice_fits (by omega) hbytes)] at hr;injection hr with e1 e2;subst e1;intro q hq;injection hq with hq;exact .inr (by rw[<-hq];exact Nat.le_refl _)
theorem wpList_append_el {P:Program} (w:World) {ops:Array Oper} {rest:List Oper} {o:Oper} {a:Act} {Q:Exit->Act->World->Prop} (hgd:o.guard=none) (s x:Operand) (t:TypeId)
  (ho:o.op=.call { callee:=.builtin .append,args:=#[s,x],argTypes:=#[t,t] })
  (e:TypeId) (ht:P.underlying t=some (.slice e)) {z:Value} {size bytes:Nat} (hinfo:(P.info? e).map (fun i=>(i.zero,i.size,i.bytes))=some (some z,size,bytes)) (hzs:z.cells.size=size) (hsz:0<size) (hby:bytes<=1000)
  (base:Nat) (v:Value) (n:Nat) (xs:List Value) (hs:a.eval s=v) (hown:w.ownsRow base e size v n xs)
  (h:Nat) (T:TypeId) (cs:List Value) (hcs:cs.length=size) (h1:∀ u ∈ cs,u.oneCell'=true) (hx:a.eval x=.slice (some ⟨h,0,none⟩) 1 1) (hc:w.heap[h]?=some (.cells cs.toArray T (0,0)))
  (hlen:n<=1000000) (hbase:base<=w.heap.size)
  (hK:∀ v' w',w'.ownsRow base e size v' (n+1) (xs++cs)->w.grownBy w' v.ownBlock->Fresh w v v'->wpList P ops Q rest (a.put o.dst v') w'):wpList P ops Q (o::rest) a w:=by
 obtain⟨i,hi,hz,hz1,hz2⟩:=info_parts hinfo;subst hz1 hz2;have hnews:∀ j u,cs[j]?=some u->w.cell? ((⟨h,0,none⟩:Addr).add j)=some u:=fun j u hj=>World.news_of_block hc j u (by simpa using hj)
 have hb2:(n+1)*i.bytes<=140737488355328:=Nat.le_trans (Nat.mul_le_mul (show n+1<=1000001 by omega) hby) (by decide);refine wpList_plain hgd fun K hk=>?_
 obtain⟨v',w',hr,h2,h3,h4⟩:=run_append_own (P:=P) w base t o.type e i z i.size i.bytes ht hi hz rfl rfl hzs hsz v n xs hown ⟨h,0,none⟩ 1 1 cs (by rw[hcs,Nat.one_mul]) hnews h1 (by unfold maxLen;omega) hb2 hbase;have hf:=append_fresh ht hi hz hown (c:=1) (m:=1) (by rw[hcs,Nat.one_mul]) hnews h1 (by omega) hb2 (by decide) hzs hsz hr;unfold Oper.wp execOp;simp only[ho,resolve,invoke,builtin,Sem.run_bind,Sem.run_pure,Result.andThen_ok,List.map_toArray,List.map_cons,List.map_nil,hs,hx,hr];exact hk _ _ (hK v' w' h2 h3 hf)
theorem flat_len (ys:List X):(ys.flatMap xc).length=ys.length*8:=by
 induction ys with
 | nil=>rfl
 | cons t ts ih=>simp only[List.flatMap_cons,lsa,ih,lsc,xc];simp;omega
theorem flat_at (ys:List X) (k j:Nat) (hk:k<ys.length) (hj:j<8):(ys.flatMap xc)[k*8+j]?=(xc ys[k])[j]?:=by
 induction ys generalizing k with
 | nil=>simp at hk
 | cons t ts ih =>
  have hl:(xc t).length=8:=rfl
  cases k with
  | zero=>simp only[List.flatMap_cons,List.getElem_cons_zero];rw[List.getElem?_append_left (by omega)];simp
  | succ k =>
   simp only[List.flatMap_cons,List.getElem_cons_succ];rw[List.getElem?_append_right (by omega),<-ih k (by simpa using hk),hl]
   congr 1;omega
theorem add_lit (g o i:Nat):(⟨g,o,none⟩:Addr).add i=⟨g,o+i,none⟩:=by simp[Addr.add]
theorem own_at {w:World} {base:Nat} {e:TypeId} {ko:Option Addr} {n kc:Nat} {ys:List X} (h:w.ownsRow base e 8 (.slice ko n kc) n (ys.flatMap xc)) (i:Nat) (hi:i<ys.length):At8 w ko i ys[i]:=by
 have hn:ys.length*8=n*8:=by rw[<-flat_len];exact h.1
 have h0:=h;rcases h.2 with ⟨hv,h1⟩ | ⟨g,cap,cur,hv,hb,hg,h1,h2,h3,h4⟩
 ·omega
 injection hv with e1 e2 e3;subst e1 e3;refine⟨_,rfl,fun j v hj=>?_⟩;have hj8:j<8:=by have:=(List.getElem?_eq_some_iff.1 hj).1;simpa [xc] using this
 rw[add_lit,add_lit,Nat.zero_add,World.ownsRow.cellAt h0 (i*8+j) (by omega),flat_at ys i j hi hj8];exact hj
theorem own_form {w:World} {base:Nat} {e:TypeId} {size:Nat} {v:Value} {n:Nat} {xs:List Value} (h:w.ownsRow base e size v n xs):∃ ko kc,v=.slice ko n kc/\n<=kc:=by
 rcases h.2 with ⟨rfl,rfl⟩ | ⟨g,cap,cur,rfl,_,_,h1,_⟩
 ·exact⟨_,_,rfl,Nat.le_refl _⟩
 exact⟨_,_,rfl,h1⟩
mutual
def Um (w:World) (S:Nat->Prop):X->U->Prop
 | x,.node k nm ot z ln cl ks=>(x.k=(k:Int)/\x.nm=⟨nm.toArray⟩/\x.ot=⟨ot.toArray⟩/\x.b=false/\x.ln=(ln:Int)/\x.cl=(cl:Int))/\(Sl w .u32 (.slice x.ao x.n x.c) (dig L32 z)/\(x.n≠0->∀ a,x.ao=some a->S a.block)) /\
   (x.kn=ks.length/\(x.kn<=x.kc/\x.kc<=maxLen)/\(x.kn≠0->∀ a,x.ko=some a->S a.block))/\Ums w S x.ko 0 ks
def Ums (w:World) (S:Nat->Prop):Option Addr->Nat->List U->Prop
 | _,_,[]=>True
 | ko,i,u::us=>(∃ y,At8 w ko i y/\Um w S y u)/\Ums w S ko (i+1) us
end
mutual
theorem Um.keep {w w':World} {S:Nat->Prop} (hk:∀ g,S g->w'.heap[g]?=w.heap[g]?):∀ {x:X} {u:U},Um w S x u->Um w' S x u
 | x,.node k nm ot z ln cl ks,h=>by
  rw[Um] at h ⊢;obtain⟨h1,⟨h2,h3⟩,⟨h4,h5,h6⟩,h7⟩:=h;refine⟨h1,⟨h2.keep fun h0 a ha=>hk _ (h3 h0 a ha),h3⟩,⟨h4,h5,h6⟩,?_⟩
  by_cases h0:ks.length=0
  ·rw[List.eq_nil_of_length_eq_zero h0,Ums];trivial
  exact Ums.keep hk (fun a ha=>h6 (by omega) a ha) h7
theorem Ums.keep {w w':World} {S:Nat->Prop} (hk:∀ g,S g->w'.heap[g]?=w.heap[g]?):∀ {ko:Option Addr} {i:Nat} {us:List U},(∀ a,ko=some a->S a.block)->Ums w S ko i us->Ums w' S ko i us
 | _,_,[],_,_=>by rw[Ums];trivial
 | ko,i,u::us,hko,h=>by
  rw[Ums] at h ⊢;obtain⟨⟨y,h1,h2⟩,h3⟩:=h;exact⟨⟨y,h1.keep fun a ha=>hk _ (hko a ha),Um.keep hk h2⟩,Ums.keep hk hko h3⟩
end
mutual
theorem Um.mono {w:World} {S S':Nat->Prop} (hs:∀ g,S g->S' g):∀ {x:X} {u:U},Um w S x u->Um w S' x u
 | x,.node k nm ot z ln cl ks,h=>by
  rw[Um] at h ⊢;obtain⟨h1,⟨h2,h3⟩,⟨h4,h5,h6⟩,h7⟩:=h;exact⟨h1,⟨h2,fun h0 a ha=>hs _ (h3 h0 a ha)⟩,⟨h4,h5,fun h0 a ha=>hs _ (h6 h0 a ha)⟩,Ums.mono hs h7⟩
theorem Ums.mono {w:World} {S S':Nat->Prop} (hs:∀ g,S g->S' g):∀ {ko:Option Addr} {i:Nat} {us:List U},Ums w S ko i us->Ums w S' ko i us
 | _,_,[],_=>by rw[Ums];trivial
 | ko,i,u::us,h=>by
  rw[Ums] at h ⊢;obtain⟨⟨y,h1,h2⟩,h3⟩:=h;exact⟨⟨y,h1,Um.mono hs h2⟩,Ums.mono hs h3⟩
end
theorem sl_lt {w:World} {k:IntKind} {ao:Option Addr} {n c:Nat} {xs:List Nat} (h:Sl w k (.slice ao n c) xs) (h0:n≠0) (a:Addr) (ha:ao=some a):a.block<w.heap.size:=by
 obtain⟨ao',cap,e,-,-,-,q⟩:=h;injection e with e1 e2 e3;obtain⟨b,hb,hc⟩:=q 0 (by omega);have:b=a:=by rw[ha] at e1;rw[<-e1] at hb;injection hb with hb;exact hb.symm
 subst this;have:=cell_lt hc
 rwa [add_block] at this
mutual
theorem Um.lt {w:World} {S:Nat->Prop}:∀ {x:X} {u:U},Um w S x u->Um w (fun g=>S g/\g<w.heap.size) x u
 | x,.node k nm ot z ln cl ks,h=>by
  rw[Um] at h ⊢;obtain⟨h1,⟨h2,h3⟩,⟨h4,h5,h6⟩,h7⟩:=h;refine⟨h1,⟨h2,fun h0 a ha=>⟨h3 h0 a ha,sl_lt h2 h0 a ha⟩⟩,⟨h4,h5,fun h0 a ha=>⟨h6 h0 a ha,?_⟩⟩,Ums.lt h7⟩
  match ks,h4,h7 with
  | [],h4,_=>simp at h4;exact absurd h4 h0
  | u::us,_,h7 =>
   rw[Ums] at h7;obtain⟨⟨y,a1,-⟩,-⟩:=h7;exact a1.lt a ha
theorem Ums.lt {w:World} {S:Nat->Prop}:∀ {ko:Option Addr} {i:Nat} {us:List U},Ums w S ko i us->Ums w (fun g=>S g/\g<w.heap.size) ko i us
 | _,_,[],_=>by rw[Ums];trivial
 | ko,i,u::us,h=>by
  rw[Ums] at h ⊢;obtain⟨⟨y,h1,h2⟩,h3⟩:=h;exact⟨⟨y,h1,Um.lt h2⟩,Ums.lt h3⟩
end
theorem Um.below {w w':World} {S:Nat->Prop} {x:X} {u:U} (h:Um w S x u) (hb:Below w.heap.size w w'):Um w' S x u:=
 (h.lt.keep fun g hg=>hb.block g hg.2).mono fun _ h=>h.1
theorem Um.grown {w w':World} {S:Nat->Prop} {x:X} {u:U} {g:Nat} (h:Um w S x u) (hg:w.grownBy w' (some g)) (hS:¬ S g):Um w' S x u:=
 (h.lt.keep fun q hq=>hg.block q hq.2 (fun e=>by injection e with e;exact hS (e ▸ hq.1))).mono fun _ h=>h.1
theorem Um.off {w:World} {S:Nat->Prop} {x:X} {u:U} (h:Um w S x u):Um w (fun g=>S g/\g≠w.heap.size) x u:=h.lt.mono fun g hg=>⟨hg.1,by omega⟩
theorem ums_get {w:World} {S:Nat->Prop}:∀ {ko:Option Addr} {us:List U} (i j:Nat),Ums w S ko i us->∀ (h:j<us.length),∃ y,At8 w ko (i+j) y/\Um w S y us[j]
 | _,[],_,_,_,h=>by simp at h
 | ko,u::us,i,0,hu,h=>by rw[Ums] at hu;exact hu.1
 | ko,u::us,i,j+1,hu,h=>by
  rw[Ums] at hu;have:=ums_get (i+1) j hu.2 (by simpa using h);rw[show i+(j+1)=i+1+j by omega];exact this
theorem ums_of {w:World} {S:Nat->Prop}:∀ {ko:Option Addr} {us:List U} (i:Nat),(∀ j (h:j<us.length),∃ y,At8 w ko (i+j) y/\Um w S y us[j])->Ums w S ko i us
 | _,[],_,_=>by rw[Ums];trivial
 | ko,u::us,i,h=>by
  rw[Ums];refine⟨h 0 (by simp),ums_of (i+1) fun j hj=>?_⟩;have:=h (j+1) (by simpa using hj);rw[show i+1+j=i+(j+1) by omega];exact this
theorem um_zero (w:World) (S:Nat->Prop):Um w S ⟨0,⟨#[]⟩,⟨#[]⟩,false,none,0,0,none,0,0,0,0⟩ u0:=by
 unfold u0;rw[Um];refine⟨⟨rfl,rfl,rfl,rfl,rfl,rfl⟩,⟨?_,fun h=>absurd rfl h⟩,⟨rfl,⟨Nat.le_refl _,Nat.zero_le _⟩,fun h=>absurd rfl h⟩,by rw[Ums];trivial⟩;rw[dig_zero];exact⟨none,0,rfl,Nat.le_refl _,by omega,fun _=>rfl,fun i hi=>by simp at hi⟩
theorem isL_int (c:UInt8):isL c=((decide (97<=(c.toNat:Int)) && decide ((c.toNat:Int)<=122)) || (decide (65<=(c.toNat:Int)) && decide ((c.toNat:Int)<=90)) || ((c.toNat:Int)==95)):=by
 have e:(c==95)=((c.toNat:Int)==95):=by
  rw[Bool.eq_iff_iff,beq_iff_eq,beq_iff_eq,<-UInt8.toNat_inj];constructor<;>intro h
  ·rw[h];rfl
  have:(95:UInt8).toNat=95:=rfl
  omega
 have f:∀ a b:UInt8,(decide (a<=b))=decide ((a.toNat:Int)<=(b.toNat:Int)):=by
  intro a b;rw[Bool.eq_iff_iff];simp[UInt8.le_iff_toNat_le]
 unfold isL;rw[e,f,f,f,f];rfl
theorem isD_int (c:UInt8):isD c=(decide (48<=(c.toNat:Int)) && decide ((c.toNat:Int)<=57)):=by
 have f:∀ a b:UInt8,(decide (a<=b))=decide ((a.toNat:Int)<=(b.toNat:Int)):=by
  intro a b;rw[Bool.eq_iff_iff];simp[UInt8.le_iff_toNat_le]
 unfold isD;rw[f,f];rfl
theorem ret_bool {a b:Bool} (h:a=b):Ending.returned (.bool a)=.returned (.bool b):=by rw[h]
theorem ret_i64 {a b:Int} (h:a=b):Ending.returned (.int .i64 a)=.returned (.int .i64 b):=by rw[h]
theorem isLetter_any (c:UInt8) (w:World) :
  Calls Tryz.prog 96 #[.int .u8 (c.toNat:Int)] w fun e w'=>e=.returned (.bool (isL c))/\w'=w:=by
 rw[isL_int];go_enter Tryz.func96,Tryz.ntmps96
 go_wp2
 all_goals (go_ret;refine⟨ret_bool ?_,rfl⟩;(first | (simp[*];done) | (rw[Bool.eq_iff_iff];simp;omega)))
theorem isDigit_any (c:UInt8) (w:World) :
  Calls Tryz.prog 98 #[.int .u8 (c.toNat:Int)] w fun e w'=>e=.returned (.bool (isD c))/\w'=w:=by
 rw[isD_int];go_enter Tryz.func98,Tryz.ntmps98
 go_wp2
 all_goals (go_ret;refine⟨ret_bool ?_,rfl⟩;first | (simp[*];done) | (simp[*];omega))
theorem isLD_any (c:UInt8) (w:World) :
  Calls Tryz.prog 108 #[.int .u8 (c.toNat:Int)] w fun e w'=>e=.returned (.bool (isLD c))/\w'=w:=by
 have e:isLD c=(isL c || isD c):=rfl;go_enter Tryz.func108,Tryz.ntmps108
 cases h:isL c
 ·go_wp2_with (first | (go_at_call 96;refine (isLetter_any c _).mono ?_;rintro e w' ⟨rfl,rfl⟩) | (go_at_call 98;refine (isDigit_any c _).mono ?_;rintro e w' ⟨rfl,rfl⟩))
  all_goals (go_ret;refine⟨?_,rfl⟩;simp[*])
 go_wp2_with (first | (go_at_call 96;refine (isLetter_any c _).mono ?_;rintro e w' ⟨rfl,rfl⟩) | (go_at_call 98;refine (isDigit_any c _).mono ?_;rintro e w' ⟨rfl,rfl⟩))
 all_goals (go_ret;refine⟨?_,rfl⟩;simp[*])
theorem span_ld (l:Bs) (w:World) (hl:l.length<=1000000000) :
  Calls Tryz.prog 107 #[.string ⟨l.toArray⟩,.func (.func 108) #[] #[]] w fun e w'=>e=.returned (.int .i64 (spn isLD l:Nat))/\w'=w:=by
 have hsz:(⟨l.toArray⟩:ByteArray).size=l.length:=rfl;go_enter Tryz.func107,Tryz.ntmps107
 go_wp2
 go_loopw [5] (fun i wr=>∃ k:Nat,i=.int .i64 k/\k<=l.length/\Hid (spn isLD l=k+spn isLD (l.drop k))/\wr=w) (fun i _=>l.length - (intOf i).toNat)
 case atStart=>exact⟨0,rfl,Nat.zero_le _,Lib.hid (by simp),rfl⟩
 case round =>
  obtain⟨k,rfl,hk,HS,rfl⟩:=hrel
  by_cases hlt:k<l.length
  ·cases hp:isLD ((⟨l.toArray⟩:ByteArray)[k]'hlt)
   ·have HS0:=Lib.hid (spn_stop hlt hp);go_wp2_with (go_at_call 108;refine (isLD_any _ _).mono ?_;rintro e w' ⟨rfl,rfl⟩)
    go_ret
    exact⟨ret_i64 (by rw[HS.out,HS0.out];rfl),rfl⟩
   have HS1:=Lib.hid (spn_step hlt hp);go_wp2_with (go_at_call 108;refine (isLD_any _ _).mono ?_;rintro e w' ⟨rfl,rfl⟩)
   go_roundw
   case rel=>exact⟨k+1,by go_num,by omega,Lib.hid (by rw[HS.out,HS1.out];omega),by trivial⟩
   case measure=>simp[intOf];omega
  have hk0:l.length<=k:=by omega
  have HS0:=Lib.hid (spn_end (p:=isLD) hk0)
  go_wp2
  go_ret
  exact⟨ret_i64 (by rw[HS.out,HS0.out];rfl),rfl⟩
theorem span_d (l:Bs) (w:World) (hl:l.length<=1000000000) :
  Calls Tryz.prog 107 #[.string ⟨l.toArray⟩,.func (.func 98) #[] #[]] w fun e w'=>e=.returned (.int .i64 (spn isD l:Nat))/\w'=w:=by
 have hsz:(⟨l.toArray⟩:ByteArray).size=l.length:=rfl;go_enter Tryz.func107,Tryz.ntmps107
 go_wp2
 go_loopw [5] (fun i wr=>∃ k:Nat,i=.int .i64 k/\k<=l.length/\Hid (spn isD l=k+spn isD (l.drop k))/\wr=w) (fun i _=>l.length - (intOf i).toNat)
 case atStart=>exact⟨0,rfl,Nat.zero_le _,Lib.hid (by simp),rfl⟩
 case round =>
  obtain⟨k,rfl,hk,HS,rfl⟩:=hrel
  by_cases hlt:k<l.length
  ·cases hp:isD ((⟨l.toArray⟩:ByteArray)[k]'hlt)
   ·have HS0:=Lib.hid (spn_stop hlt hp);go_wp2_with (go_at_call 98;refine (isDigit_any _ _).mono ?_;rintro e w' ⟨rfl,rfl⟩)
    go_ret
    exact⟨ret_i64 (by rw[HS.out,HS0.out];rfl),rfl⟩
   have HS1:=Lib.hid (spn_step hlt hp);go_wp2_with (go_at_call 98;refine (isDigit_any _ _).mono ?_;rintro e w' ⟨rfl,rfl⟩)
   go_roundw
   case rel=>exact⟨k+1,by go_num,by omega,Lib.hid (by rw[HS.out,HS1.out];omega),by trivial⟩
   case measure=>simp[intOf];omega
  have hk0:l.length<=k:=by omega
  have HS0:=Lib.hid (spn_end (p:=isD) hk0)
  go_wp2
  go_ret
  exact⟨ret_i64 (by rw[HS.out,HS0.out];rfl),rfl⟩
theorem index_spn (l:Bs):Lib.indexByte l 10=if spn notNl l<l.length then (spn notNl l:Int) else -1:=by
 induction l with
 | nil=>rfl
 | cons c l ih =>
  by_cases h:c=10
  ·subst h;simp[Lib.indexByte,spn,notNl]
  have h1:notNl c=true:=by simp[notNl,h]
  have h2:(c==10)=false:=by simp[h]
  simp only[Lib.indexByte,spn,h1,h2,if_true,ih,lsc]
  by_cases hx:spn notNl l<l.length
  ·have hy:spn notNl l+1<l.length+1:=by omega
   have:(((spn notNl l:Nat):Int) == -1)=false:=by rw[beq_eq_false_iff_ne];omega
   simp only[if_pos hx,if_pos hy,this]
   simp
  have hy:¬ spn notNl l+1<l.length+1:=by omega
  simp only[if_neg hx,if_neg hy];rfl
theorem comment_any (l:Bs) (w:World) :
  Calls Tryz.prog 95 #[.string ⟨l.toArray⟩] w fun e w'=>e=.returned (.int .i64 (spn notNl l:Nat))/\w'=w:=by
 have hsz:(⟨l.toArray⟩:ByteArray).size=l.length:=rfl;have hle:=spn_le notNl l
 by_cases hx:spn notNl l<l.length
 ·have hi:Lib.indexByte l ((10:Int).toNat.toUInt8)=(spn notNl l:Int):=by rw[show (10:Int).toNat.toUInt8=10 from rfl,index_spn,if_pos hx]
  have hc:=Tryz.strings_IndexByte ⟨l.toArray⟩ 10 w;rw[show (⟨l.toArray⟩:ByteArray).data.toList=l from rfl,hi] at hc;have H:=Lib.hid hc;clear hc hi;go_enter Tryz.func95,Tryz.ntmps95
  go_wp2_with (go_at_call 106;refine H.out.mono ?_;rintro e w' ⟨rfl,rfl⟩)
  go_ret
  exact⟨rfl,rfl⟩
 have hi:Lib.indexByte l ((10:Int).toNat.toUInt8) = -1:=by rw[show (10:Int).toNat.toUInt8=10 from rfl,index_spn,if_neg hx]
 have hc:=Tryz.strings_IndexByte ⟨l.toArray⟩ 10 w;rw[show (⟨l.toArray⟩:ByteArray).data.toList=l from rfl,hi] at hc;have H:=Lib.hid hc;clear hc hi;have he:l.length=spn notNl l:=by omega
 have H2:=Lib.hid he;clear he;go_enter Tryz.func95,Tryz.ntmps95
 go_wp2_with (go_at_call 106;refine H.out.mono ?_;rintro e w' ⟨rfl,rfl⟩)
 go_ret
 exact⟨ret_i64 (by rw[H2.out]),rfl⟩
theorem byte_is (c x:UInt8):((c.toNat:Int)==(x.toNat:Int))=(c==x):=by
 rw[Bool.eq_iff_iff,beq_iff_eq,beq_iff_eq,<-UInt8.toNat_inj];omega
theorem byte_yes {c:UInt8} (x:UInt8) (h:c=x):((c.toNat:Int)==(x.toNat:Int))=true:=by rw[byte_is,h];simp
theorem byte_no {c:UInt8} (x:UInt8) (h:c≠x):((c.toNat:Int)==(x.toNat:Int))=false:=by rw[byte_is];simpa using h
theorem blk_ways {c:UInt8} (h:blk c=true):((c.toNat:Int)==32)=true\/(((c.toNat:Int)==32)=false/\((c.toNat:Int)==9)=true)\/(((c.toNat:Int)==32)=false/\((c.toNat:Int)==9)=false/\((c.toNat:Int)==10)=true)\/(((c.toNat:Int)==32)=false/\((c.toNat:Int)==9)=false/\((c.toNat:Int)==10)=false/\((c.toNat:Int)==13)=true):=by
 have h':c=32\/c=9\/c=10\/c=13:=by simpa [blk,or_assoc] using h
 rcases h' with rfl | rfl | rfl | rfl
 ·exact .inl rfl
 ·exact .inr (.inl ⟨rfl,rfl⟩)
 ·exact .inr (.inr (.inl ⟨rfl,rfl,rfl⟩))
 exact .inr (.inr (.inr ⟨rfl,rfl,rfl,rfl⟩))
theorem blk_not {c:UInt8} (h:blk c=false):((c.toNat:Int)==32)=false/\((c.toNat:Int)==9)=false/\((c.toNat:Int)==10)=false/\((c.toNat:Int)==13)=false:=by
 have h':¬ (c=32\/c=9\/c=10\/c=13):=by
  intro e;have:blk c=true:=by rcases e with rfl | rfl | rfl | rfl<;>rfl
  rw[h] at this;cases this
 exact⟨byte_no 32 (fun e=>h' (by simp[e])),byte_no 9 (fun e=>h' (by simp[e])),byte_no 10 (fun e=>h' (by simp[e])),byte_no 13 (fun e=>h' (by simp[e]))⟩
theorem blanks_any (l:Bs) (w:World) (hl:l.length<=1000000000) :
  Calls Tryz.prog 82 #[.string ⟨l.toArray⟩] w fun e w'=>e=.returned (.int .i64 (gapL false l:Nat))/\w'=w:=by
 have hsz:(⟨l.toArray⟩:ByteArray).size=l.length:=rfl;go_enter Tryz.func82,Tryz.ntmps82
 go_wp2
 go_loopw [3] (fun i wr=>∃ k:Nat,i=.int .i64 k/\k<=l.length/\Hid (gapL false l=k+gapL false (l.drop k))/\wr=w) (fun i _=>l.length - (intOf i).toNat)
 case atStart=>exact⟨0,rfl,Nat.zero_le _,Lib.hid (by simp),rfl⟩
 case round =>
  obtain⟨k,rfl,hk,HS,rfl⟩:=hrel
  by_cases hlt:k<l.length
  ·by_cases hb:blk (l[k]'hlt)=true
   ·have hs:=Lib.hid (gap_blank hlt hb);have hb':=blk_ways (c:=(⟨l.toArray⟩:ByteArray)[k]'hlt) hb;clear hb;rcases hb' with h1 | ⟨h1,h2⟩ | ⟨h1,h2,h3⟩ | ⟨h1,h2,h3,h4⟩
    all_goals
     go_wp2
     go_roundw
     case rel=>exact⟨k+1,by go_num,by omega,Lib.hid (by rw[HS.out,hs.out];omega),by trivial⟩
     case measure=>simp[intOf];omega
   have hb0:blk (l[k]'hlt)=false:=by simpa using hb
   obtain⟨n1,n2,n3,n4⟩:=blk_not (c:=(⟨l.toArray⟩:ByteArray)[k]'hlt) hb0
   by_cases hh:(l[k]'hlt)=35
   ·have h35:((((⟨l.toArray⟩:ByteArray)[k]'hlt).toNat:Int)==35)=true:=byte_yes (c:=(⟨l.toArray⟩:ByteArray)[k]'hlt) 35 hh;have hs:=Lib.hid (gap_cmt' hlt hh);have hpos:0<spn notNl (l.drop k):=by rw[spn_step hlt (by rw[hh];rfl)];omega
    have hle:=spn_le notNl (l.drop k);rw[List.length_drop] at hle;have HD:=Lib.hid (extract_drop l k);clear hb hb0 hh;go_wp2_with fail
    rw[HD.out];refine (comment_any _ _).mono ?_;rintro e w' ⟨rfl,rfl⟩
    go_wp2
    go_roundw
    case rel=>exact⟨k+spn notNl (l.drop k),by go_num,by omega,Lib.hid (by rw[HS.out,hs.out];omega),by trivial⟩
    case measure=>simp[intOf];omega
   have h35:((((⟨l.toArray⟩:ByteArray)[k]'hlt).toNat:Int)==35)=false:=byte_no (c:=(⟨l.toArray⟩:ByteArray)[k]'hlt) 35 hh;have hs:=Lib.hid (gap_stop hlt hb0 hh);clear hb hb0 hh
   go_wp2
   go_ret
   exact⟨ret_i64 (by rw[HS.out,hs.out];rfl),rfl⟩
  have hk0:l.length<=k:=by omega
  have HS0:=Lib.hid (gap_end (b:=false) hk0)
  go_wp2
  go_ret
  exact⟨ret_i64 (by rw[HS.out,HS0.out];rfl),rfl⟩
def pl (l:Bs) (b:UInt8) (n:Nat):Nat:=if l[1]?=some b then 2 else n
theorem pair_any (l:Bs) (b:UInt8) (n:Nat) (bi ni:Int) (hb:bi=(b.toNat:Int)) (hn:ni=(n:Int)) (hl:l.length<=1000000000) (w:World) :
  Calls Tryz.prog 110 #[.string ⟨l.toArray⟩,.int .u8 bi,.int .i64 ni] w fun e w'=>e=.returned (.int .i64 (pl l b n:Nat))/\w'=w:=by
 have hsz:(⟨l.toArray⟩:ByteArray).size=l.length:=rfl;subst hb hn
 by_cases h1:1<l.length
 ·by_cases h2:(l[1]'h1)=b
  ·have H:=Lib.hid (show pl l b n=2 by unfold pl;rw[List.getElem?_eq_getElem h1,h2,if_pos rfl]);have h3:(((((⟨l.toArray⟩:ByteArray)[1]'h1).toNat:Int))==(b.toNat:Int))=true:=byte_yes (c:=(⟨l.toArray⟩:ByteArray)[1]'h1) b h2;clear h2;go_enter Tryz.func110,Tryz.ntmps110
   go_wp2
   go_ret
   exact⟨ret_i64 (by rw[H.out];rfl),rfl⟩
  have H:=Lib.hid (show pl l b n=n by unfold pl;rw[List.getElem?_eq_getElem h1,if_neg (fun e=>h2 (by injection e))]);have h3:(((((⟨l.toArray⟩:ByteArray)[1]'h1).toNat:Int))==(b.toNat:Int))=false:=byte_no (c:=(⟨l.toArray⟩:ByteArray)[1]'h1) b h2;clear h2;go_enter Tryz.func110,Tryz.ntmps110
  go_wp2
  go_ret
  exact⟨ret_i64 (by rw[H.out]),rfl⟩
 have H:=Lib.hid (show pl l b n=n by unfold pl;rw[List.getElem?_eq_none (by omega)];rfl);have h1':l.length<=1:=by omega
 clear h1;go_enter Tryz.func110,Tryz.ntmps110
 go_wp2
 go_ret
 exact⟨ret_i64 (by rw[H.out]),rfl⟩
theorem of_is {a:UInt8} (x:UInt8) (h:((a.toNat:Int)==(x.toNat:Int))=true):a=x:=by rw[byte_is] at h;simpa using h
theorem sgn_alone {a:UInt8} (r:Bs) (h:((a.toNat:Int)==40)=true\/((a.toNat:Int)==41)=true\/((a.toNat:Int)==123)=true\/((a.toNat:Int)==125)=true\/((a.toNat:Int)==44)=true\/((a.toNat:Int)==59)=true\/((a.toNat:Int)==61)=true\/((a.toNat:Int)==43)=true\/((a.toNat:Int)==42)=true\/((a.toNat:Int)==47)=true\/((a.toNat:Int)==37)=true):sgn (a::r)=1:=by
 have h':a=40\/a=41\/a=123\/a=125\/a=44\/a=59\/a=61\/a=43\/a=42\/a=47\/a=37:=by
  rcases h with h | h | h | h | h | h | h | h | h | h | h
  ·exact .inl (of_is 40 h)
  ·exact .inr (.inl (of_is 41 h))
  ·exact .inr (.inr (.inl (of_is 123 h)))
  ·exact .inr (.inr (.inr (.inl (of_is 125 h))))
  ·exact .inr (.inr (.inr (.inr (.inl (of_is 44 h)))))
  ·exact .inr (.inr (.inr (.inr (.inr (.inl (of_is 59 h))))))
  ·exact .inr (.inr (.inr (.inr (.inr (.inr (.inl (of_is 61 h)))))))
  ·exact .inr (.inr (.inr (.inr (.inr (.inr (.inr (.inl (of_is 43 h))))))))
  ·exact .inr (.inr (.inr (.inr (.inr (.inr (.inr (.inr (.inl (of_is 42 h)))))))))
  ·exact .inr (.inr (.inr (.inr (.inr (.inr (.inr (.inr (.inr (.inl (of_is 47 h))))))))))
  exact .inr (.inr (.inr (.inr (.inr (.inr (.inr (.inr (.inr (.inr ((of_is 37 h)))))))))))
 rcases h' with rfl | rfl | rfl | rfl | rfl | rfl | rfl | rfl | rfl | rfl | rfl<;>cases r<;>simp[sgn,pairB,sglB]
theorem sgn_none {a:UInt8} (r:Bs) (h:((a.toNat:Int)==91)=false/\((a.toNat:Int)==38)=false/\((a.toNat:Int)==58)=false/\((a.toNat:Int)==124)=false/\((a.toNat:Int)==45)=false/\((a.toNat:Int)==60)=false/\((a.toNat:Int)==62)=false/\((a.toNat:Int)==40)=false/\((a.toNat:Int)==41)=false/\((a.toNat:Int)==123)=false/\((a.toNat:Int)==125)=false/\((a.toNat:Int)==44)=false/\((a.toNat:Int)==59)=false/\((a.toNat:Int)==61)=false/\((a.toNat:Int)==43)=false/\((a.toNat:Int)==42)=false/\((a.toNat:Int)==47)=false/\((a.toNat:Int)==37)=false):sgn (a::r)=0:=by
 have hx:∀ x:UInt8,((a.toNat:Int)==(x.toNat:Int))=false->(a==x)=false:=fun x h=>by rwa [byte_is] at h
 obtain⟨h91,h38,h58,h124,h45,h60,h62,h40,h41,h123,h125,h44,h59,h61,h43,h42,h47,h37⟩:=h;replace h91:=hx 91 h91;replace h38:=hx 38 h38;replace h58:=hx 58 h58;replace h124:=hx 124 h124;replace h45:=hx 45 h45;replace h60:=hx 60 h60;replace h62:=hx 62 h62;replace h40:=hx 40 h40;replace h41:=hx 41 h41;replace h123:=hx 123 h123;replace h125:=hx 125 h125;replace h44:=hx 44 h44;replace h59:=hx 59 h59;replace h61:=hx 61 h61;replace h43:=hx 43 h43;replace h42:=hx 42 h42;replace h47:=hx 47 h47;replace h37:=hx 37 h37
 cases r<;>simp only[sgn,pairB,sglB,h91,h38,h58,h124,h45,h60,h62,h40,h41,h123,h125,h44,h59,h61,h43,h42,h47,h37]<;>simp
theorem sgn_p91 (r:Bs):pl (91::r) 93 0=sgn (91::r):=by
 cases r with
 | nil=>rfl
 | cons b r=>simp only[pl,sgn,pairB,sglB,gsc,gsz,Option.some.injEq];by_cases h:b=93<;>simp[h]
theorem sgn_p38 (r:Bs):pl (38::r) 38 0=sgn (38::r):=by
 cases r with
 | nil=>rfl
 | cons b r=>simp only[pl,sgn,pairB,sglB,gsc,gsz,Option.some.injEq];by_cases h:b=38<;>simp[h]
theorem sgn_p58 (r:Bs):pl (58::r) 58 1=sgn (58::r):=by
 cases r with
 | nil=>rfl
 | cons b r=>simp only[pl,sgn,pairB,sglB,gsc,gsz,Option.some.injEq];by_cases h:b=58<;>simp[h]
theorem sgn_p124 (r:Bs):pl (124::r) 124 1=sgn (124::r):=by
 cases r with
 | nil=>rfl
 | cons b r=>simp only[pl,sgn,pairB,sglB,gsc,gsz,Option.some.injEq];by_cases h:b=124<;>simp[h]
theorem sgn_p45 (r:Bs):pl (45::r) 62 1=sgn (45::r):=by
 cases r with
 | nil=>rfl
 | cons b r=>simp only[pl,sgn,pairB,sglB,gsc,gsz,Option.some.injEq];by_cases h:b=62<;>simp[h]
theorem sgn_p62 (r:Bs):pl (62::r) 61 1=sgn (62::r):=by
 cases r with
 | nil=>rfl
 | cons b r=>simp only[pl,sgn,pairB,sglB,gsc,gsz,Option.some.injEq];by_cases h:b=61<;>simp[h]
theorem sgn_p60 (r:Bs):sgn (60::r)=if Lib.hasPrefix (60::r) [60,62] then 2 else pl (60::r) 61 1:=by
 cases r with
 | nil=>rfl
 | cons b r =>
  simp only[pl,sgn,pairB,sglB,gsc,gsz,Option.some.injEq,Lib.hasPrefix,List.isPrefixOf]
  by_cases h:b=62
  ·simp[h]
  have h':¬ 62=b:=fun e=>h e.symm
  by_cases h2:b=61<;>simp[h,h',h2]
theorem sign_any (a:UInt8) (r:Bs) (hl:(a::r).length<=1000000000) (w:World) :
  Calls Tryz.prog 100 #[.string ⟨(a::r).toArray⟩] w fun e w'=>e=.returned (.int .i64 (sgn (a::r):Nat))/\w'=w:=by
 obtain⟨l,hL⟩:∃ l,l=a::r:=⟨_,rfl⟩
 rw[<-hL] at hl ⊢;have hp:0<l.length:=by rw[hL];simp
 have hsz:(⟨l.toArray⟩:ByteArray).size=l.length:=rfl;have h0:(⟨l.toArray⟩:ByteArray)[0]'hp=a:=by subst hL;rfl
 have HL:=Lib.hid hL;clear hL;go_enter Tryz.func100,Tryz.ntmps100
 go_wp2_with fail
 ·have e:a=91:=of_is 91 (by assumption);have HS:=Lib.hid (sgn_p91 r);refine (pair_any l 93 0 _ _ rfl rfl hl w).mono ?_;rintro e w' ⟨rfl,rfl⟩
  go_wp2
  go_ret
  exact⟨ret_i64 (by rw[HL.out,e];exact congrArg Nat.cast HS.out),rfl⟩
 ·have e:a=38:=of_is 38 (by assumption);have HS:=Lib.hid (sgn_p38 r);refine (pair_any l 38 0 _ _ rfl rfl hl w).mono ?_;rintro e w' ⟨rfl,rfl⟩
  go_wp2
  go_ret
  exact⟨ret_i64 (by rw[HL.out,e];exact congrArg Nat.cast HS.out),rfl⟩
 ·have e:a=58:=of_is 58 (by assumption);have HS:=Lib.hid (sgn_p58 r);refine (pair_any l 58 1 _ _ (by rw[e]) rfl hl w).mono ?_;rintro e w' ⟨rfl,rfl⟩
  go_wp2
  go_ret
  exact⟨ret_i64 (by rw[HL.out,e];exact congrArg Nat.cast HS.out),rfl⟩
 ·have e:a=124:=of_is 124 (by assumption);have HS:=Lib.hid (sgn_p124 r);refine (pair_any l 124 1 _ _ (by rw[e]) rfl hl w).mono ?_;rintro e w' ⟨rfl,rfl⟩
  go_wp2
  go_ret
  exact⟨ret_i64 (by rw[HL.out,e];exact congrArg Nat.cast HS.out),rfl⟩
 ·have e:a=45:=of_is 45 (by assumption);have HS:=Lib.hid (sgn_p45 r);refine (pair_any l 62 1 _ _ rfl rfl hl w).mono ?_;rintro e w' ⟨rfl,rfl⟩
  go_wp2
  go_ret
  exact⟨ret_i64 (by rw[HL.out,e];exact congrArg Nat.cast HS.out),rfl⟩
 ·have e:a=60:=of_is 60 (by assumption);have HS:=Lib.hid (sgn_p60 r);have HE:=Lib.hid e;clear e;refine (Tryz.strings_HasPrefix ⟨l.toArray⟩ ⟨#[60,62]⟩ w).mono ?_;rintro e w' ⟨rfl,rfl⟩;obtain⟨B,hB⟩:∃ B,B=Lib.hasPrefix (⟨l.toArray⟩:ByteArray).data.toList (⟨#[60,62]⟩:ByteArray).data.toList:=⟨_,rfl⟩
  rw[<-hB];have HB:=Lib.hid hB;clear hB
  cases B
  ·go_wp2_with fail
   refine (pair_any l 61 1 _ _ rfl rfl hl _).mono ?_;rintro e w' ⟨rfl,rfl⟩
   go_wp2
   go_ret
   exact⟨ret_i64 (by rw[HL.out,HE.out,HS.out,if_neg (by have:=HB.out;rw[HL.out,HE.out] at this;exact fun h=>Bool.noConfusion (h.symm.trans this.symm))]),rfl⟩
  go_wp2
  go_ret
  exact⟨ret_i64 (by rw[HL.out,HE.out,HS.out,if_pos (by have:=HB.out;rw[HL.out,HE.out] at this;exact this.symm)];rfl),rfl⟩
 ·have e:a=62:=of_is 62 (by assumption);have HS:=Lib.hid (sgn_p62 r);refine (pair_any l 61 1 _ _ rfl rfl hl w).mono ?_;rintro e w' ⟨rfl,rfl⟩
  go_wp2
  go_ret
  exact⟨ret_i64 (by rw[HL.out,e];exact congrArg Nat.cast HS.out),rfl⟩
 all_goals
  go_ret
  refine⟨ret_i64 ?_,rfl⟩;rw[HL.out]
  first
   | (rw[sgn_alone r (by simp only[*,true_or,or_true])];rfl)
   | (rw[sgn_none r ⟨by assumption,by assumption,by assumption,by assumption,by assumption,by assumption,by assumption,by assumption,by assumption,by assumption,by assumption,by assumption,by assumption,by assumption,by assumption,by assumption,by assumption,by assumption⟩];rfl)
theorem isW_mem {w:Bs} (h:w ∈ wds):isW w=true:=List.elem_eq_true_of_mem h
theorem isW_yes {l:Bs} (w:Bs) (hw:isW w=true) (h:(l==w)=true):isW l=true:=by
 rw[beq_iff_eq] at h;rw[h];exact hw
theorem isW_no {l:Bs} (h:(l==[102,117,110])=false/\(l==[113,117,97,108,105,102])=false/\(l==[108,101,116])=false/\(l==[105,110])=false/\(l==[105,102])=false/\(l==[116,104,101,110])=false/\(l==[101,108,115,101])=false/\(l==[109,97,116,99,104])=false/\(l==[119,105,116,104])=false/\(l==[97,115,115,101,114,116])=false/\(l==[110,111,116])=false/\(l==[116,114,117,101])=false/\(l==[102,97,108,115,101])=false/\(l==[105,110,116])=false/\(l==[98,111,111,108])=false/\(l==[108,105,115,116])=false/\(l==[108,101,110])=false/\(l==[104,100])=false/\(l==[116,108])=false/\(l==[118])=false):isW l=false:=by
 obtain⟨h0,h1,h2,h3,h4,h5,h6,h7,h8,h9,h10,h11,h12,h13,h14,h15,h16,h17,h18,h19⟩:=h;simp only[isW,wds,List.contains_cons,List.contains_nil,h0,h1,h2,h3,h4,h5,h6,h7,h8,h9,h10,h11,h12,h13,h14,h15,h16,h17,h18,h19];rfl
theorem isWord_any (l:Bs) (w:World) :
  Calls Tryz.prog 109 #[.string ⟨l.toArray⟩] w fun e w'=>e=.returned (.bool (isW l))/\w'=w:=by
 go_enter Tryz.func109,Tryz.ntmps109
 go_wp2_with fail
 all_goals first
  | exact absurd (Eq.trans (Eq.symm (show (l==[102,117,110])=true by assumption)) (show (l==[102,117,110])=false by assumption)) (by decide)
  | exact absurd (Eq.trans (Eq.symm (show (l==[113,117,97,108,105,102])=true by assumption)) (show (l==[113,117,97,108,105,102])=false by assumption)) (by decide)
  | exact absurd (Eq.trans (Eq.symm (show (l==[108,101,116])=true by assumption)) (show (l==[108,101,116])=false by assumption)) (by decide)
  | exact absurd (Eq.trans (Eq.symm (show (l==[105,110])=true by assumption)) (show (l==[105,110])=false by assumption)) (by decide)
  | exact absurd (Eq.trans (Eq.symm (show (l==[105,102])=true by assumption)) (show (l==[105,102])=false by assumption)) (by decide)
  | exact absurd (Eq.trans (Eq.symm (show (l==[116,104,101,110])=true by assumption)) (show (l==[116,104,101,110])=false by assumption)) (by decide)
  | exact absurd (Eq.trans (Eq.symm (show (l==[101,108,115,101])=true by assumption)) (show (l==[101,108,115,101])=false by assumption)) (by decide)
  | exact absurd (Eq.trans (Eq.symm (show (l==[109,97,116,99,104])=true by assumption)) (show (l==[109,97,116,99,104])=false by assumption)) (by decide)
  | exact absurd (Eq.trans (Eq.symm (show (l==[119,105,116,104])=true by assumption)) (show (l==[119,105,116,104])=false by assumption)) (by decide)
  | exact absurd (Eq.trans (Eq.symm (show (l==[97,115,115,101,114,116])=true by assumption)) (show (l==[97,115,115,101,114,116])=false by assumption)) (by decide)
  | exact absurd (Eq.trans (Eq.symm (show (l==[110,111,116])=true by assumption)) (show (l==[110,111,116])=false by assumption)) (by decide)
  | exact absurd (Eq.trans (Eq.symm (show (l==[116,114,117,101])=true by assumption)) (show (l==[116,114,117,101])=false by assumption)) (by decide)
  | exact absurd (Eq.trans (Eq.symm (show (l==[102,97,108,115,101])=true by assumption)) (show (l==[102,97,108,115,101])=false by assumption)) (by decide)
  | exact absurd (Eq.trans (Eq.symm (show (l==[105,110,116])=true by assumption)) (show (l==[105,110,116])=false by assumption)) (by decide)
  | exact absurd (Eq.trans (Eq.symm (show (l==[98,111,111,108])=true by assumption)) (show (l==[98,111,111,108])=false by assumption)) (by decide)
  | exact absurd (Eq.trans (Eq.symm (show (l==[108,105,115,116])=true by assumption)) (show (l==[108,105,115,116])=false by assumption)) (by decide)
  | exact absurd (Eq.trans (Eq.symm (show (l==[108,101,110])=true by assumption)) (show (l==[108,101,110])=false by assumption)) (by decide)
  | exact absurd (Eq.trans (Eq.symm (show (l==[104,100])=true by assumption)) (show (l==[104,100])=false by assumption)) (by decide)
  | exact absurd (Eq.trans (Eq.symm (show (l==[116,108])=true by assumption)) (show (l==[116,108])=false by assumption)) (by decide)
  | exact absurd (Eq.trans (Eq.symm (show (l==[118])=true by assumption)) (show (l==[118])=false by assumption)) (by decide)
  | (have H:(l==[102,117,110])=true:=(by assumption);go_ret;exact⟨ret_bool (isW_yes [102,117,110] (isW_mem (by simp[wds])) H).symm,rfl⟩)
  | (have H:(l==[113,117,97,108,105,102])=true:=(by assumption);go_ret;exact⟨ret_bool (isW_yes [113,117,97,108,105,102] (isW_mem (by simp[wds])) H).symm,rfl⟩)
  | (have H:(l==[108,101,116])=true:=(by assumption);go_ret;exact⟨ret_bool (isW_yes [108,101,116] (isW_mem (by simp[wds])) H).symm,rfl⟩)
  | (have H:(l==[105,110])=true:=(by assumption);go_ret;exact⟨ret_bool (isW_yes [105,110] (isW_mem (by simp[wds])) H).symm,rfl⟩)
  | (have H:(l==[105,102])=true:=(by assumption);go_ret;exact⟨ret_bool (isW_yes [105,102] (isW_mem (by simp[wds])) H).symm,rfl⟩)
  | (have H:(l==[116,104,101,110])=true:=(by assumption);go_ret;exact⟨ret_bool (isW_yes [116,104,101,110] (isW_mem (by simp[wds])) H).symm,rfl⟩)
  | (have H:(l==[101,108,115,101])=true:=(by assumption);go_ret;exact⟨ret_bool (isW_yes [101,108,115,101] (isW_mem (by simp[wds])) H).symm,rfl⟩)
  | (have H:(l==[109,97,116,99,104])=true:=(by assumption);go_ret;exact⟨ret_bool (isW_yes [109,97,116,99,104] (isW_mem (by simp[wds])) H).symm,rfl⟩)
  | (have H:(l==[119,105,116,104])=true:=(by assumption);go_ret;exact⟨ret_bool (isW_yes [119,105,116,104] (isW_mem (by simp[wds])) H).symm,rfl⟩)
  | (have H:(l==[97,115,115,101,114,116])=true:=(by assumption);go_ret;exact⟨ret_bool (isW_yes [97,115,115,101,114,116] (isW_mem (by simp[wds])) H).symm,rfl⟩)
  | (have H:(l==[110,111,116])=true:=(by assumption);go_ret;exact⟨ret_bool (isW_yes [110,111,116] (isW_mem (by simp[wds])) H).symm,rfl⟩)
  | (have H:(l==[116,114,117,101])=true:=(by assumption);go_ret;exact⟨ret_bool (isW_yes [116,114,117,101] (isW_mem (by simp[wds])) H).symm,rfl⟩)
  | (have H:(l==[102,97,108,115,101])=true:=(by assumption);go_ret;exact⟨ret_bool (isW_yes [102,97,108,115,101] (isW_mem (by simp[wds])) H).symm,rfl⟩)
  | (have H:(l==[105,110,116])=true:=(by assumption);go_ret;exact⟨ret_bool (isW_yes [105,110,116] (isW_mem (by simp[wds])) H).symm,rfl⟩)
  | (have H:(l==[98,111,111,108])=true:=(by assumption);go_ret;exact⟨ret_bool (isW_yes [98,111,111,108] (isW_mem (by simp[wds])) H).symm,rfl⟩)
  | (have H:(l==[108,105,115,116])=true:=(by assumption);go_ret;exact⟨ret_bool (isW_yes [108,105,115,116] (isW_mem (by simp[wds])) H).symm,rfl⟩)
  | (have H:(l==[108,101,110])=true:=(by assumption);go_ret;exact⟨ret_bool (isW_yes [108,101,110] (isW_mem (by simp[wds])) H).symm,rfl⟩)
  | (have H:(l==[104,100])=true:=(by assumption);go_ret;exact⟨ret_bool (isW_yes [104,100] (isW_mem (by simp[wds])) H).symm,rfl⟩)
  | (have H:(l==[116,108])=true:=(by assumption);go_ret;exact⟨ret_bool (isW_yes [116,108] (isW_mem (by simp[wds])) H).symm,rfl⟩)
  | (have H:(l==[118])=true:=(by assumption);go_ret;exact⟨ret_bool (isW_yes [118] (isW_mem (by simp[wds])) H).symm,rfl⟩)
  | (have H:=isW_no (l:=l) ⟨by assumption,by assumption,by assumption,by assumption,by assumption,by assumption,by assumption,by assumption,by assumption,by assumption,by assumption,by assumption,by assumption,by assumption,by assumption,by assumption,by assumption,by assumption,by assumption,by assumption⟩;go_ret;exact⟨ret_bool H.symm,rfl⟩)
def mres (m:Meas):Value:=match m with
 | .ok k n=>.tuple #[.int .i64 (k:Nat),.int .i64 (n:Nat),.nilIface]
 | .bad e=>.tuple #[.int .i64 0,.int .i64 0,.iface 34 (.int .i64 (e:Nat))]
theorem name_any (a:UInt8) (r:Bs) (ha:isL a=true) (hl:(a::r).length<=1000000000) (w:World) :
  Calls Tryz.prog 97 #[.string ⟨(a::r).toArray⟩] w fun e w'=>e=.returned (mres (meas (a::r)))/\w'=w:=by
 obtain⟨l,hL⟩:∃ l,l=a::r:=⟨_,rfl⟩
 have HM:=Lib.hid (show meas l=if 40<spn isLD l then .bad 2 else if isW (l.take (spn isLD l)) then .ok 3 (spn isLD l) else .ok 0 (spn isLD l) by rw[hL,meas_cons,if_pos ha]);rw[<-hL] at hl ⊢;clear hL ha;have hle:=spn_le isLD l;have hsz:(⟨l.toArray⟩:ByteArray).size=l.length:=rfl;obtain⟨n,hn⟩:∃ n,n=spn isLD l:=⟨_,rfl⟩
 have hs:=span_ld l w hl;rw[<-hn] at HM hle hs;have HS:=Lib.hid hs;clear hs hn
 by_cases h40:40<n
 ·have H2:=Lib.hid (show meas l=.bad 2 by rw[HM.out,if_pos h40]);go_enter Tryz.func97,Tryz.ntmps97
  go_wp2_with (go_at_call 107;refine HS.out.mono ?_;rintro e w' ⟨rfl,rfl⟩)
  go_ret3
  exact⟨by rw[H2.out];rfl,rfl⟩
 have h40':n<=40:=by omega
 have HT:=Lib.hid (extract_take l n)
 cases hw:isW (l.take n)
 ·have H2:=Lib.hid (show meas l=.ok 0 n by rw[HM.out,if_neg h40,hw];rfl);have HW:=Lib.hid hw;clear hw h40;go_enter Tryz.func97,Tryz.ntmps97
  go_wp2_with (first | (go_at_call 107;refine HS.out.mono ?_;rintro e w' ⟨rfl,rfl⟩) | (go_at_call 109;rw[HT.out];refine (isWord_any _ _).mono ?_;rw[HW.out];rintro e w' ⟨rfl,rfl⟩))
  go_ret3
  exact⟨by rw[H2.out];rfl,rfl⟩
 have H2:=Lib.hid (show meas l=.ok 3 n by rw[HM.out,if_neg h40,hw];rfl);have HW:=Lib.hid hw;clear hw h40;go_enter Tryz.func97,Tryz.ntmps97
 go_wp2_with (first | (go_at_call 107;refine HS.out.mono ?_;rintro e w' ⟨rfl,rfl⟩) | (go_at_call 109;rw[HT.out];refine (isWord_any _ _).mono ?_;rw[HW.out];rintro e w' ⟨rfl,rfl⟩))
 go_ret3
 exact⟨by rw[H2.out];rfl,rfl⟩
theorem lxNumber_any (a:UInt8) (r:Bs) (ha:isL a=false) (hd:isD a=true) (hl:(a::r).length<=1000000000) (w:World) :
  Calls Tryz.prog 99 #[.string ⟨(a::r).toArray⟩] w fun e w'=>e=.returned (mres (meas (a::r)))/\w'=w:=by
 obtain⟨l,hL⟩:∃ l,l=a::r:=⟨_,rfl⟩
 have HM:=Lib.hid (show meas l=if 1<spn isD l/\a=48 then .bad 1 else if 300<spn isD l then .bad 2 else .ok 1 (spn isD l) by rw[hL,meas_cons,if_neg (by rw[ha];decide),if_pos hd]);have hp:0<l.length:=by rw[hL];simp
 have h0:(⟨l.toArray⟩:ByteArray)[0]'hp=a:=by subst hL;rfl
 rw[<-hL] at hl ⊢;clear hL ha hd;have hsz:(⟨l.toArray⟩:ByteArray).size=l.length:=rfl;obtain⟨n,hn⟩:∃ n,n=spn isD l:=⟨_,rfl⟩
 have hs:=span_d l w hl;have hle:=spn_le isD l;rw[<-hn] at HM hs hle;have HS:=Lib.hid hs;clear hs hn
 by_cases h1:1<n
 ·by_cases h48:a=48
  ·have H2:=Lib.hid (show meas l=.bad 1 by rw[HM.out,if_pos ⟨h1,h48⟩]);have hx:((a.toNat:Int)==48)=true:=byte_yes 48 h48;clear h48;go_enter Tryz.func99,Tryz.ntmps99
   go_wp2_with (go_at_call 107;refine HS.out.mono ?_;rintro e w' ⟨rfl,rfl⟩)
   go_ret3
   exact⟨by rw[H2.out];rfl,rfl⟩
  have hx:((a.toNat:Int)==48)=false:=byte_no 48 h48
  by_cases h3:300<n
  ·have H2:=Lib.hid (show meas l=.bad 2 by rw[HM.out,if_neg (fun h=>h48 h.2),if_pos h3]);clear h48;go_enter Tryz.func99,Tryz.ntmps99
   go_wp2_with (go_at_call 107;refine HS.out.mono ?_;rintro e w' ⟨rfl,rfl⟩)
   go_ret3
   exact⟨by rw[H2.out];rfl,rfl⟩
  have h3':n<=300:=by omega
  have H2:=Lib.hid (show meas l=.ok 1 n by rw[HM.out,if_neg (fun h=>h48 h.2),if_neg h3]);clear h48 h3;go_enter Tryz.func99,Tryz.ntmps99
  go_wp2_with (go_at_call 107;refine HS.out.mono ?_;rintro e w' ⟨rfl,rfl⟩)
  go_ret3
  exact⟨by rw[H2.out];rfl,rfl⟩
 have h1':n<=1:=by omega
 have H2:=Lib.hid (show meas l=.ok 1 n by rw[HM.out,if_neg (fun h=>h1 h.1),if_neg (by omega)]);clear h1;go_enter Tryz.func99,Tryz.ntmps99
 go_wp2_with (go_at_call 107;refine HS.out.mono ?_;rintro e w' ⟨rfl,rfl⟩)
 go_ret3
 exact⟨by rw[H2.out];rfl,rfl⟩
theorem shape_mres (m:Meas):∃ a b c,mres m=.tuple #[a,b,c]:=by
 cases m<;>exact⟨_,_,_,rfl⟩
theorem measure_any (l:Bs) (hl:l.length<=1000000000) (w:World) :
  Calls Tryz.prog 83 #[.string ⟨l.toArray⟩] w fun e w'=>e=.returned (mres (meas l))/\w'=w:=by
 cases l with
 | nil =>
  go_enter Tryz.func83,Tryz.ntmps83
  go_wp2
  go_ret3
  exact⟨rfl,rfl⟩
 | cons a r =>
  have hnn:=name_any a r;have hdd:=lxNumber_any a r;have HG:=Lib.hid (sign_any a r hl w);have HM:=Lib.hid (meas_cons a r);obtain⟨l,hL⟩:∃ l,l=a::r:=⟨_,rfl⟩
  have hp:0<l.length:=by rw[hL];simp
  have h0:(⟨l.toArray⟩:ByteArray)[0]'hp=a:=by subst hL;rfl
  have he:(l==[])=false:=by rw[hL];rfl
  rw[<-hL] at hl hnn hdd HG HM ⊢;clear hL;have hsz:(⟨l.toArray⟩:ByteArray).size=l.length:=rfl
  cases ha:isL a
  ·cases hd:isD a
   ·have H2:=Lib.hid (show meas l=if 0<sgn l then .ok 2 (sgn l) else .bad 1 by rw[HM.out,if_neg (by rw[ha];decide),if_neg (by rw[hd];decide)]);obtain⟨n,hn⟩:∃ n,n=sgn l:=⟨_,rfl⟩
    have hle:=(sgn_le l).1;rw[<-hn] at HG H2 hle;have HA:=Lib.hid ha;have HD:=Lib.hid hd;clear hnn hdd ha hd hn HM
    by_cases h3:0<n
    ·have H3:=Lib.hid (show meas l=.ok 2 n by rw[H2.out,if_pos h3]);go_enter Tryz.func83,Tryz.ntmps83
     go_wp2_with (first
      | (go_at_call 96;refine (isLetter_any a _).mono ?_;rw[HA.out];rintro e w' ⟨rfl,rfl⟩)
      | (go_at_call 98;refine (isDigit_any a _).mono ?_;rw[HD.out];rintro e w' ⟨rfl,rfl⟩)
      | (go_at_call 100;refine HG.out.mono ?_;rintro e w' ⟨rfl,rfl⟩))
     go_ret3
     exact⟨by rw[H3.out];rfl,rfl⟩
    have hn0:n=0:=by omega
    subst hn0;have H3:=Lib.hid (show meas l=.bad 1 by rw[H2.out,if_neg h3]);clear h3;go_enter Tryz.func83,Tryz.ntmps83
    go_wp2_with (first
     | (go_at_call 96;refine (isLetter_any a _).mono ?_;rw[HA.out];rintro e w' ⟨rfl,rfl⟩)
     | (go_at_call 98;refine (isDigit_any a _).mono ?_;rw[HD.out];rintro e w' ⟨rfl,rfl⟩)
     | (go_at_call 100;refine HG.out.mono ?_;rintro e w' ⟨rfl,rfl⟩))
    go_ret3
    exact⟨by rw[H3.out];rfl,rfl⟩
   have HC:=Lib.hid (hdd ha hd hl w);obtain⟨x,y,z,hx⟩:=shape_mres (meas l);rw[hx] at HC ⊢;have HA:=Lib.hid ha;have HD:=Lib.hid hd;clear hnn hdd ha hd hx HM;go_enter Tryz.func83,Tryz.ntmps83
   go_wp2_with (first
    | (go_at_call 96;refine (isLetter_any a _).mono ?_;rw[HA.out];rintro e w' ⟨rfl,rfl⟩)
    | (go_at_call 98;refine (isDigit_any a _).mono ?_;rw[HD.out];rintro e w' ⟨rfl,rfl⟩)
    | (go_at_call 99;refine HC.out.mono ?_;rintro e w' ⟨rfl,rfl⟩))
   go_ret3
   exact⟨rfl,rfl⟩
  have HC:=Lib.hid (hnn ha hl w);obtain⟨x,y,z,hx⟩:=shape_mres (meas l);rw[hx] at HC ⊢;have HA:=Lib.hid ha;clear hnn hdd ha hx HM;go_enter Tryz.func83,Tryz.ntmps83
  go_wp2_with (first
   | (go_at_call 96;refine (isLetter_any a _).mono ?_;rw[HA.out];rintro e w' ⟨rfl,rfl⟩)
   | (go_at_call 97;refine HC.out.mono ?_;rintro e w' ⟨rfl,rfl⟩))
  go_ret3
  exact⟨rfl,rfl⟩
theorem lt_of_block {w:World} {g:Nat} {o:Obj} (h:w.heap[g]?=some o):g<w.heap.size:=(Array.getElem?_eq_some_iff.1 h).1
theorem grown_below {w w':World} {g B:Nat} (h:w.grownBy w' (some g)) (hB:B<=w.heap.size) (hg:B<=g):Below B w w':=
 ⟨h.os,h.tape,h.output,h.size,fun k hk=>h.block k (by omega) (fun e=>by injection e with e;omega)⟩
theorem below_grown {w w':World} (h:Below w.heap.size w w') (row:Option Nat):w.grownBy w' row:=⟨h.os,h.tape,h.output,h.size,fun k hk _=>h.block k hk⟩
theorem grown_tr {a b c:World} {row:Option Nat} (h:a.grownBy b row) (k:b.grownBy c row):a.grownBy c row:=
 ⟨k.os.trans h.os,k.tape.trans h.tape,k.output.trans h.output,Nat.le_trans h.size k.size,fun i hi hn=>(k.block i (Nat.lt_of_lt_of_le hi h.size) hn).trans (h.block i hi hn)⟩
theorem grown_set (w:World) (g i:Nat) (v:Value):w.grownBy (w.setCell ⟨g,i,none⟩ v) (some g):=
 ⟨rfl,rfl,rfl,by simp,fun k _ hn=>heap_setCell_other w _ k v (fun e=>hn (by rw[e]))⟩
def Rd (w:World) (g:Nat) (l:Bs) (p:Nat × Nat):Prop:=w.heap[g]?=some (.cells #[.string ⟨l.toArray⟩,.int .i64 (p.1:Nat),.int .i64 (p.2:Nat)] 131 (0,0))
theorem rd_nl {w:World} {g:Nat} {l:Bs} {q:Nat × Nat} (h:Rd w g l q) (x:Value):Rd (((w.setCell ⟨g,2,none⟩ x).setCell ⟨g,1,none⟩ (.int .i64 ((q.1:Int)+1))).setCell ⟨g,2,none⟩ (.int .i64 1)) g l (q.1+1,1):=by
 unfold Rd at *;rw[heap_setCell_same _ g 2 _ _ _ (heap_setCell_same _ g 1 _ _ _ (heap_setCell_same w g 2 _ _ x h))];rfl
theorem rd_no {w:World} {g:Nat} {l:Bs} {q:Nat × Nat} (h:Rd w g l q):Rd (w.setCell ⟨g,2,none⟩ (.int .i64 ((q.2:Int)+1))) g l (q.1,q.2+1):=by
 unfold Rd at *;rw[heap_setCell_same w g 2 _ _ _ h];rfl
theorem rd_rest {w:World} {g:Nat} {l:Bs} {q:Nat × Nat} (h:Rd w g l q) (k:Nat):Rd (w.setCell ⟨g,0,none⟩ (.string ((⟨l.toArray⟩:ByteArray).extract k l.length))) g (l.drop k) q:=by
 unfold Rd at *;rw[heap_setCell_same w g 0 _ _ _ h,extract_drop];rfl
theorem skip_any (g:Nat) (l:Bs) (p:Nat × Nat) (n:Nat) (w:World) (hR:Rd w g l p) (hn:n<=l.length) (hl:l.length<=20000) (h1:p.1<=1000000) (h2:p.2<=1000000) :
  Calls Tryz.prog 81 #[.pointer (some ⟨g,0,none⟩),.int .i64 (n:Nat)] w fun e w'=>e=.returned (.tuple #[])/\Rd w' g (l.drop n) (adv p (l.take n))/\w.grownBy w' (some g):=by
 have hsz:(⟨l.toArray⟩:ByteArray).size=l.length:=rfl;go_enter Tryz.func81,Tryz.ntmps81
 go_wp2
 go_loopw [6] (fun i wr=>∃ k:Nat,i=.int .i64 k/\k<=n/\Rd wr g l (adv p (l.take k))/\w.grownBy wr (some g)) (fun i _=>n - (intOf i).toNat)
 case atStart=>exact⟨0,rfl,Nat.zero_le _,hR,World.grownBy.refl _ _⟩
 case round =>
  obtain⟨k,rfl,hk,hRk,hg⟩:=hrel;obtain⟨q,hq⟩:∃ q,q=adv p (l.take k):=⟨_,rfl⟩
  rw[<-hq] at hRk;have HQ:=Lib.hid hq;have hb:=adv_bd p (l.take k);have hlt':(l.take k).length<=k:=List.length_take_le _ _;rw[<-hq] at hb;clear hq;have hq1:q.1<=1100000:=by omega
  have hq2:q.2<=1100000:=by omega
  clear hb hlt';have c0:=cell_at hRk 0 rfl;have c1:=cell_at hRk 1 rfl;have c2:=cell_at hRk 2 rfl;have f0:=froz_at hRk 0;have f1:=froz_at hRk 1;have f2:=froz_at hRk 2;have HR:=Lib.hid hRk;have HG:=Lib.hid hg;clear hRk hg
  by_cases hlt:k<n
  ·have hlt2:k<l.length:=by omega
   by_cases h10:l[k]=10
   ·have hx:((((⟨l.toArray⟩:ByteArray)[k]'hlt2).toNat:Int)==10)=true:=byte_yes (c:=(⟨l.toArray⟩:ByteArray)[k]'hlt2) 10 h10;have HS:=Lib.hid ((adv_take_succ p l k hlt2).trans (by rw[<-HQ.out,stepP_nl h10]));clear h10
    go_wp2
    go_roundw
    case rel =>
     refine⟨k+1,by go_num,by omega,?_,grown_tr (grown_tr (grown_tr HG.out (grown_set _ g 2 _)) (grown_set _ g 1 _)) (grown_set _ g 2 _)⟩;rw[HS.out];exact rd_nl HR.out _
    case measure=>simp[intOf];omega
   have hx:((((⟨l.toArray⟩:ByteArray)[k]'hlt2).toNat:Int)==10)=false:=byte_no (c:=(⟨l.toArray⟩:ByteArray)[k]'hlt2) 10 h10;have HS:=Lib.hid ((adv_take_succ p l k hlt2).trans (by rw[<-HQ.out,stepP_no h10]));clear h10
   go_wp2
   go_roundw
   case rel =>
    refine⟨k+1,by go_num,by omega,?_,grown_tr HG.out (grown_set _ g 2 _)⟩;rw[HS.out];exact rd_no HR.out
   case measure=>simp[intOf];omega
  have hkn:k=n:=by omega
  subst hkn
  go_wp2
  go_end0
  refine⟨rfl,?_,grown_tr HG.out (grown_set _ g 0 _)⟩;rw[<-HQ.out];exact rd_rest HR.out k
def AtB (w:World) (q:Nat) (p:Nat × Nat) (v:Value):Prop:=w.heap[q]?=some (.cells #[.int .i64 (p.1:Nat),.int .i64 (p.2:Nat),v] 86 (0,0))
theorem fault_any (g:Nat) (l:Bs) (p:Nat × Nat) (c:Int) (w:World) (hR:Rd w g l p) :
  Calls Tryz.prog 51 #[.pointer (some ⟨g,0,none⟩),.iface 34 (.int .i64 c)] w fun e w'=>∃ q,e=.returned (.iface 81 (.pointer (some ⟨q,0,none⟩)))/\AtB w' q p (.iface 34 (.int .i64 c))/\w.heap.size<=q/\Below w.heap.size w w':=by
 have c1:=cell_at hR 1 rfl;have c2:=cell_at hR 2 rfl;go_enter Tryz.func51,Tryz.ntmps51
 go_wp2
 go_region_held3 (fun w'=>w'.cell? ⟨g,1,none⟩=some (.int .i64 (p.1:Nat))/\w'.cell? ⟨g,2,none⟩=some (.int .i64 (p.2:Nat))) (go_keep) (fail)
 go_wp2
 go_ret
 exact⟨w.heap.size,rfl,made_at w _ _ rfl,Nat.le_refl _,((Below.refl _ _).alloc (Nat.le_refl _) _).drew⟩
theorem strSize (l:Bs):(⟨l.toArray⟩:ByteArray).size=l.length:=rfl
theorem clone_any (l:Bs) (hl:l.length<=1000000000) (w:World) :
  Calls Tryz.prog 84 #[.string ⟨l.toArray⟩] w fun e w'=>e=.returned (.string ⟨l.toArray⟩)/\Below w.heap.size w w':=by
 have H:=Lib.hid (Tryz.stringslite_Clone ⟨l.toArray⟩ w (by rw[strSize];omega));go_enter Tryz.func84,Tryz.ntmps84
 go_wp2_with fail
 refine H.out.mono ?_;rintro e w1 ⟨rfl,hb⟩
 go_wp2
 go_ret
 exact⟨rfl,hb⟩
theorem Rd.below {w w':World} {g:Nat} {l:Bs} {p:Nat × Nat} (h:Rd w g l p) (hb:Below w.heap.size w w'):Rd w' g l p:=by
 unfold Rd at *;rw[hb.block _ (lt_of_block h)];exact h
theorem Rd.lt {w:World} {g:Nat} {l:Bs} {p:Nat × Nat} (h:Rd w g l p):g<w.heap.size:=lt_of_block h
theorem alloc_grown (w:World) (o:Obj) (row:Option Nat):w.grownBy (w.alloc o) row:=below_grown ((Below.refl _ _).alloc (Nat.le_refl _) _) row
theorem Rd.alloc {w:World} {g:Nat} {l:Bs} {p:Nat × Nat} (h:Rd w g l p) (o:Obj):Rd (w.alloc o) g l p:=h.below ((Below.refl _ _).alloc (Nat.le_refl _) _)
theorem other4 (w:World) (g:Nat) (x y z u:Value) {k:Nat} (hk:k≠g) :
  ((((w.setCell ⟨g,0,none⟩ x).setCell ⟨g,1,none⟩ y).setCell ⟨g,2,none⟩ z).setCell ⟨g,3,none⟩ u).heap[k]?=w.heap[k]?:=by
 rw[heap_setCell_other _ _ k _ hk,heap_setCell_other _ _ k _ hk,heap_setCell_other _ _ k _ hk,heap_setCell_other _ _ k _ hk]
theorem grown4 (w:World) (g:Nat) (x y z u:Value):w.grownBy ((((w.setCell ⟨g,0,none⟩ x).setCell ⟨g,1,none⟩ y).setCell ⟨g,2,none⟩ z).setCell ⟨g,3,none⟩ u) (some g):=
 grown_tr (grown_tr (grown_tr (grown_set w g 0 x) (grown_set _ g 1 y)) (grown_set _ g 2 z)) (grown_set _ g 3 u)
theorem grown_new {a b c:World} {row:Option Nat} {t:Nat} (h:a.grownBy b row) (k:b.grownBy c (some t)) (ht:a.heap.size<=t):a.grownBy c row:=
 ⟨k.os.trans h.os,k.tape.trans h.tape,k.output.trans h.output,Nat.le_trans h.size k.size,fun i hi hn=>(k.block i (Nat.lt_of_lt_of_le hi h.size) (fun e=>by injection e with e;omega)).trans (h.block i hi hn)⟩
theorem h_ {p:Prop} (h:p):Hid p:=Lib.hid h
theorem kB {w w':World} {k:Nat} {o:Obj} (hb:Below w.heap.size w w') (h:Hid (w.heap[k]?=some o)):Hid (w'.heap[k]?=some o):=Lib.hid ((hb.block _ (lt_of_block h.out)).trans h.out)
theorem kG {w w':World} {g k:Nat} {o:Obj} (hg:w.grownBy w' (some g)) (h:Hid (w.heap[k]?=some o)) (hn:k≠g:=by omega):Hid (w'.heap[k]?=some o):=Lib.hid ((hg.block _ (lt_of_block h.out) (fun e=>hn (by injection e))).trans h.out)
theorem newb (w:World) (c:Array Value) (T:TypeId):∃ w' k,w.alloc (.cells c T)=w' ∧ k=w.heap.size ∧ Below w.heap.size w w' ∧ w'.heap.size=k+1 ∧ Hid (w'.heap[k]?=some (.cells c T (0,0))):=
  ⟨_,_,rfl,rfl,(Below.refl _ _).alloc (Nat.le_refl _) _,by simp,Lib.hid (made_at w _ _ rfl)⟩
theorem dB {we w w':World} {g:Nat} (h:Hid (we.grownBy w (some g))) (hb:Below w.heap.size w w'):Hid (we.grownBy w' (some g)):=Lib.hid (grown_tr h.out (below_grown hb _))
theorem dG {we w w':World} {g:Nat} (h:Hid (we.grownBy w (some g))) (hg:w.grownBy w' (some g)):Hid (we.grownBy w' (some g)):=Lib.hid (grown_tr h.out hg)
theorem dN {we w w':World} {g k:Nat} (h:Hid (we.grownBy w (some g))) (hg:w.grownBy w' (some k)) (hk:we.heap.size ≤ k):Hid (we.grownBy w' (some g)):=Lib.hid (grown_new h.out hg hk)
theorem lk_ {w:World} {j k:Nat} {o:Obj} (h:k=w.heap.size) (hb:Hid (w.heap[j]?=some o)):j<k:=by rw[h];exact lt_of_block hb.out
theorem bw_ {w a b:World} (h:Hid (Below w.heap.size w a)) (hb:Below a.heap.size a b):Hid (Below w.heap.size w b):=h_ (h.out.trans (hb.mono h.out.size))
theorem tr_ {α:Type _} {a:Option α} {x y:α} (h:a=some x) (e:x=y):a=some y:=h.trans (congrArg some e)
theorem Um.offk {w:World} {S:Nat → Prop} {x:X} {u:U} {k:Nat} (h:Um w S x u) (hk:k=w.heap.size):Um w (fun b=>S b ∧ b≠k) x u:=h.off.mono (fun b h=>⟨h.1,fun e=>h.2 (by rw[e,hk])⟩)
theorem cl2 {w:World} {g:Nat} {T:TypeId} {a0 a1:Value} (h:w.heap[g]?=some (.cells #[a0,a1] T (0,0))):w.cell? ⟨g,0,none⟩=some a0 ∧ w.cell? ⟨g,1,none⟩=some a1:=
  ⟨cell_at h 0 rfl,cell_at h 1 rfl⟩
theorem cl3 {w:World} {g:Nat} {T:TypeId} {a0 a1 a2:Value} (h:w.heap[g]?=some (.cells #[a0,a1,a2] T (0,0))):w.cell? ⟨g,0,none⟩=some a0 ∧ w.cell? ⟨g,1,none⟩=some a1 ∧ w.cell? ⟨g,2,none⟩=some a2:=
  ⟨cell_at h 0 rfl,cell_at h 1 rfl,cell_at h 2 rfl⟩
theorem cl4 {w:World} {g:Nat} {T:TypeId} {a0 a1 a2 a3:Value} (h:w.heap[g]?=some (.cells #[a0,a1,a2,a3] T (0,0))):w.cell? ⟨g,0,none⟩=some a0 ∧ w.cell? ⟨g,1,none⟩=some a1 ∧ w.cell? ⟨g,2,none⟩=some a2 ∧ w.cell? ⟨g,3,none⟩=some a3:=
  ⟨cell_at h 0 rfl,cell_at h 1 rfl,cell_at h 2 rfl,cell_at h 3 rfl⟩
theorem cl5 {w:World} {g:Nat} {T:TypeId} {a0 a1 a2 a3 a4:Value} (h:w.heap[g]?=some (.cells #[a0,a1,a2,a3,a4] T (0,0))):w.cell? ⟨g,0,none⟩=some a0 ∧ w.cell? ⟨g,1,none⟩=some a1 ∧ w.cell? ⟨g,2,none⟩=some a2 ∧ w.cell? ⟨g,3,none⟩=some a3 ∧ w.cell? ⟨g,4,none⟩=some a4:=
  ⟨cell_at h 0 rfl,cell_at h 1 rfl,cell_at h 2 rfl,cell_at h 3 rfl,cell_at h 4 rfl⟩
theorem cl8 {w:World} {g:Nat} {T:TypeId} {a0 a1 a2 a3 a4 a5 a6 a7:Value} (h:w.heap[g]?=some (.cells #[a0,a1,a2,a3,a4,a5,a6,a7] T (0,0))):w.cell? ⟨g,0,none⟩=some a0 ∧ w.cell? ⟨g,1,none⟩=some a1 ∧ w.cell? ⟨g,2,none⟩=some a2 ∧ w.cell? ⟨g,3,none⟩=some a3 ∧ w.cell? ⟨g,4,none⟩=some a4 ∧ w.cell? ⟨g,5,none⟩=some a5 ∧ w.cell? ⟨g,6,none⟩=some a6 ∧ w.cell? ⟨g,7,none⟩=some a7:=
  ⟨cell_at h 0 rfl,cell_at h 1 rfl,cell_at h 2 rfl,cell_at h 3 rfl,cell_at h 4 rfl,cell_at h 5 rfl,cell_at h 6 rfl,cell_at h 7 rfl⟩
theorem cl12 {w:World} {g:Nat} {T:TypeId} {a0 a1 a2 a3 a4 a5 a6 a7 a8 a9 a10 a11:Value} (h:w.heap[g]?=some (.cells #[a0,a1,a2,a3,a4,a5,a6,a7,a8,a9,a10,a11] T (0,0))):w.cell? ⟨g,0,none⟩=some a0 ∧ w.cell? ⟨g,1,none⟩=some a1 ∧ w.cell? ⟨g,2,none⟩=some a2 ∧ w.cell? ⟨g,3,none⟩=some a3 ∧ w.cell? ⟨g,4,none⟩=some a4 ∧ w.cell? ⟨g,5,none⟩=some a5 ∧ w.cell? ⟨g,6,none⟩=some a6 ∧ w.cell? ⟨g,7,none⟩=some a7 ∧ w.cell? ⟨g,8,none⟩=some a8 ∧ w.cell? ⟨g,9,none⟩=some a9 ∧ w.cell? ⟨g,10,none⟩=some a10 ∧ w.cell? ⟨g,11,none⟩=some a11:=
  ⟨cell_at h 0 rfl,cell_at h 1 rfl,cell_at h 2 rfl,cell_at h 3 rfl,cell_at h 4 rfl,cell_at h 5 rfl,cell_at h 6 rfl,cell_at h 7 rfl,cell_at h 8 rfl,cell_at h 9 rfl,cell_at h 10 rfl,cell_at h 11 rfl⟩
theorem cl13 {w:World} {g:Nat} {T:TypeId} {a0 a1 a2 a3 a4 a5 a6 a7 a8 a9 a10 a11 a12:Value} (h:w.heap[g]?=some (.cells #[a0,a1,a2,a3,a4,a5,a6,a7,a8,a9,a10,a11,a12] T (0,0))):w.cell? ⟨g,0,none⟩=some a0 ∧ w.cell? ⟨g,1,none⟩=some a1 ∧ w.cell? ⟨g,2,none⟩=some a2 ∧ w.cell? ⟨g,3,none⟩=some a3 ∧ w.cell? ⟨g,4,none⟩=some a4 ∧ w.cell? ⟨g,5,none⟩=some a5 ∧ w.cell? ⟨g,6,none⟩=some a6 ∧ w.cell? ⟨g,7,none⟩=some a7 ∧ w.cell? ⟨g,8,none⟩=some a8 ∧ w.cell? ⟨g,9,none⟩=some a9 ∧ w.cell? ⟨g,10,none⟩=some a10 ∧ w.cell? ⟨g,11,none⟩=some a11 ∧ w.cell? ⟨g,12,none⟩=some a12:=
  ⟨cell_at h 0 rfl,cell_at h 1 rfl,cell_at h 2 rfl,cell_at h 3 rfl,cell_at h 4 rfl,cell_at h 5 rfl,cell_at h 6 rfl,cell_at h 7 rfl,cell_at h 8 rfl,cell_at h 9 rfl,cell_at h 10 rfl,cell_at h 11 rfl,cell_at h 12 rfl⟩
theorem cl25 {w:World} {g:Nat} {T:TypeId} {a0 a1 a2 a3 a4 a5 a6 a7 a8 a9 a10 a11 a12 a13 a14 a15 a16 a17 a18 a19 a20 a21 a22 a23 a24:Value} (h:w.heap[g]?=some (.cells #[a0,a1,a2,a3,a4,a5,a6,a7,a8,a9,a10,a11,a12,a13,a14,a15,a16,a17,a18,a19,a20,a21,a22,a23,a24] T (0,0))):w.cell? ⟨g,0,none⟩=some a0 ∧ w.cell? ⟨g,1,none⟩=some a1 ∧ w.cell? ⟨g,2,none⟩=some a2 ∧ w.cell? ⟨g,3,none⟩=some a3 ∧ w.cell? ⟨g,4,none⟩=some a4 ∧ w.cell? ⟨g,5,none⟩=some a5 ∧ w.cell? ⟨g,6,none⟩=some a6 ∧ w.cell? ⟨g,7,none⟩=some a7 ∧ w.cell? ⟨g,8,none⟩=some a8 ∧ w.cell? ⟨g,9,none⟩=some a9 ∧ w.cell? ⟨g,10,none⟩=some a10 ∧ w.cell? ⟨g,11,none⟩=some a11 ∧ w.cell? ⟨g,12,none⟩=some a12 ∧ w.cell? ⟨g,13,none⟩=some a13 ∧ w.cell? ⟨g,14,none⟩=some a14 ∧ w.cell? ⟨g,15,none⟩=some a15 ∧ w.cell? ⟨g,16,none⟩=some a16 ∧ w.cell? ⟨g,17,none⟩=some a17 ∧ w.cell? ⟨g,18,none⟩=some a18 ∧ w.cell? ⟨g,19,none⟩=some a19 ∧ w.cell? ⟨g,20,none⟩=some a20 ∧ w.cell? ⟨g,21,none⟩=some a21 ∧ w.cell? ⟨g,22,none⟩=some a22 ∧ w.cell? ⟨g,23,none⟩=some a23 ∧ w.cell? ⟨g,24,none⟩=some a24:=
  ⟨cell_at h 0 rfl,cell_at h 1 rfl,cell_at h 2 rfl,cell_at h 3 rfl,cell_at h 4 rfl,cell_at h 5 rfl,cell_at h 6 rfl,cell_at h 7 rfl,cell_at h 8 rfl,cell_at h 9 rfl,cell_at h 10 rfl,cell_at h 11 rfl,cell_at h 12 rfl,cell_at h 13 rfl,cell_at h 14 rfl,cell_at h 15 rfl,cell_at h 16 rfl,cell_at h 17 rfl,cell_at h 18 rfl,cell_at h 19 rfl,cell_at h 20 rfl,cell_at h 21 rfl,cell_at h 22 rfl,cell_at h 23 rfl,cell_at h 24 rfl⟩
theorem fr2 {w:World} {g:Nat} {c:Array Value} {T:TypeId} (h:w.heap[g]?=some (.cells c T (0,0))):w.frozen? ⟨g,0,none⟩=false ∧ w.frozen? ⟨g,1,none⟩=false:=
  ⟨froz_at h 0,froz_at h 1⟩
theorem fr3 {w:World} {g:Nat} {c:Array Value} {T:TypeId} (h:w.heap[g]?=some (.cells c T (0,0))):w.frozen? ⟨g,0,none⟩=false ∧ w.frozen? ⟨g,1,none⟩=false ∧ w.frozen? ⟨g,2,none⟩=false:=
  ⟨froz_at h 0,froz_at h 1,froz_at h 2⟩
theorem fr4 {w:World} {g:Nat} {c:Array Value} {T:TypeId} (h:w.heap[g]?=some (.cells c T (0,0))):w.frozen? ⟨g,0,none⟩=false ∧ w.frozen? ⟨g,1,none⟩=false ∧ w.frozen? ⟨g,2,none⟩=false ∧ w.frozen? ⟨g,3,none⟩=false:=
  ⟨froz_at h 0,froz_at h 1,froz_at h 2,froz_at h 3⟩
theorem fr5 {w:World} {g:Nat} {c:Array Value} {T:TypeId} (h:w.heap[g]?=some (.cells c T (0,0))):w.frozen? ⟨g,0,none⟩=false ∧ w.frozen? ⟨g,1,none⟩=false ∧ w.frozen? ⟨g,2,none⟩=false ∧ w.frozen? ⟨g,3,none⟩=false ∧ w.frozen? ⟨g,4,none⟩=false:=
  ⟨froz_at h 0,froz_at h 1,froz_at h 2,froz_at h 3,froz_at h 4⟩
theorem fr8 {w:World} {g:Nat} {c:Array Value} {T:TypeId} (h:w.heap[g]?=some (.cells c T (0,0))):w.frozen? ⟨g,0,none⟩=false ∧ w.frozen? ⟨g,1,none⟩=false ∧ w.frozen? ⟨g,2,none⟩=false ∧ w.frozen? ⟨g,3,none⟩=false ∧ w.frozen? ⟨g,4,none⟩=false ∧ w.frozen? ⟨g,5,none⟩=false ∧ w.frozen? ⟨g,6,none⟩=false ∧ w.frozen? ⟨g,7,none⟩=false:=
  ⟨froz_at h 0,froz_at h 1,froz_at h 2,froz_at h 3,froz_at h 4,froz_at h 5,froz_at h 6,froz_at h 7⟩
theorem fr12 {w:World} {g:Nat} {c:Array Value} {T:TypeId} (h:w.heap[g]?=some (.cells c T (0,0))):w.frozen? ⟨g,0,none⟩=false ∧ w.frozen? ⟨g,1,none⟩=false ∧ w.frozen? ⟨g,2,none⟩=false ∧ w.frozen? ⟨g,3,none⟩=false ∧ w.frozen? ⟨g,4,none⟩=false ∧ w.frozen? ⟨g,5,none⟩=false ∧ w.frozen? ⟨g,6,none⟩=false ∧ w.frozen? ⟨g,7,none⟩=false ∧ w.frozen? ⟨g,8,none⟩=false ∧ w.frozen? ⟨g,9,none⟩=false ∧ w.frozen? ⟨g,10,none⟩=false ∧ w.frozen? ⟨g,11,none⟩=false:=
  ⟨froz_at h 0,froz_at h 1,froz_at h 2,froz_at h 3,froz_at h 4,froz_at h 5,froz_at h 6,froz_at h 7,froz_at h 8,froz_at h 9,froz_at h 10,froz_at h 11⟩
theorem fr13 {w:World} {g:Nat} {c:Array Value} {T:TypeId} (h:w.heap[g]?=some (.cells c T (0,0))):w.frozen? ⟨g,0,none⟩=false ∧ w.frozen? ⟨g,1,none⟩=false ∧ w.frozen? ⟨g,2,none⟩=false ∧ w.frozen? ⟨g,3,none⟩=false ∧ w.frozen? ⟨g,4,none⟩=false ∧ w.frozen? ⟨g,5,none⟩=false ∧ w.frozen? ⟨g,6,none⟩=false ∧ w.frozen? ⟨g,7,none⟩=false ∧ w.frozen? ⟨g,8,none⟩=false ∧ w.frozen? ⟨g,9,none⟩=false ∧ w.frozen? ⟨g,10,none⟩=false ∧ w.frozen? ⟨g,11,none⟩=false ∧ w.frozen? ⟨g,12,none⟩=false:=
  ⟨froz_at h 0,froz_at h 1,froz_at h 2,froz_at h 3,froz_at h 4,froz_at h 5,froz_at h 6,froz_at h 7,froz_at h 8,froz_at h 9,froz_at h 10,froz_at h 11,froz_at h 12⟩
theorem fr25 {w:World} {g:Nat} {c:Array Value} {T:TypeId} (h:w.heap[g]?=some (.cells c T (0,0))):w.frozen? ⟨g,0,none⟩=false ∧ w.frozen? ⟨g,1,none⟩=false ∧ w.frozen? ⟨g,2,none⟩=false ∧ w.frozen? ⟨g,3,none⟩=false ∧ w.frozen? ⟨g,4,none⟩=false ∧ w.frozen? ⟨g,5,none⟩=false ∧ w.frozen? ⟨g,6,none⟩=false ∧ w.frozen? ⟨g,7,none⟩=false ∧ w.frozen? ⟨g,8,none⟩=false ∧ w.frozen? ⟨g,9,none⟩=false ∧ w.frozen? ⟨g,10,none⟩=false ∧ w.frozen? ⟨g,11,none⟩=false ∧ w.frozen? ⟨g,12,none⟩=false ∧ w.frozen? ⟨g,13,none⟩=false ∧ w.frozen? ⟨g,14,none⟩=false ∧ w.frozen? ⟨g,15,none⟩=false ∧ w.frozen? ⟨g,16,none⟩=false ∧ w.frozen? ⟨g,17,none⟩=false ∧ w.frozen? ⟨g,18,none⟩=false ∧ w.frozen? ⟨g,19,none⟩=false ∧ w.frozen? ⟨g,20,none⟩=false ∧ w.frozen? ⟨g,21,none⟩=false ∧ w.frozen? ⟨g,22,none⟩=false ∧ w.frozen? ⟨g,23,none⟩=false ∧ w.frozen? ⟨g,24,none⟩=false:=
  ⟨froz_at h 0,froz_at h 1,froz_at h 2,froz_at h 3,froz_at h 4,froz_at h 5,froz_at h 6,froz_at h 7,froz_at h 8,froz_at h 9,froz_at h 10,froz_at h 11,froz_at h 12,froz_at h 13,froz_at h 14,froz_at h 15,froz_at h 16,froz_at h 17,froz_at h 18,froz_at h 19,froz_at h 20,froz_at h 21,froz_at h 22,froz_at h 23,froz_at h 24⟩
theorem next_bad (g:Nat) (l:Bs) (p:Nat × Nat) (w:World) (c:Nat) (hR:Rd w g l p) (hl:l.length<=20000) (h1:p.1<=900000) (h2:p.2<=900000) (hm:meas (l.drop (gapL false l))=.bad c) :
  Calls Tryz.prog 52 #[.pointer (some ⟨g,0,none⟩)] w fun e w'=>∃ q,e=.returned (.tuple #[.agg #[.int .i64 0,.string ⟨#[]⟩,.int .i64 0,.int .i64 0],.iface 81 (.pointer (some ⟨q,0,none⟩))]) /\
   AtB w' q (adv p (l.take (gapL false l))) (.iface 34 (.int .i64 (c:Nat)))/\w.heap.size<=q/\w.grownBy w' (some g):=by
 have hg:=gap_le false l;have hb:=adv_bd p (l.take (gapL false l));have hlt:(l.take (gapL false l)).length<=20000:=by rw[List.length_take];omega
 obtain⟨n,hn⟩:∃ n,n=gapL false l:=⟨_,rfl⟩
 have hbl:=fun w=>blanks_any l w (by omega)
 rw[<-hn] at hg hb hm hbl hlt ⊢;obtain⟨q,hq⟩:∃ q,q=adv p (l.take n):=⟨_,rfl⟩
 rw[<-hq] at hb ⊢;have hq1:q.1<=1000000:=by omega
 have hq2:q.2<=1000000:=by omega
 have HQ:=h_ hq;clear hq hb hlt;have HBl:=h_ hbl;have HM:=h_ hm;have HR:=h_ hR;clear hn hbl hm;have c0:=cell_at hR 0 rfl;have ca:=World.cell?_alloc_lt w (.cells #[.int .i64 0,.string ⟨#[]⟩,.int .i64 0,.int .i64 0] 103) ⟨g,0,none⟩ hR.lt;clear hR;go_enter Tryz.func52,Tryz.ntmps52
 go_wp2_with fail
 refine (HBl.out _).mono ?_;rintro e w' ⟨rfl,rfl⟩;go_wp2_with fail
 clear c0 ca;obtain⟨w0,hw0⟩:∃ w0,w0=w.alloc (.cells #[.int .i64 0,.string ⟨#[]⟩,.int .i64 0,.int .i64 0] 103):=⟨_,rfl⟩
 have hR0:Rd w0 g l p:=by rw[hw0];exact HR.out.alloc _
 have hG0:w.grownBy w0 (some g):=by rw[hw0];exact alloc_grown _ _ _
 have hT0:w0.heap[w.heap.size]?=some (.cells #[.int .i64 0,.string ⟨#[]⟩,.int .i64 0,.int .i64 0] 103 (0,0)):=by rw[hw0];exact made_at w _ _ rfl
 rw[<-hw0];clear hw0;have hgl:=HR.out.lt;refine (skip_any g l p n w0 hR0 hg hl (by omega) (by omega)).mono ?_;rintro e w1 ⟨rfl,hR1,hG1⟩
 have hT1:w1.heap[w.heap.size]?=some (.cells #[.int .i64 0,.string ⟨#[]⟩,.int .i64 0,.int .i64 0] 103 (0,0)):=by
  rw[hG1.block _ (lt_of_block hT0) (fun e=>by injection e with e;omega)];exact hT0
 have HG:=h_ (grown_tr hG0 hG1);have hsz1:w.heap.size<w1.heap.size:=lt_of_block hT1;have HT:=h_ hT1;rw[<-HQ.out] at hR1;have HR1:=h_ hR1;have c0:=cell_at HR1.out 0 rfl;clear hT1 hR1 hG1 hT0 hG0 hR0;go_wp2_with fail
 refine (measure_any (l.drop n) (by rw[List.length_drop];omega) w1).mono ?_;rw[HM.out];rintro e wx ⟨rfl,hx⟩;obtain rfl:=hx.symm;clear hx;simp only[mres];go_wp2_with fail
 refine (fault_any g (l.drop n) q c w1 HR1.out).mono ?_;rintro e w2 ⟨a,rfl,hA,ha,hb2⟩;have hT2:w2.heap[w.heap.size]?=some (.cells #[.int .i64 0,.string ⟨#[]⟩,.int .i64 0,.int .i64 0] 103 (0,0)):=by rw[hb2.block _ hsz1];exact HT.out
 have t0:=cell_at hT2 0 rfl;have t1:=cell_at hT2 1 rfl;have t2:=cell_at hT2 2 rfl;have t3:=cell_at hT2 3 rfl;have f0:=froz_at hT2 0;have f1:=froz_at hT2 1;have f2:=froz_at hT2 2;have f3:=froz_at hT2 3;have HT2:=h_ hT2;have HA:=h_ hA;have HB2:=h_ hb2;clear hT2 hA hb2 c0;go_wp2_with fail
 refine bodyPost_ret (v:=.tuple #[.agg #[.int .i64 0,.string ⟨#[]⟩,.int .i64 0,.int .i64 0],.iface 81 (.pointer (some ⟨a,0,none⟩))]) (by simp[results,Tryz.results52,go_sem,t0,t1,t2,t3]) rfl ⟨a,rfl,?_,by omega,?_⟩
 ·have:=HA.out;unfold AtB at this ⊢;rw[other4 _ _ _ _ _ _ (by omega)];exact this
 exact grown_new (grown_tr HG.out (below_grown HB2.out _)) (grown4 _ _ _ _ _ _) (Nat.le_refl _)
theorem next_ok (g:Nat) (l:Bs) (p:Nat × Nat) (w:World) (k m:Nat) (hR:Rd w g l p) (hl:l.length<=20000) (h1:p.1<=900000) (h2:p.2<=900000) (hm:meas (l.drop (gapL false l))=.ok k m) (hm2:m<=(l.drop (gapL false l)).length) :
  Calls Tryz.prog 52 #[.pointer (some ⟨g,0,none⟩)] w fun e w'=>e=.returned (.tuple #[.agg #[.int .i64 (k:Nat),.string ⟨((l.drop (gapL false l)).take m).toArray⟩,.int .i64 ((adv p (l.take (gapL false l))).1:Nat),.int .i64 ((adv p (l.take (gapL false l))).2:Nat)],.nilIface]) /\
   Rd w' g ((l.drop (gapL false l)).drop m) (adv (adv p (l.take (gapL false l))) ((l.drop (gapL false l)).take m))/\w.grownBy w' (some g):=by
 have hg:=gap_le false l;have hb:=adv_bd p (l.take (gapL false l));have hlt:(l.take (gapL false l)).length<=20000:=by rw[List.length_take];omega
 obtain⟨n,hn⟩:∃ n,n=gapL false l:=⟨_,rfl⟩
 have hbl:=fun w=>blanks_any l w (by omega)
 rw[<-hn] at hg hb hm hm2 hbl hlt ⊢;obtain⟨q,hq⟩:∃ q,q=adv p (l.take n):=⟨_,rfl⟩
 rw[<-hq] at hb ⊢;have hq1:q.1<=1000000:=by omega
 have hq2:q.2<=1000000:=by omega
 have HQ:=h_ hq;clear hq hb hlt;have HBl:=h_ hbl;have HM:=h_ hm;obtain⟨s1,hs1⟩:∃ s1,s1=l.drop n:=⟨_,rfl⟩
 have hl1:s1.length<=20000:=by rw[hs1,List.length_drop];omega
 rw[<-hs1] at hm2 ⊢;have HS1:=h_ hs1;clear hs1;have HR:=h_ hR;clear hn hbl hm;have c0:=cell_at hR 0 rfl;have ca:=World.cell?_alloc_lt w (.cells #[.int .i64 0,.string ⟨#[]⟩,.int .i64 0,.int .i64 0] 103) ⟨g,0,none⟩ hR.lt;clear hR;go_enter Tryz.func52,Tryz.ntmps52
 go_wp2_with fail
 refine (HBl.out _).mono ?_;rintro e w' ⟨rfl,rfl⟩;go_wp2_with fail
 clear c0 ca;obtain⟨w0,hw0⟩:∃ w0,w0=w.alloc (.cells #[.int .i64 0,.string ⟨#[]⟩,.int .i64 0,.int .i64 0] 103):=⟨_,rfl⟩
 have hR0:Rd w0 g l p:=by rw[hw0];exact HR.out.alloc _
 have hG0:w.grownBy w0 (some g):=by rw[hw0];exact alloc_grown _ _ _
 have hT0:w0.heap[w.heap.size]?=some (.cells #[.int .i64 0,.string ⟨#[]⟩,.int .i64 0,.int .i64 0] 103 (0,0)):=by rw[hw0];exact made_at w _ _ rfl
 rw[<-hw0];clear hw0;have hgl:=HR.out.lt;refine (skip_any g l p n w0 hR0 hg hl (by omega) (by omega)).mono ?_;rintro e w1 ⟨rfl,hR1,hG1⟩
 have hT1:w1.heap[w.heap.size]?=some (.cells #[.int .i64 0,.string ⟨#[]⟩,.int .i64 0,.int .i64 0] 103 (0,0)):=by
  rw[hG1.block _ (lt_of_block hT0) (fun e=>by injection e with e;omega)];exact hT0
 have HG:=h_ (grown_tr hG0 hG1);have hsz1:w.heap.size<w1.heap.size:=lt_of_block hT1;have HT:=h_ hT1;rw[<-HQ.out,<-HS1.out] at hR1;have HR1:=h_ hR1;have c0:=cell_at HR1.out 0 rfl;clear hT1 hR1 hG1 hT0 hG0 hR0;go_wp2_with fail
 refine (measure_any s1 (by omega) w1).mono ?_;rw[HS1.out,HM.out,<-HS1.out];rintro e wx ⟨rfl,hx⟩;obtain rfl:=hx.symm;clear hx;simp only[mres];go_wp2_with fail
 rw[extract_take];refine (clone_any (s1.take m) (by rw[List.length_take];omega) w1).mono ?_;rintro e w2 ⟨rfl,hb2⟩;have hT2:w2.heap[w.heap.size]?=some (.cells #[.int .i64 0,.string ⟨#[]⟩,.int .i64 0,.int .i64 0] 103 (0,0)):=by rw[hb2.block _ hsz1];exact HT.out
 have hR2:Rd w2 g s1 q:=HR1.out.below hb2;have hG2:=grown_tr HG.out (below_grown hb2 (some g));have hsz2:w.heap.size<w2.heap.size:=lt_of_block hT2;clear c0 hb2;have c1:=cell_at hR2 1 rfl;have c2:=cell_at hR2 2 rfl;have HT2:=h_ hT2;have HR2:=h_ hR2;have HG2:=h_ hG2;have hgl2:=hR2.lt;clear hT2 hR2 hG2;go_wp2_with fail
 go_region_held3 (fun w'=>w'.cell? ⟨g,1,none⟩=some (.int .i64 (q.1:Nat))/\w'.cell? ⟨g,2,none⟩=some (.int .i64 (q.2:Nat))) (go_keep) (fail)
 rename_i hHeld
 clear hHeld c1 c2;obtain⟨w3,hw3⟩:∃ w3,w3=(w2.alloc (.cells #[.int .i64 (k:Nat),.string ⟨(s1.take m).toArray⟩,.int .i64 (q.1:Nat),.int .i64 (q.2:Nat)] 103)).drew:=⟨_,rfl⟩
 rw[<-hw3];have hb3:Below w2.heap.size w2 w3:=by rw[hw3];exact ((Below.refl _ _).alloc (Nat.le_refl _) _).drew
 have hK3:w3.heap[w2.heap.size]?=some (.cells #[.int .i64 (k:Nat),.string ⟨(s1.take m).toArray⟩,.int .i64 (q.1:Nat),.int .i64 (q.2:Nat)] 103 (0,0)):=by rw[hw3];exact made_at w2 _ _ rfl
 have hT3:=(hb3.block _ hsz2).trans HT2.out;have hR3:Rd w3 g s1 q:=HR2.out.below hb3;have hG3:=grown_tr HG2.out (below_grown hb3 (some g));have hsz3:w2.heap.size<w3.heap.size:=lt_of_block hK3;have HR3:=h_ hR3;have HT3:=h_ hT3;have HK3:=h_ hK3;have HG3:=h_ hG3;clear hw3 hb3 hK3 hT3 hR3 hG3;go_wp2_with fail
 refine (skip_any g s1 q m w3 HR3.out hm2 hl1 hq1 hq2).mono ?_;rintro e w4 ⟨rfl,hR4,hG4⟩;have hK4:=(hG4.block _ hsz3 (fun e=>by injection e with e;omega)).trans HK3.out;have hT4:=(hG4.block w.heap.size (by omega) (fun e=>by injection e with e;omega)).trans HT3.out;have HR4:=h_ hR4;have HG4:=h_ (grown_tr HG3.out hG4);have t0:=cell_at hT4 0 rfl;have t1:=cell_at hT4 1 rfl;have t2:=cell_at hT4 2 rfl;have t3:=cell_at hT4 3 rfl;have f0:=froz_at hT4 0;have f1:=froz_at hT4 1;have f2:=froz_at hT4 2;have f3:=froz_at hT4 3;have k0:=cell_at hK4 0 rfl;have k1:=cell_at hK4 1 rfl;have k2:=cell_at hK4 2 rfl;have k3:=cell_at hK4 3 rfl;have HT4:=h_ hT4;clear hK4 hT4 hR4 hG4;go_wp2_with fail
 refine bodyPost_ret (v:=.tuple #[.agg #[.int .i64 (k:Nat),.string ⟨(s1.take m).toArray⟩,.int .i64 (q.1:Nat),.int .i64 (q.2:Nat)],.nilIface]) (by simp[results,Tryz.results52,go_sem,t0,t1,t2,t3]) rfl ⟨rfl,?_,?_⟩
 ·have:=HR4.out;unfold Rd at this ⊢;rw[other4 _ _ _ _ _ _ (by omega)];exact this
 exact grown_new HG4.out (grown4 _ _ _ _ _ _) (Nat.le_refl _)
def tokCells (t:Tok):List Value:=[.int .i64 (t.kind:Nat),.string ⟨t.text.toArray⟩,.int .i64 (t.line:Nat),.int .i64 (t.col:Nat)]
def Tk (w:World) (base:Nat) (e:TypeId) (v:Value) (ts:List Tok):Prop:=w.ownsRow base e 4 v ts.length (ts.flatMap tokCells)
theorem tok_at (ts:List Tok) (k j:Nat) (hk:k<ts.length) (hj:j<4):(ts.flatMap tokCells)[k*4+j]?=(tokCells ts[k])[j]?:=by
 induction ts generalizing k with
 | nil=>simp at hk
 | cons t ts ih =>
  have hl:(tokCells t).length=4:=rfl
  cases k with
  | zero=>simp only[List.flatMap_cons,List.getElem_cons_zero];rw[List.getElem?_append_left (by omega)];simp
  | succ k =>
   simp only[List.flatMap_cons,List.getElem_cons_succ];rw[List.getElem?_append_right (by omega),<-ih k (by simpa using hk),hl]
   congr 1;omega
theorem Tk.nil (w:World) (base:Nat) (e:TypeId):Tk w base e (.slice none 0 0) []:=World.ownsRow_nil w base e 4
theorem Tk.form {w:World} {base:Nat} {e:TypeId} {v:Value} {ts:List Tok} (h:Tk w base e v ts):∃ a cap,v=.slice a ts.length cap/\ts.length<=cap/\cap<=maxLen/\(ts ≠ []->∃ g,a=some ⟨g,0,none⟩/\base<=g/\g<w.heap.size/\∀ k (hk:k<ts.length),w.cell? ⟨g,k*4,none⟩=some (.int .i64 (ts[k].kind:Nat))/\w.cell? ⟨g,k*4+1,none⟩=some (.string ⟨ts[k].text.toArray⟩)/\w.cell? ⟨g,k*4+2,none⟩=some (.int .i64 (ts[k].line:Nat))/\w.cell? ⟨g,k*4+3,none⟩=some (.int .i64 (ts[k].col:Nat))):=by
 have h0:=h;rcases h.2 with ⟨rfl,hn⟩ | ⟨g,cap,cur,rfl,hb,hg,hn,hm,hs,ht⟩
 ·refine⟨none,0,by rw[hn],by omega,Nat.zero_le _,fun hne=>absurd (List.eq_nil_of_length_eq_zero hn) hne⟩
 refine⟨some ⟨g,0,none⟩,cap,rfl,hn,hm,fun _=>⟨g,rfl,hb,lt_of_block hg,fun k hk=>?_⟩⟩
 have hc:∀ j,j<4->w.cell? ⟨g,k*4+j,none⟩=(tokCells ts[k])[j]?:=fun j hj=>by
  rw[World.ownsRow.cellAt h0 (k*4+j) (by omega),tok_at ts k j hk hj]
 exact⟨hc 0 (by omega),hc 1 (by omega),hc 2 (by omega),hc 3 (by omega)⟩
theorem Tk.lt {w:World} {base:Nat} {e:TypeId} {v:Value} {ts:List Tok} (h:Tk w base e v ts):∀ j,v.ownBlock=some j->base<=j/\j<w.heap.size:=fun j hj=>World.ownsRow.lt h j hj
theorem Tk.below {w w':World} {base:Nat} {e:TypeId} {v:Value} {ts:List Tok} (h:Tk w base e v ts) (hb:Below w.heap.size w w'):Tk w' base e v ts:=
 World.ownsRow.kept h (below_grown hb none) (by cases hv:v.ownBlock with | none=>exact .inl rfl | some g=>exact .inr (show some g≠none by simp))
theorem Tk.grown {w w':World} {base g:Nat} {e:TypeId} {v:Value} {ts:List Tok} (h:Tk w base e v ts) (hg:w.grownBy w' (some g)) (hlt:g<base):Tk w' base e v ts:=
 World.ownsRow.kept h hg (by cases hv:v.ownBlock with | none=>exact .inl rfl | some j=>refine .inr (fun e=>?_);injection e with e;have:=(h.lt j hv).1;omega)
theorem wpList_append_tok {P:Program} (w:World) {ops:Array Oper} {rest:List Oper} {o:Oper} {a:Act} {Q:Exit->Act->World->Prop} (hgd:o.guard=none) (s x:Operand) (t:TypeId)
  (ho:o.op=.call { callee:=.builtin .append,args:=#[s,x],argTypes:=#[t,t] })
  (e:TypeId) (ht:P.underlying t=some (.slice e)) (hinfo:(P.info? e).map (fun i=>(i.zero,i.size,i.bytes))=some (some (.agg #[.int .i64 0,.string ⟨#[]⟩,.int .i64 0,.int .i64 0]),4,40))
  (base:Nat) (v:Value) (ts:List Tok) (hs:a.eval s=v) (hown:Tk w base e v ts)
  (h:Nat) (T:TypeId) (tk:Tok) (hx:a.eval x=.slice (some ⟨h,0,none⟩) 1 1) (hc:w.heap[h]?=some (.cells (tokCells tk).toArray T (0,0)))
  (hlen:ts.length<=1000000000) (hbase:base<=w.heap.size)
  (hK:∀ v' w',Tk w' base e v' (ts++[tk])->w.grownBy w' v.ownBlock->wpList P ops Q rest (a.put o.dst v') w'):wpList P ops Q (o::rest) a w:=by
 obtain⟨i,hi,hz,hz1,hz2⟩:=info_parts hinfo;refine wpList_append_own w hgd s x t ho base e i _ 4 40 ht hi hz hz1 hz2 rfl (by decide) v ts.length _ hs hown ⟨h,0,none⟩ 1 1 (tokCells tk) hx rfl ?_ ?_ (by unfold maxLen;omega) (by omega) hbase ?_
 ·intro j u hj;exact World.news_of_block hc j u (by simpa using hj)
 ·intro u hu;simp only[tokCells,List.mem_cons,List.not_mem_nil,or_false] at hu;rcases hu with rfl | rfl | rfl | rfl<;>rfl
 intro v' w' h1 h2 _;refine hK v' w' ?_ h2;unfold Tk;rw[List.flatMap_append,lsa]
 simpa [List.flatMap_cons] using h1
theorem infoTok:(Tryz.prog.info? 103).map (fun i=>(i.zero,i.size,i.bytes))=some (some (.agg #[.int .i64 0,.string ⟨#[]⟩,.int .i64 0,.int .i64 0]),4,40):=by kernel_rfl
def LexPost (l:Bs) (w0:World) (e:Ending) (w':World):Prop:=
 Below w0.heap.size w0 w' /\
 (((lexS l (1,1)).2=0/\∃ v,e=.returned (.tuple #[v,.nilIface])/\Tk w' (w0.heap.size+1) 103 v (lexS l (1,1)).1) \/
  ((lexS l (1,1)).2≠0/\∃ q t,(lexS l (1,1)).1.getLast?=some t/\e=.returned (.tuple #[.slice none 0 0,.iface 81 (.pointer (some ⟨q,0,none⟩))])/\AtB w' q (t.line,t.col) (.iface 34 (.int .i64 ((lexS l (1,1)).2:Nat)))/\w0.heap.size<=q))
theorem grown_belowR {w w':World} {B:Nat} {row:Option Nat} (h:w.grownBy w' row) (hB:B<=w.heap.size) (hr:∀ j,row=some j->B<=j):Below B w w':=
 ⟨h.os,h.tape,h.output,h.size,fun k hk=>h.block k (by omega) (fun e=>by have:=hr k e.symm;omega)⟩
def restLen (w:World) (g:Nat):Nat:=match w.cell? ⟨g,0,none⟩ with | some (.string b)=>b.size | _=>0
theorem Rd.len {w:World} {g:Nat} {l:Bs} {p:Nat × Nat} (h:Rd w g l p):restLen w g=l.length:=by
 unfold restLen;rw[cell_at h 0 rfl];rfl
def LexInv (l:Bs) (w0:World) (tv:Value) (wr:World):Prop:=
 ∃ (ts:List Tok) (s:Bs) (p:Nat × Nat),Rd wr w0.heap.size s p/\Tk wr (w0.heap.size+1) 103 tv ts/\ts++(lexS s p).1=(lexS l (1,1)).1/\(lexS s p).2=(lexS l (1,1)).2 /\
  s.length+ts.length<=l.length/\(∃ pre,pre++s=l/\p=adv (1,1) pre)/\Below w0.heap.size w0 wr
theorem lex_any (l:Bs) (w0:World) (hl:l.length<=20000) :
  Calls Tryz.prog 29 #[.string ⟨l.toArray⟩] w0 (LexPost l w0):=by
 have hsz:(⟨l.toArray⟩:ByteArray).size=l.length:=rfl;have hd:decide ((20000:Int)<(l.length:Int))=false:=by simp;omega
 go_enter Tryz.func29,Tryz.ntmps29
 go_wp2_with fail
 go_loopw [5] (fun tv wr=>LexInv l w0 tv wr) (fun _ wr=>restLen wr w0.heap.size)
 case atStart =>
  exact⟨[],l,(1,1),made_at w0 _ _ rfl,Tk.nil _ _ _,rfl,rfl,by simp,⟨[],rfl,rfl⟩,(Below.refl _ _).alloc (Nat.le_refl _) _⟩
 case round =>
  obtain⟨ts,s,p,hR,hT,he1,he2,hlen,⟨pre,hpre,hp⟩,hb⟩:=hrel;have hpl:pre.length+s.length=l.length:=by rw[<-hpre,lsa]
  have hpb:=adv_bd (1,1) pre;rw[<-hp] at hpb;have hp1:p.1<=900000:=by simp only at hpb;omega
  have hp2:p.2<=900000:=by simp only at hpb;omega
  have hsl:s.length<=20000:=by omega
  have htl:ts.length<=20000:=by omega
  have hz0:=hb.size;have HR:=h_ hR;have HT:=h_ hT;have HE1:=h_ he1;have HE2:=h_ he2;have HP:=h_ hpre;have HPP:=h_ hp;have HBw:=h_ hb;have HLn:=h_ hlen;clear hR hT he1 he2 hpre hp hb hpl hpb hlen
  by_cases hs:∃ c,s.drop (gapL false s) ≠ []/\meas (s.drop (gapL false s))=.bad c
  ·obtain⟨c,hs1,hs2⟩:=hs;have HX:=h_ (lex_bad (p:=p) hs1 hs2);have HS:=h_ hs2;have hc:=meas_bad hs2;clear hs1 hs2;go_wp2_with fail
   refine (next_bad w0.heap.size s p wr c HR.out hsl hp1 hp2 HS.out).mono ?_;rintro e w2 ⟨q,rfl,hA,hq,hG⟩;have HA:=h_ hA;have HG:=h_ hG;clear hA hG
   go_wp2
   go_ret2
   have h2:(lexS l (1,1)).2=c:=by rw[<-HE2.out,HX.out]
   have h1:(lexS l (1,1)).1.getLast?=some ⟨4,[],(adv p (s.take (gapL false s))).1,(adv p (s.take (gapL false s))).2⟩:=by rw[<-HE1.out,HX.out];simp
   refine⟨(HBw.out.trans (grown_below HG.out hz0 (Nat.le_refl _))).alloc (by have:=HG.out.size;omega) _,.inr ⟨by rw[h2];omega,q,_,h1,rfl,?_,by omega⟩⟩;rw[h2];have:=HA.out;unfold AtB at this ⊢;rw[Below.heap_alloc w2 _ q (lt_of_block this)];exact this
  obtain⟨k,m,hm,hml⟩:∃ k m,meas (s.drop (gapL false s))=.ok k m/\m<=(s.drop (gapL false s)).length:=by
   by_cases h0:s.drop (gapL false s)=[]
   ·exact⟨4,0,by rw[h0];rfl,Nat.zero_le _⟩
   cases hmm:meas (s.drop (gapL false s)) with
   | ok k m=>exact⟨k,m,rfl,(meas_ok h0 hmm).2.2.1⟩
   | bad c=>exact absurd ⟨c,h0,hmm⟩ hs
  have hN:=next_ok w0.heap.size s p wr k m HR.out hsl hp1 hp2 hm hml;obtain⟨s1,hs1⟩:∃ s1,s1=s.drop (gapL false s):=⟨_,rfl⟩
  obtain⟨q,hq⟩:∃ q,q=adv p (s.take (gapL false s)):=⟨_,rfl⟩
  have hX:k=4->m=0->s1=[]->lexS s p=([⟨4,[],q.1,q.2⟩],0):=fun _ _ h0=>by
   rw[lex_end (by rw[<-hs1];exact h0),hq,List.take_of_length_le (List.drop_eq_nil_iff.1 (by rw[<-hs1];exact h0))]
  have hY:s1 ≠ []->lexS s p=(⟨k,s1.take m,q.1,q.2⟩::(lexS (s1.drop m) (adv q (s1.take m))).1,(lexS (s1.drop m) (adv q (s1.take m))).2):=fun h0=>by
   rw[lex_tok (k:=k) (n:=m) (by rw[<-hs1];exact h0) hm,<-hs1,<-hq]
  have hs1l:s1.length<=s.length:=by rw[hs1,List.length_drop];omega
  have hq1:q=adv (1,1) (pre++s.take (gapL false s)):=by rw[adv_app,<-HPP.out];exact hq
  have hpre1:(pre++s.take (gapL false s))++s1=l:=by rw[hs1,List.append_assoc,List.take_append_drop];exact HP.out
  rw[<-hs1,<-hq] at hN;rw[<-hs1] at hm hml;have HN:=h_ hN;have HM:=h_ hm;have HX:=h_ hX;have HY:=h_ hY;have HQ1:=h_ hq1;have HPR:=h_ hpre1
  have hk4:(k=4/\m=0/\s1=[])\/(k<4/\1<=m/\s1 ≠ []):=by
   by_cases h0:s1=[]
   ·rw[h0] at hm;injection hm with e1 e2;exact .inl ⟨e1.symm,e2.symm,h0⟩
   have:=meas_ok h0 hm;exact .inr ⟨this.1,this.2.1,h0⟩
  clear hs hm hN hX hY hs1 hq hq1 hpre1;go_wp2_with fail
  refine HN.out.mono ?_;rintro e w2 ⟨rfl,hR2,hG⟩;have hT2:=HT.out.grown hG (Nat.lt_succ_self _);have HR2:=h_ hR2;have HG:=h_ hG;have hz2:wr.heap.size<=w2.heap.size:=hG.size;have hlow:=hT2.lt;obtain⟨W,hW⟩:∃ W,W=(w2.alloc (.cells #[.int .i64 (k:Nat),.string ⟨(s1.take m).toArray⟩,.int .i64 (q.1:Nat),.int .i64 (q.2:Nat)] 103)).alloc (.cells #[.int .i64 (k:Nat),.string ⟨(s1.take m).toArray⟩,.int .i64 (q.1:Nat),.int .i64 (q.2:Nat)] 103):=⟨_,rfl⟩
  have hbW:Below w2.heap.size w2 W:=by rw[hW];exact ((Below.refl _ _).alloc (Nat.le_refl _) _).alloc (by simp) _
  have hTW:=hT2.below hbW
  have hLW:W.heap[w2.heap.size]?=some (.cells #[.int .i64 (k:Nat),.string ⟨(s1.take m).toArray⟩,.int .i64 (q.1:Nat),.int .i64 (q.2:Nat)] 103 (0,0)):=by
   rw[hW,Below.heap_alloc _ _ _ (by simp)];exact made_at w2 _ _ rfl
  have hNW:W.heap[w2.heap.size+1]?=some (.cells (tokCells ⟨k,s1.take m,q.1,q.2⟩).toArray 103 (0,0)):=by
   rw[hW];exact made_at _ _ _ (by simp)
  have hF:∀ w5,W.grownBy w5 u5.ownBlock->w5.cell? ⟨w2.heap.size,0,none⟩=some (.int .i64 (k:Nat)):=fun w5 h5 =>
   (World.cell?_of_block (h5.block _ (lt_of_block hLW) (fun e=>absurd (hlow _ e.symm).2 (Nat.lt_irrefl _)))).trans (cell_at hLW 0 rfl)
  have hB5:∀ w5,W.grownBy w5 u5.ownBlock->Below w0.heap.size w0 w5:=fun w5 h5 =>
   ((HBw.out.trans (grown_below hG hz0 (Nat.le_refl _))).trans (hbW.mono (by omega))).trans (grown_belowR h5 (by have:=hbW.size;omega) (fun j hj=>by have:=(hlow j hj).1;omega))
  have hR5:∀ w5,W.grownBy w5 u5.ownBlock->Rd w5 w0.heap.size (s1.drop m) (adv q (s1.take m)):=fun w5 h5=>by
   have h:=hR2.below hbW;unfold Rd at h ⊢;rw[h5.block _ (lt_of_block h) (fun e=>by have:=(hlow _ e.symm).1;omega)];exact h
  rw[hW] at hTW hNW hF hB5 hR5;have HB5:=h_ hB5;have HR5:=h_ hR5;have HTW:=h_ hTW;have HNW:=h_ hNW;have HF:=h_ hF;have HW:=h_ hW;have HbW:=h_ hbW;have HT2:=h_ hT2;have hbs:w0.heap.size+1<=w2.heap.size:=HR2.out.lt;clear hR2 hG hT2 hTW hNW hF hW hLW hbW hlow hB5 hR5;rcases hk4 with ⟨rfl,hm0,h0⟩ | ⟨hk4,hm1,h0⟩
  ·have H0:=h_ h0;have HM0:=h_ hm0;clear h0 hm0;go_wp2_with (at_builtin;refine wpList_append_tok _ rfl (.tmp 22) (.tmp 24) 95 rfl 103 Tryz.underlying95 infoTok (w0.heap.size+1) u5 ts rfl HTW.out (w2.heap.size+1) 103 ⟨4,s1.take m,q.1,q.2⟩ rfl HNW.out (by omega) (by simp;omega) ?_;intro v' w5 hT5 hG5;have k0:=HF.out w5 hG5;have HT5:=h_ hT5;have HG5:=h_ hG5;clear hT5 hG5)
   go_ret2
   have hx:=HX.out (by trivial) HM0.out H0.out;have hT5:=HT5.out;rw[H0.out,List.take_nil] at hT5;refine⟨HB5.out w5 HG5.out,.inl ⟨by rw[<-HE2.out,hx],v',rfl,?_⟩⟩;rw[<-HE1.out,hx];exact hT5
  have hk:((k:Int)==4)=false:=by rw[beq_eq_false_iff_ne];omega
  have H0:=h_ h0;clear h0;go_wp2_with (at_builtin;refine wpList_append_tok _ rfl (.tmp 22) (.tmp 24) 95 rfl 103 Tryz.underlying95 infoTok (w0.heap.size+1) u5 ts rfl HTW.out (w2.heap.size+1) 103 ⟨k,s1.take m,q.1,q.2⟩ rfl HNW.out (by omega) (by simp;omega) ?_;intro v' w5 hT5 hG5;have k0:=HF.out w5 hG5;have HT5:=h_ hT5;have HG5:=h_ hG5;clear hT5 hG5)
  go_roundw
  case rel =>
   have hy:=HY.out H0.out;refine⟨ts++[⟨k,s1.take m,q.1,q.2⟩],s1.drop m,adv q (s1.take m),HR5.out w5 HG5.out,HT5.out,?_,?_,?_,⟨(pre++s.take (gapL false s))++s1.take m,?_,?_⟩,HB5.out w5 HG5.out⟩
   ·rw[<-HE1.out,hy];simp
   ·rw[<-HE2.out,hy]
   ·have:=HLn.out;simp only[lsa,List.length_drop,lsc,lsn];omega
   ·rw[List.append_assoc,List.take_append_drop];exact HPR.out
   rw[adv_app,<-HQ1.out]
  case measure=>rw[(HR5.out w5 HG5.out).len,HR.out.len,List.length_drop];omega
set_option linter.unusedVariables false
def tokV (t:Tok):Value:=.agg #[.int .i64 (t.kind:Nat),.string ⟨t.text.toArray⟩,.int .i64 (t.line:Nat),.int .i64 (t.col:Nat)]
def Toks (w:World) (b:Nat):Nat->List Tok->Prop
 | _,[]=>True
 | o,t::ts=>(w.cell? ⟨b,o,none⟩=some (.int .i64 (t.kind:Nat))/\w.cell? ⟨b,o+1,none⟩=some (.string ⟨t.text.toArray⟩)/\w.cell? ⟨b,o+2,none⟩=some (.int .i64 (t.line:Nat))/\w.cell? ⟨b,o+3,none⟩=some (.int .i64 (t.col:Nat)))/\Toks w b (o+4) ts
theorem Toks.keep {w w':World} {b:Nat} (hk:w'.heap[b]?=w.heap[b]?):∀ {o:Nat} {l:List Tok},Toks w b o l->Toks w' b o l
 | _,[],_=>trivial
 | o,t::ts,⟨⟨h0,h1,h2,h3⟩,h⟩=>by
  have e:∀ i,w'.cell? ⟨b,i,none⟩=w.cell? ⟨b,i,none⟩:=fun i=>World.cell?_of_block hk
  exact⟨⟨by rw[e];exact h0,by rw[e];exact h1,by rw[e];exact h2,by rw[e];exact h3⟩,h.keep hk⟩
theorem Toks.drop {w:World} {b:Nat}:∀ {o:Nat} {l:List Tok} (n:Nat),Toks w b o l->Toks w b (o+4*n) (l.drop n)
 | o,l,0,h=>h
 | o,[],n+1,h=>by simp[Toks]
 | o,t::ts,n+1,h=>by
  have:=Toks.drop n h.2;rw[show o+4*(n+1)=o+4+4*n by omega];exact this
def ErrAt (w:World) (g:Nat) (v:Value):Option (Nat × Nat × Nat)->Prop
 | none=>v=.nilIface
 | some (c,l,k)=>∃ q,v=.iface 81 (.pointer (some ⟨q,0,none⟩))/\AtB w q (l,k) (.iface 34 (.int .i64 (c:Nat)))/\q≠g
def PSA (w:World) (g:Nat) (s:St):Prop:=∃ b o c ev,w.heap[g]?=some (.cells #[.slice (some ⟨b,o,none⟩) s.rest.length c,ev] 99 (0,0))/\GoodL s.rest/\s.rest.length<=c/\c<=maxLen/\b<g/\b<w.heap.size/\Toks w b o s.rest/\ErrAt w g ev s.err
theorem ErrAt.keep {w w':World} {g:Nat} {v:Value} {x:Option (Nat × Nat × Nat)} (h:ErrAt w g v x) (hk:∀ q,q≠g->q<w.heap.size->w'.heap[q]?=w.heap[q]?):ErrAt w' g v x:=by
 match x,h with
 | none,h=>exact h
 | some (c,l,k),h =>
  obtain⟨q,h1,h2,h3⟩:=h;refine⟨q,h1,?_,h3⟩;unfold AtB at h2 ⊢;rw[hk q h3 (lt_of_block h2)];exact h2
theorem PSA.lt {w:World} {g:Nat} {s:St} (h:PSA w g s):g<w.heap.size:=by obtain⟨b,o,c,ev,h,-⟩:=h;exact lt_of_block h
theorem PSA.below {w w':World} {g:Nat} {s:St} (h:PSA w g s) (hb:Below w.heap.size w w'):PSA w' g s:=by
 obtain⟨b,o,c,ev,h1,h2,h3,h4,h5,h6,h7,h8⟩:=h;exact⟨b,o,c,ev,by rw[hb.block _ (lt_of_block h1)];exact h1,h2,h3,h4,h5,Nat.lt_of_lt_of_le h6 hb.size,h7.keep (hb.block _ h6),h8.keep fun q _ hq=>hb.block _ hq⟩
theorem PSA.good {w:World} {g:Nat} {s:St} (h:PSA w g s):GoodL s.rest:=by obtain⟨b,o,c,ev,h1,h2,-⟩:=h;exact h2
theorem PSA.cells {w:World} {g:Nat} {s:St} (h:PSA w g s):∃ b o c ev,w.heap[g]?=some (.cells #[.slice (some ⟨b,o,none⟩) s.rest.length c,ev] 99 (0,0))/\1<=s.rest.length/\s.rest.length<=c/\c<=maxLen/\b<g /\
  w.cell? ⟨b,o,none⟩=some (.int .i64 (s.nx.kind:Nat))/\w.cell? ⟨b,o+1,none⟩=some (.string ⟨s.nx.text.toArray⟩)/\w.cell? ⟨b,o+2,none⟩=some (.int .i64 (s.nx.line:Nat))/\w.cell? ⟨b,o+3,none⟩=some (.int .i64 (s.nx.col:Nat)) /\
  b<w.heap.size/\GoodL s.rest/\Toks w b o s.rest/\ErrAt w g ev s.err:=by
 obtain⟨b,o,c,ev,h1,h2,h3,h4,h5,h6,h7,h8⟩:=h;refine⟨b,o,c,ev,h1,List.length_pos_iff.2 h2.ne,h3,h4,h5,?_⟩;unfold St.nx;obtain⟨rest,err⟩:=s;simp only at h2 h7 h8 ⊢
 match rest,h2,h7 with
 | t::ts,h2,h7=>exact⟨h7.1.1,h7.1.2.1,h7.1.2.2.1,h7.1.2.2.2,h6,h2,h7,h8⟩
def PS (w:World) (g:Nat) (s:St):Prop:=PSA w g s/\s.rest.length<=30000
theorem PS.lt {w:World} {g:Nat} {s:St} (h:PS w g s):g<w.heap.size:=h.1.lt
theorem PS.below {w w':World} {g:Nat} {s:St} (h:PS w g s) (hb:Below w.heap.size w w'):PS w' g s:=⟨h.1.below hb,h.2⟩
theorem PS.good {w:World} {g:Nat} {s:St} (h:PS w g s):GoodL s.rest:=h.1.good
theorem len_tk (s:St):s.tk.rest.length<=s.rest.length:=by unfold St.tk;split<;>simp
theorem len_fail (s:St) (t:Tok) (c:Nat):(s.fail t c).rest.length<=s.rest.length:=by unfold St.fail;simp
theorem next_p (g:Nat) (s:St) (w:World) (h:PS w g s) :
  Calls Tryz.prog 33 #[.pointer (some ⟨g,0,none⟩)] w fun e w'=>e=.returned (tokV s.nx)/\Below w.heap.size w w':=by
 obtain⟨b,o,c,ev,h1,h2,h3,h4,h5,c0,c1,c2,c3,h6,h7,h8,h9⟩:=(h.below ((Below.refl _ _).alloc (Nat.le_refl _) (.cells #[.int .i64 0,.string ⟨#[]⟩,.int .i64 0,.int .i64 0] 103))).1.cells;have g0:=cell_at (v:=.slice (some ⟨b,o,none⟩) s.rest.length c) h1 0 rfl;unfold tokV;generalize s.nx=t at *;generalize s.rest.length=n at *;clear h1 h7 h8 h9 h;go_enter Tryz.func33,Tryz.ntmps33
 go_wp2
 exact bodyPost_ret (v:=.agg #[.int .i64 (t.kind:Nat),.string ⟨t.text.toArray⟩,.int .i64 (t.line:Nat),.int .i64 (t.col:Nat)]) (by simp[results,Tryz.results33,go_sem]) rfl ⟨rfl,(Below.refl _ _).alloc (Nat.le_refl _) _⟩
def Did (w:World) (g:Nat) (s:St) (w':World):Prop:=PS w' g s/\w.grownBy w' (some g)
theorem PSA.move {w':World} {g b o c:Nat} {ev:Value} {s:St} (hg:w'.heap[g]?=some (.cells #[.slice (some ⟨b,o+4,none⟩) (s.rest.length - 1) (c - 1),ev] 99 (0,0))) (hk:s.nx.kind≠4) (h2:GoodL s.rest) (h3:s.rest.length<=c) (h4:c<=maxLen) (h5:b<g) (h6:b<w'.heap.size) (h7:Toks w' b o s.rest) (h8:ErrAt w' g ev s.err):PSA w' g s.tk:=by
 have e:s.tk=⟨s.rest.drop 1,s.err⟩:=by unfold St.tk;rw[if_neg hk]
 rw[e];exact⟨b,o+4,c - 1,ev,by rw[hg];simp only[List.length_drop],h2.tail hk,by simp only[List.length_drop];omega,by omega,h5,h6,h7.drop 1,h8⟩
theorem Toks.below {w w':World} {b o:Nat} {l:List Tok} (h:Toks w b o l) (hl:b<w.heap.size) (hb:Below w.heap.size w w'):Toks w' b o l:=h.keep (hb.block _ hl)
theorem PSA.store {w w':World} {g k:Nat} {s:St} (h:PSA w g s) {c:Array Value} {T:TypeId} (hB:w.heap[k]?=some (.cells c T (0,0))) (hT:T≠86) (hk:g<k) (hg:w.grownBy w' (some k)):PSA w' g s:=by
 obtain⟨b,o,cc,ev,h1,h2,h3,h4,h5,h6,h7,h8⟩:=h;have e:∀ q,q≠k->q<w.heap.size->w'.heap[q]?=w.heap[q]?:=fun q hq hl=>hg.block q hl (fun e=>by injection e with e;exact hq e)
 refine⟨b,o,cc,ev,by rw[e g (by omega) (lt_of_block h1)];exact h1,h2,h3,h4,h5,Nat.lt_of_lt_of_le h6 hg.size,h7.keep (e b (by omega) h6),?_⟩;obtain⟨rest,err⟩:=s;simp only at h8 ⊢
 match err,h8 with
 | none,h8=>exact h8
 | some (c,l,k'),h8 =>
  obtain⟨q,q1,q2,q3⟩:=h8;refine⟨q,q1,?_,q3⟩;unfold AtB at q2 ⊢;rw[e q (fun e=>by subst e;rw[hB] at q2;injection q2 with q2;injection q2 with _ q2;exact hT q2) (lt_of_block q2)];exact q2
theorem PS.store {w w':World} {g k:Nat} {s:St} (h:PS w g s) {c:Array Value} {T:TypeId} (hB:w.heap[k]?=some (.cells c T (0,0))) (hT:T≠86) (hk:g<k) (hg:w.grownBy w' (some k)):PS w' g s:=⟨h.1.store hB hT hk hg,h.2⟩
theorem two_left {s:St} (h:GoodL s.rest) (hk:s.nx.kind≠4):2<=s.rest.length:=by
 have:=List.length_pos_iff.2 (h.tail hk).ne;simp only[List.length_drop] at this;omega
theorem take_p (g:Nat) (s:St) (w:World) (h:PS w g s) :
  Calls Tryz.prog 53 #[.pointer (some ⟨g,0,none⟩)] w fun e w'=>e=.returned (tokV s.nx)/\Did w g s.tk w':=by
 have HP:=h_ h;clear h;go_enter Tryz.func53,Tryz.ntmps53
 go_upto_region 1 with fail
 obtain⟨w1,k0,hw,hkk,hb,-,HB0⟩:=newb w #[.int .i64 0,.string ⟨#[]⟩,.int .i64 0,.int .i64 0] 103;have hg0:g<k0:=by rw[hkk];exact HP.out.lt
 have hN0:w.heap.size<=k0:=by omega
 rw[hw,<-hkk];replace HP:=h_ (HP.out.below hb);have HD:=h_ (below_grown hb (some g));clear hw hb hkk;go_wp2_with fail
 refine (next_p g s w1 HP.out).mono ?_;rintro e w2 ⟨rfl,hb⟩;replace HB0:=kB hb HB0;replace HP:=h_ (HP.out.below hb);replace HD:=dB HD hb;clear hb;simp only[tokV];generalize hnx:s.nx=t at *;have HN:=h_ hnx;clear hnx;go_upto_region 2 with fail
 obtain⟨w3,k1,hw,hkk,hb,-,HB1⟩:=newb w2 #[.int .i64 (t.kind:Nat),.string ⟨t.text.toArray⟩,.int .i64 (t.line:Nat),.int .i64 (t.col:Nat)] 103;have h01:=lk_ hkk HB0;rw[hw,<-hkk];replace HB0:=kB hb HB0;replace HP:=h_ (HP.out.below hb);replace HD:=dB HD hb;clear hw hb hkk;obtain⟨x0,x1,x2,x3⟩:=cl4 HB1.out
 by_cases hk:t.kind=4
 ·have hk4:((t.kind:Int) != 4)=false:=by simp;omega
  have HK:Hid (s.tk=s):=h_ (by unfold St.tk;rw[HN.out,if_pos hk]);clear hk;obtain⟨z0,z1,z2,z3⟩:=cl4 HB0.out;obtain⟨f0,f1,f2,f3⟩:=fr4 HB0.out;go_wp2_with fail
  refine bodyPost_ret (v:=.agg #[.int .i64 (t.kind:Nat),.string ⟨t.text.toArray⟩,.int .i64 (t.line:Nat),.int .i64 (t.col:Nat)]) (by simp[results,Tryz.results53,go_sem,z0,z1,z2,z3]) rfl ⟨by rw[HN.out];rfl,?_,?_⟩
  ·rw[HK.out];exact HP.out.store HB0.out (by decide) hg0 (grown4 _ _ _ _ _ _)
  exact grown_new HD.out (grown4 _ _ _ _ _ _) hN0
 have hk4:((t.kind:Int) != 4)=true:=by simp;omega
 have HK:=h_ (show s.nx.kind≠4 by rw[HN.out];exact hk);clear hk;obtain⟨b,o,c,ev,h1,h2,h3,h4,h5,c0,c1,c2,c3,h6,h7,h8,h9⟩:=HP.out.1.cells;have q0:=cell_at (v:=.slice (some ⟨b,o,none⟩) s.rest.length c) h1 0 rfl;have fz:=froz_at h1 0;have HG:=h_ (And.intro h1 (And.intro h3 (And.intro h4 (And.intro h5 (And.intro h6 (And.intro h7 (And.intro h8 h9)))))));clear h1 h3 h5 h6 h7 h8 h9 c0 c1 c2 c3;have hlen:s.rest.length<=9223372036854775807:=by unfold maxLen at h4;have:=HG.out.2.1;omega
 have hcc:c<=9223372036854775807:=by unfold maxLen at h4;omega
 have hlc:=HG.out.2.1;generalize hn:s.rest.length=n at *;have HL:=h_ hn;clear hn h4;have hc1:¬ c=1:=by have:=two_left HG.out.2.2.2.2.2.1 HK.out;rw[HL.out] at this;omega
 go_upto_region 4 with fail
 obtain⟨w4,hw⟩:∃ x,x=w3.setCell ⟨g,0,none⟩ (.slice (some ⟨b,o+4,none⟩) (n - 1) (c - 1)):=⟨_,rfl⟩
 have hg:w3.grownBy w4 (some g):=by rw[hw];exact grown_set _ g 0 _
 have hgb:w4.heap[g]?=some (.cells #[.slice (some ⟨b,o+4,none⟩) (n - 1) (c - 1),ev] 99 (0,0)):=by rw[hw,heap_setCell_same _ g 0 _ _ _ HG.out.1];rfl
 rw[<-hw];obtain⟨g1,g2,g3,g4,g5,g6,g7,g8⟩:=HG.out;replace HP:Hid (PS w4 g s.tk):=h_ ⟨PSA.move (by rw[HL.out];exact hgb) HK.out g6 (by rw[HL.out];exact g2) g3 g4 (Nat.lt_of_lt_of_le g5 hg.size) (g7.keep (hg.block b g5 (fun e=>by injection e with e;omega))) (g8.keep fun q h1 h2=>hg.block q h2 (fun e=>by injection e with e;exact h1 e)),Nat.le_trans (len_tk s) HP.out.2⟩;replace HB0:=kG hg HB0;replace HB1:=kG hg HB1;replace HD:=h_ (grown_tr HD.out hg);clear hw hg hgb g1 g2 g3 g4 g5 g6 g7 g8 x0 x1 x2 x3 q0 fz;obtain⟨x0,x1,x2,x3⟩:=cl4 HB1.out;obtain⟨z0,z1,z2,z3⟩:=cl4 HB0.out;obtain⟨f0,f1,f2,f3⟩:=fr4 HB0.out;go_wp2_with fail
 refine bodyPost_ret (v:=.agg #[.int .i64 (t.kind:Nat),.string ⟨t.text.toArray⟩,.int .i64 (t.line:Nat),.int .i64 (t.col:Nat)]) (by simp[results,Tryz.results53,go_sem,z0,z1,z2,z3]) rfl ⟨by rw[HN.out];rfl,?_,?_⟩
 ·exact HP.out.store HB0.out (by decide) hg0 (grown4 _ _ _ _ _ _)
 exact grown_new HD.out (grown4 _ _ _ _ _ _) hN0
end Go.Proofs.YtpclhpfcbjgokaaGreatDoor
