/-
 Joined texts: PsL,PsO,PsK,ScB,ScM,ScN,ScP,ScT,PsKi,ScC,ScD,PsPa,PsPb.
-/
import Derived.Maps.OwnSet
import Derived.Test.YtpclhpfcbjgokaaGreatDoorJScopeChecks1
import Derived.Test.YtpclhpfcbjgokaaGreatDoorJScopeChecks3
set_option maxHeartbeats 32000000
namespace Go.Proofs.YtpclhpfcbjgokaaGreatDoor
set_option maxRecDepth 100000
set_option linter.unusedVariables false
theorem good_tk {s:St} (h:GoodL s.rest):GoodL s.tk.rest:=by
 unfold St.tk
 split
 ·exact h
 rename_i hk;exact h.tail hk
theorem good_last:∀ {l:List Tok},GoodL l->GoodL (l.drop (l.length - 1))
 | [],h=>h
 | [t],h=>h
 | t::u::ts,h=>by
  have:=good_last h.2.2;simp only[lsc,Nat.add_sub_cancel] at this ⊢;rw[List.drop_succ_cons];exact this
theorem good_fail {s:St} (h:GoodL s.rest) (t:Tok) (c:Nat):GoodL (s.fail t c).rest:=good_last h
theorem good_exp {s:St} (h:GoodL s.rest) (w:Bs):GoodL (s.exp w).rest:=by unfold St.exp;split;exact good_tk h;exact good_fail h _ _
theorem good_name {s:St} (h:GoodL s.rest):GoodL s.name.rest:=by unfold St.name;split;exact good_tk h;exact good_fail (good_tk h) _ _
theorem c_good (n:Nat):(∀ s x,GoodL s.rest->cExpr n s=some x->GoodL x.2.rest)/\(∀ s x,GoodL s.rest->cLet n s=some x->GoodL x.2.rest)/\(∀ s x,GoodL s.rest->cIf n s=some x->GoodL x.2.rest)/\(∀ s x,GoodL s.rest->cMatch n s=some x->GoodL x.2.rest)/\(∀ s x,GoodL s.rest->cAssert n s=some x->GoodL x.2.rest) /\
  (∀ l s x,GoodL s.rest->cBin n l s=some x->GoodL x.2.rest)/\(∀ l e v s x,GoodL s.rest->cLoop n l e v s=some x->GoodL x.2.rest)/\(∀ s x,GoodL s.rest->cOne n s=some x->GoodL x.2.rest)/\(∀ s x,GoodL s.rest->cAtom n s=some x->GoodL x.2.rest)/\(∀ s x,GoodL s.rest->cArgs n s=some x->GoodL x.2.rest)/\(∀ l s x,GoodL s.rest->cMore n l s=some x->GoodL x.2.rest):=by
 induction n with
 | zero=>refine⟨?_,?_,?_,?_,?_,?_,?_,?_,?_,?_,?_⟩<;>intros<;>simp_all [cExpr,cLet,cIf,cMatch,cAssert,cBin,cLoop,cOne,cAtom,cArgs,cMore]
 | succ n ih =>
  obtain⟨i1,i2,i3,i4,i5,i6,i7,i8,i9,i10,i11⟩:=ih;refine⟨?_,?_,?_,?_,?_,?_,?_,?_,?_,?_,?_⟩
  ·intro s x g h;rw[cExpr] at h
   split at h;exact i2 _ _ g h
   split at h;exact i3 _ _ g h
   split at h;exact i4 _ _ g h
   split at h;exact i5 _ _ g h
   exact i6 _ _ _ g h
  ·intro s x g h;rw[cLet] at h;simp only[Option.bind_eq_some_iff] at h;obtain⟨r1,h1,r2,h2,h3⟩:=h;injection h3 with h3;subst h3
   show GoodL r2.2.rest
   exact i1 _ _ (good_exp (i1 _ _ (good_exp (good_name (good_tk g)) _) h1) _) h2
  ·intro s x g h;rw[cIf] at h;simp only[Option.bind_eq_some_iff] at h;obtain⟨r1,h1,r2,h2,r3,h3,h4⟩:=h;injection h4 with h4;subst h4
   show GoodL r3.2.rest
   exact i1 _ _ (good_exp (i1 _ _ (good_exp (i1 _ _ (good_tk g) h1) _) h2) _) h3
  ·intro s x g h;rw[cMatch] at h;simp only[Option.bind_eq_some_iff] at h;obtain⟨r1,h1,r2,h2,r3,h3,h4⟩:=h;injection h4 with h4;subst h4
   show GoodL r3.2.rest
   exact i1 _ _ (good_exp (good_name (good_exp (good_name (good_exp (i1 _ _ (good_exp (good_exp (good_exp (i1 _ _ (good_tk g) h1) _) _) _) h2) _)) _)) _) h3
  ·intro s x g h;rw[cAssert] at h;simp only[Option.bind_eq_some_iff] at h;obtain⟨r1,h1,r2,h2,h3⟩:=h;injection h3 with h3;subst h3
   show GoodL r2.2.rest
   exact i1 _ _ (good_exp (i1 _ _ (good_tk g) h1) _) h2
  ·intro l s x g h;rw[cBin,Option.bind_eq_some_iff] at h;obtain⟨r1,h1,h2⟩:=h;exact i7 _ _ _ _ _ (i8 _ _ g h1) h2
  ·intro l e v s x g h;rw[cLoop] at h
   split at h
   ·injection h with h;subst h;exact g
   split at h
   ·injection h with h;subst h;exact g
   rw[Option.bind_eq_some_iff] at h;obtain⟨r1,h1,h2⟩:=h;exact i7 _ _ _ _ _ (i6 _ _ _ (good_tk g) h1) h2
  ·intro s x g h;rw[cOne] at h
   split at h
   ·exact i9 _ _ g h
   rw[Option.bind_eq_some_iff] at h;obtain⟨r1,h1,h2⟩:=h;injection h2 with h2;subst h2
   show GoodL r1.2.rest
   exact i8 _ _ (good_tk g) h1
  ·intro s x g h;rw[cAtom] at h
   split at h
   ·injection h with h;subst h;exact good_tk g
   split at h
   ·split at h
    ·rw[Option.bind_eq_some_iff] at h;obtain⟨r1,h1,h2⟩:=h;injection h2 with h2;subst h2;exact i10 _ _ (good_tk (good_tk g)) h1
    injection h with h;subst h;exact good_tk g
   split at h
   ·injection h with h;subst h;exact good_tk g
   split at h
   ·injection h with h;subst h;exact good_tk g
   split at h
   ·injection h with h;subst h;exact good_tk g
   split at h
   ·injection h with h;subst h;exact good_tk g
   split at h
   ·rw[Option.bind_eq_some_iff] at h;obtain⟨r1,h1,h2⟩:=h;injection h2 with h2;subst h2;exact good_exp (i1 _ _ (good_tk g) h1) _
   injection h with h;subst h;exact good_fail (good_tk g) _ _
  ·intro s x g h;rw[cArgs] at h
   split at h
   ·injection h with h;subst h;exact good_tk g
   rw[Option.bind_eq_some_iff] at h;obtain⟨r1,h1,h2⟩:=h;exact i11 _ _ _ (i1 _ _ g h1) h2
  intro l s x g h;rw[cMore] at h
  split at h
  ·rw[Option.bind_eq_some_iff] at h;obtain⟨r1,h1,h2⟩:=h;exact i11 _ _ _ (i1 _ _ (good_tk g) h1) h2
  injection h with h;subst h;exact good_exp g _
theorem tk_one {s:St} (h:GoodL s.rest) (hk:s.nx.kind≠4):s.tk.rest.length+1=s.rest.length:=by
 have h4:=List.length_pos_iff.2 h.ne;unfold St.tk;rw[if_neg hk];simp;omega
theorem kind_alls {s:St} (h:GoodL s.rest) (e:s.nx.text ∈ alls):s.nx.kind≠4:=by
 rcases is_kind (w:=s.nx.text) (t:=s.nx) h.head e rfl with k | k<;>omega
theorem kind_is {s:St} (h:GoodL s.rest) {w:Bs} (hw:w ∈ alls) (e:s.is w=true):s.nx.kind≠4:=kind_alls h (by rw[St.is_true e];exact hw)
theorem isSome_bind {α β:Type} {o:Option α} {f:α->Option β} (h:o.isSome=true) (k:∀ a,o=some a->(f a).isSome=true):(o.bind f).isSome=true:=by
 cases o with
 | none=>cases h
 | some a=>exact k a rfl
theorem c_tot (n:Nat):(∀ s,GoodL s.rest->8*s.rest.length+7<=n->(cExpr n s).isSome=true)/\(∀ s,GoodL s.rest->s.nx.kind≠4->8*s.rest.length<=n->(cLet n s).isSome=true)/\(∀ s,GoodL s.rest->s.nx.kind≠4->8*s.rest.length<=n->(cIf n s).isSome=true) /\
  (∀ s,GoodL s.rest->s.nx.kind≠4->8*s.rest.length<=n->(cMatch n s).isSome=true)/\(∀ s,GoodL s.rest->s.nx.kind≠4->8*s.rest.length<=n->(cAssert n s).isSome=true)/\(∀ l s,GoodL s.rest->8*s.rest.length+6<=n->(cBin n l s).isSome=true) /\
  (∀ l e v s,GoodL s.rest->8*s.rest.length+5<=n->(cLoop n l e v s).isSome=true)/\(∀ s,GoodL s.rest->8*s.rest.length+5<=n->(cOne n s).isSome=true)/\(∀ s,GoodL s.rest->8*s.rest.length+4<=n->(cAtom n s).isSome=true)/\(∀ s,GoodL s.rest->8*s.rest.length+8<=n->(cArgs n s).isSome=true)/\(∀ l s,GoodL s.rest->8*s.rest.length+1<=n->(cMore n l s).isSome=true):=by
 induction n with
 | zero =>
  refine⟨fun s g h=>by omega,fun s g hk h=>?_,fun s g hk h=>?_,fun s g hk h=>?_,fun s g hk h=>?_,fun l s g h=>by omega,fun l e v s g h=>by omega,fun s g h=>by omega,fun s g h=>by omega,fun s g h=>by omega,fun l s g h=>by omega⟩<;>(have:=List.length_pos_iff.2 g.ne;omega)
 | succ n ih =>
  obtain⟨i1,i2,i3,i4,i5,i6,i7,i8,i9,i10,i11⟩:=ih;obtain⟨g1,-,-,-,-,g6,g7,g8,g9,g10,g11⟩:=c_good n;obtain⟨l1,-,-,-,-,l6,l7,l8,l9,l10,l11⟩:=c_len n;refine⟨?_,?_,?_,?_,?_,?_,?_,?_,?_,?_,?_⟩
  ·intro s g h;rw[cExpr]
   split
   ·rename_i q;exact i2 _ g (kind_is g (by decide) q) (by omega)
   split
   ·rename_i q;exact i3 _ g (kind_is g (by decide) q) (by omega)
   split
   ·rename_i q;exact i4 _ g (kind_is g (by decide) q) (by omega)
   split
   ·rename_i q;exact i5 _ g (kind_is g (by decide) q) (by omega)
   exact i6 _ _ g (by omega)
  ·intro s g hk h;have e:=tk_one g hk;rw[cLet];have a1:=len_exp s.tk.name wEq;have a2:=len_name s.tk;refine isSome_bind (i1 _ (good_exp (good_name (good_tk g)) _) (by omega)) fun r1 h1=>isSome_bind (i1 _ (good_exp (g1 _ _ (good_exp (good_name (good_tk g)) _) h1) _) ?_) fun r2 h2=>rfl
   have a3:=l1 _ _ h1;have a4:=len_exp r1.2 wIn
   omega
  ·intro s g hk h;have e:=tk_one g hk;rw[cIf];refine isSome_bind (i1 _ (good_tk g) (by omega)) fun r1 h1=>isSome_bind (i1 _ (good_exp (g1 _ _ (good_tk g) h1) _) ?_) fun r2 h2=>isSome_bind (i1 _ (good_exp (g1 _ _ (good_exp (g1 _ _ (good_tk g) h1) _) h2) _) ?_) fun r3 h3=>rfl
   ·have a3:=l1 _ _ h1;have a4:=len_exp r1.2 wThen
    omega
   have a3:=l1 _ _ h1;have a4:=len_exp r1.2 wThen;have a5:=l1 _ _ h2;have a6:=len_exp r2.2 wElse
   omega
  ·intro s g hk h;have e:=tk_one g hk;rw[cMatch];refine isSome_bind (i1 _ (good_tk g) (by omega)) fun r1 h1=>isSome_bind (i1 _ (good_exp (good_exp (good_exp (g1 _ _ (good_tk g) h1) _) _) _) ?_) fun r2 h2=>isSome_bind (i1 _ (good_exp (good_name (good_exp (good_name (good_exp (g1 _ _ (good_exp (good_exp (good_exp (g1 _ _ (good_tk g) h1) _) _) _) h2) _)) _)) _) ?_) fun r3 h3=>rfl
   ·have a3:=l1 _ _ h1;have a4:=len_exp r1.2 wWith;have a5:=len_exp (r1.2.exp wWith) wNil;have a6:=len_exp ((r1.2.exp wWith).exp wNil) wArrow
    omega
   have a3:=l1 _ _ h1;have a4:=len_exp r1.2 wWith;have a5:=len_exp (r1.2.exp wWith) wNil;have a6:=len_exp ((r1.2.exp wWith).exp wNil) wArrow;have a7:=l1 _ _ h2;have b1:=len_exp r2.2 wBar;have b2:=len_name (r2.2.exp wBar);have b3:=len_exp (r2.2.exp wBar).name wCons;have b4:=len_name ((r2.2.exp wBar).name.exp wCons);have b5:=len_exp ((r2.2.exp wBar).name.exp wCons).name wArrow
   omega
  ·intro s g hk h;have e:=tk_one g hk;rw[cAssert];refine isSome_bind (i1 _ (good_tk g) (by omega)) fun r1 h1=>isSome_bind (i1 _ (good_exp (g1 _ _ (good_tk g) h1) _) ?_) fun r2 h2=>rfl
   have a3:=l1 _ _ h1;have a4:=len_exp r1.2 wSemi
   omega
  ·intro l s g h;rw[cBin];refine isSome_bind (i8 _ g (by omega)) fun r1 h1=>i7 _ _ _ _ (g8 _ _ g h1) ?_
   have:=l8 _ _ h1
   omega
  ·intro l e v s g h;rw[cLoop]
   cases ho:bopOf s.nx.text with
   | none=>rfl
   | some op =>
    simp only
    split
    ·rfl
    have e:=tk_one g (kind_alls g (by have:=bop_mem ho;rw[<-this.2];exact List.mem_append_right _ (bop_tab op this.1).2.2.2.2.1));refine isSome_bind (i6 _ _ (good_tk g) (by omega)) fun r1 h1=>i7 _ _ _ _ (g6 _ _ _ (good_tk g) h1) ?_
    have:=l6 _ _ _ h1
    omega
  ·intro s g h;rw[cOne]
   cases ho:unOf s.nx.text with
   | none=>exact i9 _ g (by omega)
   | some k =>
    have e:=tk_one g (kind_alls g (un_alls ho).1);exact isSome_bind (i8 _ (good_tk g) (by omega)) fun r1 h1=>rfl
  ·intro s g h;rw[cAtom]
   split
   ·rfl
   split
   ·rename_i hk1 hk0
    have e:=tk_one g (by omega)
    split
    ·rename_i ho
     have e2:=tk_one (good_tk g) (kind_is (good_tk g) (by decide) ho);exact isSome_bind (i10 _ (good_tk (good_tk g)) (by omega)) fun r1 h1=>rfl
    rfl
   split
   ·rfl
   split
   ·rfl
   split
   ·rfl
   split
   ·rfl
   split
   ·rename_i ho
    have e:=tk_one g (kind_is g (by decide) ho);exact isSome_bind (i1 _ (good_tk g) (by omega)) fun r1 h1=>rfl
   rfl
  ·intro s g h;rw[cArgs]
   split
   ·rfl
   refine isSome_bind (i1 _ g (by omega)) fun r1 h1=>i11 _ _ (g1 _ _ g h1) ?_
   have:=l1 _ _ h1
   omega
  intro l s g h;rw[cMore]
  split
  ·rename_i ho
   have e:=tk_one g (kind_is g (by decide) ho);refine isSome_bind (i1 _ (good_tk g) (by omega)) fun r1 h1=>i11 _ _ (g1 _ _ (good_tk g) h1) ?_
   have:=l1 _ _ h1
   omega
  rfl
theorem uds_app (a b:List U):uds (a++b)=max (uds a) (uds b):=by
 induction a with
 | nil=>simp[uds]
 | cons t ts ih=>simp[uds,ih,Nat.max_assoc]
theorem uds_take (ks:List U) (i:Nat) (h:i<ks.length):uds (ks.take (i+1))=max (uds (ks.take i)) (ud ks[i]):=by
 rw[List.take_succ_eq_append_getElem h,uds_app];simp[uds]
theorem uds_mem {ks:List U} {u:U} (h:u ∈ ks):ud u<=uds ks:=by
 induction ks with
 | nil=>simp at h
 | cons t ts ih =>
  rw[uds];rcases List.mem_cons.1 h with rfl | h
  ·omega
  have:=ih h;omega
theorem uds_take_le (ks:List U) (j:Nat):uds (ks.take j)<=uds ks:=by
 have:=uds_app (ks.take j) (ks.drop j);rw[List.take_append_drop] at this;omega
def Bd (n:Nat):Nat:=(n+1)*(n+1)
theorem Bd_succ (n:Nat):Bd (n+1)=Bd n+(2*n+3):=by unfold Bd;simp only[Nat.add_mul,Nat.mul_add];omega
theorem c_deep (n:Nat):(∀ s x,cExpr n s=some x->ud x.1<=Bd n)/\(∀ s x,cLet n s=some x->ud x.1<=Bd n)/\(∀ s x,cIf n s=some x->ud x.1<=Bd n)/\(∀ s x,cMatch n s=some x->ud x.1<=Bd n)/\(∀ s x,cAssert n s=some x->ud x.1<=Bd n) /\
  (∀ l s x,cBin n l s=some x->ud x.1<=Bd n)/\(∀ l e v s x,cLoop n l e v s=some x->ud x.1<=max (ud e) (Bd n)+n)/\(∀ s x,cOne n s=some x->ud x.1<=Bd n)/\(∀ s x,cAtom n s=some x->ud x.1<=Bd n)/\(∀ s x,cArgs n s=some x->uds x.1<=Bd n)/\(∀ l s x,cMore n l s=some x->uds x.1<=max (uds l) (Bd n)):=by
 induction n with
 | zero=>refine⟨?_,?_,?_,?_,?_,?_,?_,?_,?_,?_,?_⟩<;>intros<;>simp_all [cExpr,cLet,cIf,cMatch,cAssert,cBin,cLoop,cOne,cAtom,cArgs,cMore]
 | succ n ih =>
  obtain⟨i1,i2,i3,i4,i5,i6,i7,i8,i9,i10,i11⟩:=ih;have hB:=Bd_succ n;refine⟨?_,?_,?_,?_,?_,?_,?_,?_,?_,?_,?_⟩
  ·intro s x h;rw[cExpr] at h
   split at h;have:=i2 _ _ h;omega
   split at h;have:=i3 _ _ h;omega
   split at h;have:=i4 _ _ h;omega
   split at h;have:=i5 _ _ h;omega
   have:=i6 _ _ _ h;omega
  ·intro s x h;rw[cLet] at h;simp only[Option.bind_eq_some_iff] at h;obtain⟨r1,h1,r2,h2,h3⟩:=h;injection h3 with h3;subst h3;have:=i1 _ _ h1;have:=i1 _ _ h2;simp only[ud,uds];omega
  ·intro s x h;rw[cIf] at h;simp only[Option.bind_eq_some_iff] at h;obtain⟨r1,h1,r2,h2,r3,h3,h4⟩:=h;injection h4 with h4;subst h4;have:=i1 _ _ h1;have:=i1 _ _ h2;have:=i1 _ _ h3;simp only[prt,ud,uds];omega
  ·intro s x h;rw[cMatch] at h;simp only[Option.bind_eq_some_iff] at h;obtain⟨r1,h1,r2,h2,r3,h3,h4⟩:=h;injection h4 with h4;subst h4;have:=i1 _ _ h1;have:=i1 _ _ h2;have:=i1 _ _ h3;simp only[ud,uds];omega
  ·intro s x h;rw[cAssert] at h;simp only[Option.bind_eq_some_iff] at h;obtain⟨r1,h1,r2,h2,h3⟩:=h;injection h3 with h3;subst h3;have:=i1 _ _ h1;have:=i1 _ _ h2;simp only[prt,ud,uds];omega
  ·intro l s x h;rw[cBin,Option.bind_eq_some_iff] at h;obtain⟨r1,h1,h2⟩:=h;have:=i8 _ _ h1;have:=i7 _ _ _ _ _ h2
   omega
  ·intro l e v s x h;rw[cLoop] at h
   split at h
   ·injection h with h;subst h;simp only;omega
   split at h
   ·injection h with h;subst h;simp only;omega
   rw[Option.bind_eq_some_iff] at h;obtain⟨r1,h1,h2⟩:=h;have a1:=i6 _ _ _ h1;have a2:=i7 _ _ _ _ _ h2;simp only[prt,ud,uds] at a2;omega
  ·intro s x h;rw[cOne] at h
   split at h
   ·have:=i9 _ _ h;omega
   rw[Option.bind_eq_some_iff] at h;obtain⟨r1,h1,h2⟩:=h;injection h2 with h2;subst h2;have:=i8 _ _ h1;simp only[prt,ud,uds];omega
  ·intro s x h;rw[cAtom] at h
   split at h
   ·injection h with h;subst h;simp only[ud,uds];omega
   split at h
   ·split at h
    ·rw[Option.bind_eq_some_iff] at h;obtain⟨r1,h1,h2⟩:=h;injection h2 with h2;subst h2;have:=i10 _ _ h1;simp only[nmd,ud];omega
    injection h with h;subst h;simp only[nmd,ud,uds];omega
   split at h
   ·injection h with h;subst h;simp only[nmd,ud,uds];omega
   split at h
   ·injection h with h;subst h;simp only[prt,ud,uds];omega
   split at h
   ·injection h with h;subst h;simp only[prt,ud,uds];omega
   split at h
   ·injection h with h;subst h;simp only[prt,ud,uds];omega
   split at h
   ·rw[Option.bind_eq_some_iff] at h;obtain⟨r1,h1,h2⟩:=h;injection h2 with h2;subst h2;have:=i1 _ _ h1;simp only;omega
   injection h with h;subst h;simp only[u0,ud,uds];omega
  ·intro s x h;rw[cArgs] at h
   split at h
   ·injection h with h;subst h;simp only[uds];omega
   rw[Option.bind_eq_some_iff] at h;obtain⟨r1,h1,h2⟩:=h;have a1:=i1 _ _ h1;have a2:=i11 _ _ _ h2;simp only[uds] at a2;omega
  intro l s x h;rw[cMore] at h
  split at h
  ·rw[Option.bind_eq_some_iff] at h;obtain⟨r1,h1,h2⟩:=h;have a1:=i1 _ _ h1;have a2:=i11 _ _ _ h2;rw[uds_app] at a2;simp only[uds] at a2;omega
  injection h with h;subst h;simp only;omega
theorem isD_num {c:UInt8} (h:isD c=true):48<=c.toNat/\c.toNat<=57:=by
 unfold isD at h;simp only[Bool.and_eq_true,decide_eq_true_eq,UInt8.le_iff_toNat_le] at h;exact h
theorem wds_head:∀ w ∈ wds,∃ c m,w=c::m/\isL c=true:=by
 have:∀ w ∈ wds,(match w with | []=>false | c::_=>isL c)=true:=by decide
 intro w hw;have h:=this w hw
 match w,h with
 | c::m,h=>exact⟨c,m,rfl,h⟩
theorem sigs_head:∀ w ∈ sigs,∃ c m,w=c::m/\isL c=false/\isD c=false:=by
 have:∀ w ∈ sigs,(match w with | []=>false | c::_=>!isL c && !isD c)=true:=by decide
 intro w hw;have h:=this w hw
 match w,h with
 | c::m,h=>simp only[Bool.and_eq_true,Bool.not_eq_true'] at h;exact⟨c,m,rfl,h.1,h.2⟩
theorem isL_isD {c:UInt8} (h:isL c=true):isD c=false:=by
 cases hd:isD c with
 | false=>rfl
 | true =>
  have:=isD_num hd;unfold isL at h;simp only[Bool.or_eq_true,Bool.and_eq_true,decide_eq_true_eq,beq_iff_eq,UInt8.le_iff_toNat_le] at h;have e95:(95:UInt8).toNat=95:=rfl;rcases h with (⟨h1,h2⟩ | ⟨h1,h2⟩) | h1
  ·have:(97:UInt8).toNat=97:=rfl;omega
  ·have:(65:UInt8).toNat=65:=rfl;omega
  subst h1;omega
theorem pair_sigs {a b:UInt8} (h:pairB a b=true):[a,b] ∈ sigs:=by
 simp only[pairB,Bool.or_eq_true,Bool.and_eq_true,beq_iff_eq] at h;rcases h with ((((((⟨rfl,rfl⟩ | ⟨rfl,rfl⟩) | ⟨rfl,rfl⟩) | ⟨rfl,rfl⟩) | ⟨rfl,rfl⟩) | ⟨rfl,rfl⟩) | ⟨rfl,rfl⟩) | ⟨rfl,rfl⟩<;>decide
theorem sgl_sigs {a:UInt8} (h:sglB a=true):[a] ∈ sigs:=by
 simp only[sglB,Bool.or_eq_true,beq_iff_eq] at h;rcases h with ((((((((((((((rfl | rfl) | rfl) | rfl) | rfl) | rfl) | rfl) | rfl) | rfl) | rfl) | rfl) | rfl) | rfl) | rfl) | rfl) | rfl<;>decide
theorem tok_ok {l:Bs} {k n:Nat} (hl:l ≠ []) (h:meas l=.ok k n) (ln cl:Nat):TokOk ⟨k,l.take n,ln,cl⟩/\k<4:=by
 match l,hl with
 | a::r,_ =>
  rw[meas_cons] at h
  by_cases ha:isL a=true
  ·rw[if_pos ha] at h
   split at h
   ·cases h
   have e:spn isLD (a::r)=spn isLD r+1:=by rw[spn,if_pos (isL_LD ha)]
   split at h
   ·rename_i hw
    injection h with h1 h2;subst h1 h2;have hm:(a::r).take (spn isLD (a::r)) ∈ wds:=by simpa [isW] using hw
    exact⟨⟨(show (_:Nat)<=4 by simp),fun h=>(nomatch h),fun h=>(nomatch h),fun h=>(nomatch h),fun _=>hm,fun h=>(nomatch h)⟩,by decide⟩
   rename_i hw
   injection h with h1 h2;subst h1 h2;have hm:(a::r).take (spn isLD (a::r)) ∉ wds:=by simpa [isW] using hw
   have hc:(a::r).take (spn isLD (a::r))=a::r.take (spn isLD r):=by rw[e];rfl
   refine⟨⟨(show (_:Nat)<=4 by simp),fun _=>⟨fun hx=>?_,by rw[hc];simp⟩,fun h=>(nomatch h),fun h=>(nomatch h),fun h=>(nomatch h),fun h=>(nomatch h)⟩,by decide⟩;rcases List.mem_append.1 hx with hx | hx
   ·exact hm hx
   obtain⟨c,m,e1,e2,-⟩:=sigs_head _ hx;simp only at e1;rw[hc] at e1;injection e1 with e1;subst e1;rw[ha] at e2;cases e2
  rw[if_neg ha] at h
  by_cases hd:isD a=true
  ·rw[if_pos hd] at h;have e:spn isD (a::r)=spn isD r+1:=by rw[spn,if_pos hd]
   split at h
   ·cases h
   rename_i h0
   split at h
   ·cases h
   rename_i h3
   injection h with h1 h2;subst h1 h2;have hc:(a::r).take (spn isD (a::r))=a::r.take (spn isD r):=by rw[e];rfl
   have hlen:((a::r).take (spn isD (a::r))).length=spn isD (a::r):=by rw[List.length_take];have:=spn_le isD (a::r);omega
   refine⟨⟨(show (_:Nat)<=4 by simp),fun h=>(nomatch h),fun _=>⟨fun hx=>?_,by rw[hc];simp,by rw[hlen];omega,fun hlt=>?_,fun c hc'=>isD_num (spn_all (a::r) c hc')⟩,fun h=>(nomatch h),fun h=>(nomatch h),fun h=>(nomatch h)⟩,by decide⟩
   ·rcases List.mem_append.1 hx with hx | hx
    ·obtain⟨c,m,e1,e2⟩:=wds_head _ hx;simp only at e1;rw[hc] at e1;injection e1 with e1;subst e1;exact ha e2
    obtain⟨c,m,e1,-,e2⟩:=sigs_head _ hx;simp only at e1;rw[hc] at e1;injection e1 with e1;subst e1;rw[hd] at e2;cases e2
   rw[hlen] at hlt;rw[hc]
   show (a::r.take (spn isD r)).getD 0 48≠48
   intro h48;exact h0 ⟨hlt,h48⟩
  rw[if_neg hd] at h
  split at h
  ·rename_i hs
   injection h with h1 h2;subst h1 h2
   have hm:(a::r).take (sgn (a::r)) ∈ sigs:=by
    match r,hs with
    | [],hs =>
     have e2:sglB a=true:=by
      cases hb:sglB a with
      | true=>rfl
      | false=>simp[sgn,hb] at hs
     have e1:sgn [a]=1:=by simp[sgn,e2]
     rw[e1];exact sgl_sigs e2
    | b::r',hs =>
     by_cases hp:pairB a b=true
     ·have e1:sgn (a::b::r')=2:=by simp[sgn,hp]
      rw[e1];exact pair_sigs hp
     have e2:sglB a=true:=by
      cases hb:sglB a with
      | true=>rfl
      | false=>simp[sgn,hb,hp] at hs
     have e1:sgn (a::b::r')=1:=by simp[sgn,e2,hp]
     rw[e1];exact sgl_sigs e2
   exact⟨⟨(show (_:Nat)<=4 by simp),fun h=>(nomatch h),fun h=>(nomatch h),fun _=>hm,fun h=>(nomatch h),fun h=>(nomatch h)⟩,by decide⟩
  cases h
theorem lex_good (s:Bs) (p:Nat × Nat) (h0:(lexS s p).2=0):GoodL (lexS s p).1:=by
 refine lex_ind (C:=fun _ _ ts=>GoodL ts) ?_ ?_ s p h0
 ·intro s p h;exact⟨rfl,⟨Nat.le_refl _,fun h=>(nomatch h),fun h=>(nomatch h),fun h=>(nomatch h),fun h=>(nomatch h),fun _=>rfl⟩⟩
 intro s p k n ts h hm ih he;have ht:=tok_ok h hm (adv p (s.take (gapL false s))).1 (adv p (s.take (gapL false s))).2
 match ts,ih with
 | u::us,ih=>exact⟨ht.2,ht.1,ih⟩
end Go.Proofs.YtpclhpfcbjgokaaGreatDoor
namespace Go.Proofs.YtpclhpfcbjgokaaGreatDoor
open Go.RowKit
set_option maxRecDepth 100000
set_option linter.unusedVariables false
theorem max_val7 (a b:Nat):Value.int .i64 (max (a:Int) b)=.int .i64 ((max a b:Nat):Int):=by congr 1;omega
theorem depth_p (d:Nat) (hd:d<=4000000000000000000) (x:X) (u:U) (w:World) (S:Nat->Prop) (h:Um w S x u) (ho:ud u<=d) :
  Calls Tryz.prog 47 #[xv x] w fun e w'=>e=.returned (.int .i64 (ud u:Nat))/\Below w.heap.size w w':=by
 induction d generalizing x u w with
 | zero=>obtain⟨k,nm,ot,z,ln,cl,ks⟩:=u;rw[ud] at ho;omega
 | succ d ih =>
  obtain⟨k,nm,ot,z,ln,cl,ks⟩:=u;rw[Um] at h;obtain⟨⟨e1,e2,e3,e4,e5,e6⟩,⟨h2,h3⟩,⟨h4,h5,h6⟩,h7⟩:=h;obtain⟨xk,xnm,xot,xb,xao,xn,xc,xko,xkn,xkc,xln,xcl⟩:=x;simp only at e1 e2 e3 e4 e5 e6 h2 h3 h4 h5 h6 h7;have HK:=h_ (fun j (hj:j<ks.length)=>ums_get 0 j h7 hj);clear h7;subst e1 e2 e3 e4 e5 e6;subst h4;rw[ud] at ho;have hkl:ks.length<=9223372036854775807:=Nat.le_trans h5.1 h5.2;clear h5;have IH:=h_ ih;have hdd:uds ks<=d:=by omega
  clear h2 h3 h6 ih ho;simp only[xv];go_enter Tryz.func47,Tryz.ntmps47
  go_wp2_with fail
  go_loopw [3,9] (fun n i wr=>∃ j:Nat,n=.int .i64 ((uds (ks.take j):Nat):Int)/\i=.int .i64 (j:Nat)/\j<=ks.length/\Below w.heap.size w wr) (fun _ i _=>ks.length - (intOf i).toNat)
  case atStart=>exact⟨0,rfl,rfl,Nat.zero_le _,(Below.refl _ _).alloc (Nat.le_refl _) _⟩
  case round =>
   obtain⟨j,rfl,rfl,hj,hb⟩:=hrel
   by_cases hlt:j<ks.length
   ·obtain⟨y,hA,hT⟩:=HK.out j hlt;rw[Nat.zero_add] at hA;have hT':=hT.below hb;obtain⟨a,rfl,hc⟩:=hA.keep fun a ha=>hb.block _ (hA.lt a ha)
    obtain⟨c0,c1,c2,c3,c4,c5,c6,c7⟩:=cells8 hc;have hbd:=uds_take_le ks j;have hbe:=uds_mem (List.getElem_mem hlt);have HB:=h_ hb;have HT:=h_ hT';clear hc hA hT hT' hb;go_wp2_with fail
    refine (IH.out (by omega) y _ _ (HT.out.below ((Below.refl _ _).alloc (Nat.le_refl _) _)) (by omega)).mono ?_;rintro e w2 ⟨rfl,hb2⟩;have HB2:=h_ hb2;clear hb2 c0 c1 c2 c3 c4 c5 c6 c7;go_wp2_with fail
    go_roundw
    case rel=>exact⟨j+1,by rw[uds_take ks j hlt];exact max_val7 _ _,by go_num,by omega,(HB.out.alloc HB.out.size _).trans (HB2.out.mono (by have:=HB.out.size;simp;omega))⟩
    case measure=>simp[intOf];omega
   have e:j=ks.length:=by omega
   subst e;have hbd:=uds_take_le ks ks.length;have HB:=h_ hb;clear hb;go_wp2_with fail
   go_ret
   refine⟨?_,HB.out⟩;rw[List.take_length,ud,Nat.add_comm];rfl
theorem complete_p (n:Nat) (hn:n<=1000000) (g:Nat) (s:St) (r:U × St) (w:World) (hps:PS w g s) (hop:GOps w g) (hc:cAll n s=some r) :
  Calls Tryz.prog 23 #[.pointer (some ⟨g,0,none⟩)] w (TreePost w g r.1 r.2):=by
 have E:=h_ (all_p n).ex;have HP:=h_ hps;have HOP:=h_ hop;clear hps hop;unfold cAll at hc;rw[Option.bind_eq_some_iff] at hc;obtain⟨r1,h1,hr⟩:=hc;injection hr with hr;subst hr;have hdp:=(c_deep n).1 _ _ h1;have hBn:Bd n<=4000000000000000000:=by unfold Bd;have:=Nat.mul_le_mul (show n+1<=1000001 by omega) (show n+1<=1000001 by omega);omega
 have h1:=h_ h1
 by_cases hdeep:60<ud r1.1
 ·have HIF:Hid ((if 60<ud r1.1 then r1.2.fail s.nx 2 else r1.2)=r1.2.fail s.nx 2):=h_ (if_pos hdeep);have hgt:decide (60<ud r1.1)=true:=by simpa using hdeep
  rw[HIF.out];go_enter Tryz.func23,Tryz.ntmps23
  go_upto_region 1 with fail
  obtain⟨w1,kr,hw,hkk,hb,-,HBr⟩:=newb w #[.int .i64 0,.string ⟨#[]⟩,.string ⟨#[]⟩,.bool false,.slice none 0 0,.slice none 0 0,.int .i64 0,.int .i64 0] 48;have hgr:g<kr:=by rw[hkk];exact HP.out.lt
  have her:w.heap.size<=kr:=by omega
  rw[hw,<-hkk];replace HP:=h_ (HP.out.below hb);replace HOP:=h_ (HOP.out.below hb);have HD:=h_ (below_grown hb (some g));clear hw hb hkk;go_wp2_with fail
  refine (next_p g s w1 HP.out).mono ?_;rintro e w2 ⟨rfl,hb⟩;replace HBr:=kB hb HBr;replace HP:=h_ (HP.out.below hb);replace HOP:=h_ (HOP.out.below hb);replace HD:=dB HD hb;have hsz2:=HD.out.size;clear hb;simp only[tokV];obtain⟨t,hnx⟩:∃ t,t=St.nx s:=⟨_,rfl⟩
  rw[<-hnx];have HNt:=h_ hnx;clear hnx;go_upto_region 2 with fail
  obtain⟨w3,kt,hw,hkk,hb,-,HBt⟩:=newb w2 #[.int .i64 (t.kind:Nat),.string ⟨t.text.toArray⟩,.int .i64 (t.line:Nat),.int .i64 (t.col:Nat)] 103;have hgt:g<kt:=by rw[hkk];exact HP.out.lt
  have het:w.heap.size<=kt:=by omega
  have hr_t:=lk_ hkk HBr;rw[hw,<-hkk];replace HBr:=kB hb HBr;replace HP:=h_ (HP.out.below hb);replace HOP:=h_ (HOP.out.below hb);replace HD:=dB HD hb;have hsz3:=HD.out.size;clear hw hb hkk;go_wp2_with fail
  obtain⟨Na,hN⟩:∃ k,k=w3.heap.size:=⟨_,rfl⟩
  have hr_Na:kr<Na:=by rw[hN];exact lt_of_block HBr.out
  have ht_Na:kt<Na:=by rw[hN];exact lt_of_block HBt.out
  have hg_Na:g<Na:=by rw[hN];exact HP.out.lt
  have he_Na:w.heap.size<=Na:=by omega
  refine (E.out g _ _ w3 HP.out HOP.out h1.out).mono ?_;rintro e w4 ⟨xa,rfl,hu,hp,hg⟩;replace HBr:=kG hg HBr;replace HBt:=kG hg HBt;replace HOP:=h_ (HOP.out.grown hg (by omega));replace HP:=h_ hp;replace HD:=dG HD hg;have hsz4:=HD.out.size;rw[<-hN] at hu;have HUa:=h_ (hu.mono (S':=fun b=>Na<=b/\True) (fun b h=>⟨h,trivial⟩));clear hN hu;clear hp hg;obtain⟨ak,anm,aot,ab,aao,an,aq,ako,akn,akc,aln,acl⟩:=xa;simp only[xv];go_upto_region 3 with fail
  obtain⟨w5,ka,hw,hkk,hb,-,HBa⟩:=newb w4 #[.int .i64 ak,.string anm,.string aot,.bool ab,.slice aao an aq,.slice ako akn akc,.int .i64 aln,.int .i64 acl] 48;have hga:g<ka:=by rw[hkk];exact HP.out.lt
  have hea:w.heap.size<=ka:=by omega
  have hr_a:=lk_ hkk HBr;have ht_a:=lk_ hkk HBt;replace HUa:=h_ (HUa.out.offk hkk);rw[hw,<-hkk];replace HBr:=kB hb HBr;replace HBt:=kB hb HBt;replace HP:=h_ (HP.out.below hb);replace HUa:=h_ (HUa.out.below hb);replace HOP:=h_ (HOP.out.below hb);replace HD:=dB HD hb;clear hw hb hkk;obtain⟨ca0,ca1,ca2,ca3,ca4,ca5,ca6,ca7⟩:=cl8 HBa.out;obtain⟨ct0,ct1,ct2,ct3⟩:=cl4 HBt.out;go_wp2_with fail
  refine (depth_p (Bd n) hBn ⟨ak,anm,aot,ab,aao,an,aq,ako,akn,akc,aln,acl⟩ r1.1 w5 _ HUa.out hdp).mono ?_;rintro e w6 ⟨rfl,hb⟩;clear ca0 ca1 ca2 ca3 ca4 ca5 ca6 ca7 ct0 ct1 ct2 ct3;replace HBr:=kB hb HBr;replace HBt:=kB hb HBt;replace HBa:=kB hb HBa;replace HP:=h_ (HP.out.below hb);replace HUa:=h_ (HUa.out.below hb);replace HOP:=h_ (HOP.out.below hb);replace HD:=dB HD hb;clear hb;obtain⟨ct0,ct1,ct2,ct3⟩:=cl4 HBt.out;go_wp2_with fail
  have hp0:=fail_p g r1.2 t 2 w6 HP.out;simp only[tokV] at hp0;refine (hp0).mono ?_;rintro e w7 ⟨⟨v,rfl⟩,hp,hg⟩;clear ct0 ct1 ct2 ct3;replace HBr:=kG hg HBr;replace HBt:=kG hg HBt;replace HBa:=kG hg HBa;replace HUa:=h_ (HUa.out.grown hg (fun h=>by omega));replace HOP:=h_ (HOP.out.grown hg (by omega));replace HP:=h_ hp;replace HD:=dG HD hg;clear hp hg;clear hp0;obtain⟨ca0,ca1,ca2,ca3,ca4,ca5,ca6,ca7⟩:=cl8 HBa.out;obtain⟨z0,z1,z2,z3,z4,z5,z6,z7⟩:=cl8 HBr.out;obtain⟨fz0,fz1,fz2,fz3,fz4,fz5,fz6,fz7⟩:=fr8 HBr.out;go_wp2_with fail
  refine bodyPost_ret (v:=.agg #[.int .i64 ak,.string anm,.string aot,.bool ab,.slice aao an aq,.slice ako akn akc,.int .i64 aln,.int .i64 acl]) (by simp[results,Tryz.results23,go_sem,z0,z1,z2,z3,z4,z5,z6,z7]) rfl ?_;obtain⟨wz,hw⟩:∃ x,x=st8 w7 kr (.int .i64 ak) (.string anm) (.string aot) (.bool ab) (.slice aao an aq) (.slice ako akn akc) (.int .i64 aln) (.int .i64 acl):=⟨_,rfl⟩
  have hg:w7.grownBy wz (some kr):=by rw[hw];exact st8_grown _ _ _ _ _ _ _ _ _ _
  change TreePost w g _ _ _ (st8 w7 kr (.int .i64 ak) (.string anm) (.string aot) (.bool ab) (.slice aao an aq) (.slice ako akn akc) (.int .i64 aln) (.int .i64 acl));rw[<-hw];clear ca0 ca1 ca2 ca3 ca4 ca5 ca6 ca7 z0 fz0 z1 fz1 z2 fz2 z3 fz3 z4 fz4 z5 fz5 z6 fz6 z7 fz7;replace HP:=h_ (HP.out.store HBr.out (by decide) (by omega) hg);replace HBt:=kG hg HBt;replace HBa:=kG hg HBa;replace HUa:=h_ (HUa.out.grown hg (fun h=>by omega));replace HOP:=h_ (HOP.out.grown hg (by omega));replace HD:=dN HD hg (by omega);have hsz7:=HD.out.size;clear hw hg;exact⟨⟨ak,anm,aot,ab,aao,an,aq,ako,akn,akc,aln,acl⟩,rfl,(HUa.out.mono (fun b h=>by have h:(Na<=b/\True)/\b≠ka:=h;show _<=b;omega)),by rw[<-HNt.out];exact HP.out,HD.out⟩
 have HIF:Hid ((if 60<ud r1.1 then r1.2.fail s.nx 2 else r1.2)=r1.2):=h_ (if_neg hdeep);have hgt:decide (60<ud r1.1)=false:=by simpa using hdeep
 rw[HIF.out];go_enter Tryz.func23,Tryz.ntmps23
 go_upto_region 1 with fail
 obtain⟨w1,kr,hw,hkk,hb,-,HBr⟩:=newb w #[.int .i64 0,.string ⟨#[]⟩,.string ⟨#[]⟩,.bool false,.slice none 0 0,.slice none 0 0,.int .i64 0,.int .i64 0] 48;have hgr:g<kr:=by rw[hkk];exact HP.out.lt
 have her:w.heap.size<=kr:=by omega
 rw[hw,<-hkk];replace HP:=h_ (HP.out.below hb);replace HOP:=h_ (HOP.out.below hb);have HD:=h_ (below_grown hb (some g));clear hw hb hkk;go_wp2_with fail
 refine (next_p g s w1 HP.out).mono ?_;rintro e w2 ⟨rfl,hb⟩;replace HBr:=kB hb HBr;replace HP:=h_ (HP.out.below hb);replace HOP:=h_ (HOP.out.below hb);replace HD:=dB HD hb;have hsz2:=HD.out.size;clear hb;simp only[tokV];obtain⟨t,hnx⟩:∃ t,t=St.nx s:=⟨_,rfl⟩
 rw[<-hnx];have HNt:=h_ hnx;clear hnx;go_upto_region 2 with fail
 obtain⟨w3,kt,hw,hkk,hb,-,HBt⟩:=newb w2 #[.int .i64 (t.kind:Nat),.string ⟨t.text.toArray⟩,.int .i64 (t.line:Nat),.int .i64 (t.col:Nat)] 103;have hgt:g<kt:=by rw[hkk];exact HP.out.lt
 have het:w.heap.size<=kt:=by omega
 have hr_t:=lk_ hkk HBr;rw[hw,<-hkk];replace HBr:=kB hb HBr;replace HP:=h_ (HP.out.below hb);replace HOP:=h_ (HOP.out.below hb);replace HD:=dB HD hb;have hsz3:=HD.out.size;clear hw hb hkk;go_wp2_with fail
 obtain⟨Na,hN⟩:∃ k,k=w3.heap.size:=⟨_,rfl⟩
 have hr_Na:kr<Na:=by rw[hN];exact lt_of_block HBr.out
 have ht_Na:kt<Na:=by rw[hN];exact lt_of_block HBt.out
 have hg_Na:g<Na:=by rw[hN];exact HP.out.lt
 have he_Na:w.heap.size<=Na:=by omega
 refine (E.out g _ _ w3 HP.out HOP.out h1.out).mono ?_;rintro e w4 ⟨xa,rfl,hu,hp,hg⟩;replace HBr:=kG hg HBr;replace HBt:=kG hg HBt;replace HOP:=h_ (HOP.out.grown hg (by omega));replace HP:=h_ hp;replace HD:=dG HD hg;have hsz4:=HD.out.size;rw[<-hN] at hu;have HUa:=h_ (hu.mono (S':=fun b=>Na<=b/\True) (fun b h=>⟨h,trivial⟩));clear hN hu;clear hp hg;obtain⟨ak,anm,aot,ab,aao,an,aq,ako,akn,akc,aln,acl⟩:=xa;simp only[xv];go_upto_region 3 with fail
 obtain⟨w5,ka,hw,hkk,hb,-,HBa⟩:=newb w4 #[.int .i64 ak,.string anm,.string aot,.bool ab,.slice aao an aq,.slice ako akn akc,.int .i64 aln,.int .i64 acl] 48;have hga:g<ka:=by rw[hkk];exact HP.out.lt
 have hea:w.heap.size<=ka:=by omega
 have hr_a:=lk_ hkk HBr;have ht_a:=lk_ hkk HBt;replace HUa:=h_ (HUa.out.offk hkk);rw[hw,<-hkk];replace HBr:=kB hb HBr;replace HBt:=kB hb HBt;replace HP:=h_ (HP.out.below hb);replace HUa:=h_ (HUa.out.below hb);replace HOP:=h_ (HOP.out.below hb);replace HD:=dB HD hb;clear hw hb hkk;obtain⟨ca0,ca1,ca2,ca3,ca4,ca5,ca6,ca7⟩:=cl8 HBa.out;obtain⟨ct0,ct1,ct2,ct3⟩:=cl4 HBt.out;go_wp2_with fail
 refine (depth_p (Bd n) hBn ⟨ak,anm,aot,ab,aao,an,aq,ako,akn,akc,aln,acl⟩ r1.1 w5 _ HUa.out hdp).mono ?_;rintro e w6 ⟨rfl,hb⟩;clear ca0 ca1 ca2 ca3 ca4 ca5 ca6 ca7 ct0 ct1 ct2 ct3;replace HBr:=kB hb HBr;replace HBt:=kB hb HBt;replace HBa:=kB hb HBa;replace HP:=h_ (HP.out.below hb);replace HUa:=h_ (HUa.out.below hb);replace HOP:=h_ (HOP.out.below hb);replace HD:=dB HD hb;clear hb;obtain⟨ca0,ca1,ca2,ca3,ca4,ca5,ca6,ca7⟩:=cl8 HBa.out;obtain⟨z0,z1,z2,z3,z4,z5,z6,z7⟩:=cl8 HBr.out;obtain⟨fz0,fz1,fz2,fz3,fz4,fz5,fz6,fz7⟩:=fr8 HBr.out;go_wp2_with fail
 refine bodyPost_ret (v:=.agg #[.int .i64 ak,.string anm,.string aot,.bool ab,.slice aao an aq,.slice ako akn akc,.int .i64 aln,.int .i64 acl]) (by simp[results,Tryz.results23,go_sem,z0,z1,z2,z3,z4,z5,z6,z7]) rfl ?_;obtain⟨wz,hw⟩:∃ x,x=st8 w6 kr (.int .i64 ak) (.string anm) (.string aot) (.bool ab) (.slice aao an aq) (.slice ako akn akc) (.int .i64 aln) (.int .i64 acl):=⟨_,rfl⟩
 have hg:w6.grownBy wz (some kr):=by rw[hw];exact st8_grown _ _ _ _ _ _ _ _ _ _
 change TreePost w g _ _ _ (st8 w6 kr (.int .i64 ak) (.string anm) (.string aot) (.bool ab) (.slice aao an aq) (.slice ako akn akc) (.int .i64 aln) (.int .i64 acl));rw[<-hw];clear ca0 ca1 ca2 ca3 ca4 ca5 ca6 ca7 z0 fz0 z1 fz1 z2 fz2 z3 fz3 z4 fz4 z5 fz5 z6 fz6 z7 fz7;replace HP:=h_ (HP.out.store HBr.out (by decide) (by omega) hg);replace HBt:=kG hg HBt;replace HBa:=kG hg HBa;replace HUa:=h_ (HUa.out.grown hg (fun h=>by omega));replace HOP:=h_ (HOP.out.grown hg (by omega));replace HD:=dN HD hg (by omega);have hsz6:=HD.out.size;clear hw hg;exact⟨⟨ak,anm,aot,ab,aao,an,aq,ako,akn,akc,aln,acl⟩,rfl,(HUa.out.mono (fun b h=>by have h:(Na<=b/\True)/\b≠ka:=h;show _<=b;omega)),HP.out,HD.out⟩
theorem toks_of {w:World} {b:Nat}:∀ {ts:List Tok} {o:Nat},(∀ k (hk:k<ts.length),w.cell? ⟨b,o+k*4,none⟩=some (.int .i64 (ts[k].kind:Nat))/\w.cell? ⟨b,o+(k*4+1),none⟩=some (.string ⟨ts[k].text.toArray⟩)/\w.cell? ⟨b,o+(k*4+2),none⟩=some (.int .i64 (ts[k].line:Nat))/\w.cell? ⟨b,o+(k*4+3),none⟩=some (.int .i64 (ts[k].col:Nat)))->Toks w b o ts
 | [],_,_=>trivial
 | t::ts,o,h=>by
  refine⟨by have:=h 0 (by simp);simp only[List.getElem_cons_zero,Nat.zero_mul,Nat.zero_add,Nat.add_zero] at this;exact this,toks_of fun k hk=>?_⟩;have:=h (k+1) (by simpa using hk);simp only[List.getElem_cons_succ] at this;rw[show o+(k+1)*4=o+4+k*4 by omega,show o+((k+1)*4+1)=o+4+(k*4+1) by omega,show o+((k+1)*4+2)=o+4+(k*4+2) by omega,show o+((k+1)*4+3)=o+4+(k*4+3) by omega] at this;exact this
def st0 (l:Bs):St:=⟨(lexS l (1,1)).1,none⟩
def lexF (l:Bs):Option (Nat × Nat × Nat):=if (lexS l (1,1)).2=0 then none else ((lexS l (1,1)).1.getLast?).map fun t=>((lexS l (1,1)).2,t.line,t.col)
def AtF (w:World) (v:Value) (f:Nat × Nat × Nat):Prop:=∃ q,v=.iface 81 (.pointer (some ⟨q,0,none⟩))/\AtB w q (f.2.1,f.2.2) (.iface 34 (.int .i64 (f.1:Nat)))
theorem AtF.below {w w':World} {v:Value} {f:Nat × Nat × Nat} (h:AtF w v f) (hb:Below w.heap.size w w'):AtF w' v f:=by
 obtain⟨q,h1,h2⟩:=h;refine⟨q,h1,?_⟩;unfold AtB at h2 ⊢;rw[hb.block _ (lt_of_block h2)];exact h2
theorem newp_p (l:Bs) (w:World) (hl:l.length<=20000) :
  Calls Tryz.prog 14 #[.string ⟨l.toArray⟩] w fun e w'=>Below w.heap.size w w'/\((∃ f ev,lexF l=some f/\e=.returned (.tuple #[.pointer none,ev])/\AtF w' ev f)\/(lexF l=none/\∃ g,e=.returned (.tuple #[.pointer (some ⟨g,0,none⟩),.nilIface])/\w.heap.size<=g/\PS w' g (st0 l))):=by
 have HX:=h_ (lex_any l w hl);have HGL:=h_ (lex_good l (1,1));have HSM:=h_ (lex_sum l (1,1)).1;go_enter Tryz.func14,Tryz.ntmps14
 go_wp2_with fail
 refine HX.out.mono ?_;rintro e w1 ⟨hb,hp⟩;rcases hp with ⟨h0,v,rfl,hT⟩ | ⟨h0,q,t,hlast,rfl,hA,-⟩
 ·obtain⟨tb,cap,rfl,h1,h2,-,h4,h5⟩:∃ g cap,v=.slice (some ⟨g,0,none⟩) (lexS l (1,1)).1.length cap/\(lexS l (1,1)).1.length<=cap/\cap<=maxLen/\w.heap.size+1<=g/\g<w1.heap.size/\∀ k (hk:k<(lexS l (1,1)).1.length),w1.cell? ⟨g,k*4,none⟩=some (.int .i64 ((lexS l (1,1)).1[k].kind:Nat))/\w1.cell? ⟨g,k*4+1,none⟩=some (.string ⟨(lexS l (1,1)).1[k].text.toArray⟩)/\w1.cell? ⟨g,k*4+2,none⟩=some (.int .i64 ((lexS l (1,1)).1[k].line:Nat))/\w1.cell? ⟨g,k*4+3,none⟩=some (.int .i64 ((lexS l (1,1)).1[k].col:Nat)):=by
   obtain⟨a,cap,rfl,h1,h2,h3⟩:=hT.form;obtain⟨g,rfl,h4,h5,h6⟩:=h3 (lex_ne l (1,1));exact⟨g,cap,rfl,h1,h2,h4,h5,h6⟩
  have HT:=h_ (toks_of (o:=0) fun k hk=>by rw[Nat.zero_add,Nat.zero_add,Nat.zero_add,Nat.zero_add];exact h5 k hk);have H0:=h_ h0;have HB:=h_ hb;have HC:=h_ (And.intro h1 h2);clear h5 hT hb h0 h1 h2;generalize hn:(lexS l (1,1)).1.length=nl at *;have HN:=h_ hn;clear hn;go_wp2_with fail
  go_ret2
  refine⟨HB.out.alloc HB.out.size _,.inr ⟨by unfold lexF;rw[if_pos H0.out],w1.heap.size,rfl,HB.out.size,⟨tb,0,cap,.nilIface,?_,HGL.out H0.out,?_,HC.out.2,h4,?_,?_,rfl⟩,?_⟩⟩
  ·rw[made_at w1 _ _ rfl];unfold st0;simp only;rw[HN.out]
  ·unfold st0;simp only;rw[HN.out];exact HC.out.1
  ·simp;omega
  ·exact HT.out.below h4 ((Below.refl _ _).alloc (Nat.le_refl _) _)
  unfold st0;simp only;rw[HN.out];have:=HSM.out;omega
 have H0:=h_ h0;have HB:=h_ hb;have HA:=h_ hA;have HL:=h_ hlast;clear hb hA h0 hlast;go_wp2_with fail
 go_ret2
 exact⟨HB.out,.inl ⟨((lexS l (1,1)).2,t.line,t.col),_,by unfold lexF;rw[if_neg H0.out,HL.out];rfl,rfl,q,rfl,HA.out⟩⟩
end Go.Proofs.YtpclhpfcbjgokaaGreatDoor
namespace Go.Proofs.YtpclhpfcbjgokaaGreatDoor
set_option maxRecDepth 100000
set_option linter.unusedVariables false
theorem placed_bd {s:Bs} {p:Nat × Nat}:∀ {ts:List Tok} {off:Nat},Placed s p off ts->∀ t ∈ ts,t.line<=p.1+s.length/\t.col<=p.2+1+s.length/\t.text.length<=s.length
 | [],_,_,t,ht=>by simp at ht
 | u::us,off,h,t,ht=>by
  obtain⟨o,h1,h2,h3,h4,h5,h6⟩:=h;rcases List.mem_cons.1 ht with rfl | ht
  ·have:=adv_bd p (s.take o);rw[h3] at this;simp only[List.length_take] at this
   omega
  exact placed_bd h6 t ht
theorem toks_mem {l:Bs} (hl:l.length<=3000):(lexS l (1,1)).1.length<=3001:=by
 have:=(lex_sum l (1,1)).1
 omega
def TBs (s:St):Prop:=∀ t ∈ s.rest,t.line<=1000000000/\t.col<=1000000000/\t.text.length<=3000
theorem TBs.nx {s:St} (h:TBs s):s.nx.line<=1000000000/\s.nx.col<=1000000000/\s.nx.text.length<=3000:=by
 unfold St.nx;obtain⟨rest,err⟩:=s
 match rest,h with
 | [],_=>simp[tk0]
 | t::ts,h=>exact h t (by simp)
theorem TBs.tk {s:St} (h:TBs s):TBs s.tk:=by unfold St.tk;split;exact h;exact fun t ht=>h t (List.mem_of_mem_drop ht)
theorem TBs.fail {s:St} (h:TBs s) (t:Tok) (c:Nat):TBs (s.fail t c):=fun t ht=>h t (List.mem_of_mem_drop ht)
theorem TBs.exp {s:St} (h:TBs s) (w:Bs):TBs (s.exp w):=by unfold St.exp;split;exact h.tk;exact h.fail _ _
theorem TBs.name {s:St} (h:TBs s):TBs s.name:=by unfold St.name;split;exact h.tk;exact h.tk.fail _ _
def E12 (s:St):Prop:=∀ x,s.err=some x->x.1=1\/x.1=2
theorem E12.tk {s:St} (h:E12 s):E12 s.tk:=by unfold St.tk;split;exact h;exact h
theorem E12.fail {s:St} (h:E12 s) (t:Tok) {c:Nat} (hc:c=1\/c=2):E12 (s.fail t c):=by
 intro x hx;unfold St.fail at hx;simp only at hx
 cases he:s.err with
 | none=>rw[he,Option.none_or] at hx;injection hx with hx;subst hx;exact hc
 | some y=>rw[he,Option.some_or] at hx;injection hx with hx;subst hx;exact h _ he
theorem E12.exp {s:St} (h:E12 s) (w:Bs):E12 (s.exp w):=by unfold St.exp;split;exact h.tk;exact h.fail _ (.inl rfl)
theorem E12.name {s:St} (h:E12 s):E12 s.name:=by unfold St.name;split;exact h.tk;exact h.tk.fail _ (.inl rfl)
def GT (s:St):Prop:=GoodL s.rest/\TBs s/\E12 s
theorem GT.tk {s:St} (h:GT s):GT s.tk:=⟨good_tk h.1,h.2.1.tk,h.2.2.tk⟩
theorem GT.fail {s:St} (h:GT s) (t:Tok) {c:Nat} (hc:c=1\/c=2):GT (s.fail t c):=⟨good_fail h.1 t c,h.2.1.fail t c,h.2.2.fail t hc⟩
theorem GT.exp {s:St} (h:GT s) (w:Bs):GT (s.exp w):=⟨good_exp h.1 w,h.2.1.exp w,h.2.2.exp w⟩
theorem GT.name {s:St} (h:GT s):GT s.name:=⟨good_name h.1,h.2.1.name,h.2.2.name⟩
theorem GT.l {s:St} (h:GT s):s.nx.line<=1000000000:=h.2.1.nx.1
theorem GT.c {s:St} (h:GT s):s.nx.col<=1000000000:=h.2.1.nx.2.1
theorem GT.t {s:St} (h:GT s):s.nx.text.length<=3000:=h.2.1.nx.2.2
def Zb (z:Nat):Prop:=∃ m,m<=300/\z<L32 ^ m
theorem zb_zero:Zb 0:=⟨0,by decide,by decide⟩
theorem zb_dn {l:Bs} (h:Numeral l):Zb (dn l):=⟨l.length,h.2.1,Nat.lt_of_lt_of_le (dn_lt h.2.2.2) (Nat.pow_le_pow_left (by decide) _)⟩
mutual
def Bnd:U->Prop
 | .node k nm ot z ln cl ks=>(k<29/\(k=24\/ks.length=ar k))/\(nm.length<=3000/\ot.length<=3000/\Zb z)/\(ln<=1000000000/\cl<=1000000000)/\Bnds ks
def Bnds:List U->Prop
 | []=>True
 | u::us=>Bnd u/\Bnds us
end
theorem bnds_mem {us:List U} (h:Bnds us) {u:U} (hu:u ∈ us):Bnd u:=by
 induction us with
 | nil=>simp at hu
 | cons v us ih =>
  rw[Bnds] at h;rcases List.mem_cons.1 hu with rfl | hu
  ·exact h.1
  exact ih h.2 hu
theorem bnds_app {a b:List U} (ha:Bnds a) (hb:Bnds b):Bnds (a++b):=by
 induction a with
 | nil=>exact hb
 | cons u a ih=>rw[Bnds] at ha;rw[List.cons_append,Bnds];exact⟨ha.1,ih ha.2⟩
theorem bnd_u0:Bnd u0:=by unfold u0;rw[Bnd];exact⟨⟨by decide,.inr rfl⟩,⟨by decide,by decide,zb_zero⟩,⟨by decide,by decide⟩,by rw[Bnds];trivial⟩
theorem bnd_prt {k:Nat} {s:St} {ks:List U} (h:GT s) (hk:k<29) (ha:k=24\/ks.length=ar k) (hs:Bnds ks):Bnd (prt k s.nx ks):=by
 unfold prt;rw[Bnd];exact⟨⟨hk,ha⟩,⟨by decide,by decide,zb_zero⟩,⟨h.l,h.c⟩,hs⟩
theorem bnd_nmd {k:Nat} {s:St} {ks:List U} (h:GT s) (hk:k<29) (ha:k=24\/ks.length=ar k) (hs:Bnds ks):Bnd (nmd k s.nx ks):=by
 unfold nmd;rw[Bnd];exact⟨⟨hk,ha⟩,⟨h.t,by decide,zb_zero⟩,⟨h.l,h.c⟩,hs⟩
theorem bnds0:Bnds []:=by rw[Bnds];trivial
theorem bnds1 {a:U} (h:Bnd a):Bnds [a]:=by rw[Bnds];exact⟨h,bnds0⟩
theorem bnds2 {a b:U} (h:Bnd a) (k:Bnd b):Bnds [a,b]:=by rw[Bnds];exact⟨h,bnds1 k⟩
theorem bnds3 {a b c:U} (h:Bnd a) (k:Bnd b) (l:Bnd c):Bnds [a,b,c]:=by rw[Bnds];exact⟨h,bnds2 k l⟩
theorem bop_ar {w:Bs} {op:Bop} (h:bopOf w=some op):op.kind<29/\2=ar op.kind:=
 (show ∀ op ∈ bops,op.kind<29/\2=ar op.kind by decide) op (List.mem_of_find?_eq_some h)
theorem un_ar {w:Bs} {k:Nat} (h:unOf w=some k):k<29/\1=ar k:=by
 unfold unOf at h
 split at h;(injection h with h;subst h;decide)
 split at h;(injection h with h;subst h;decide)
 split at h;(injection h with h;subst h;decide)
 split at h;(injection h with h;subst h;decide)
 split at h;(injection h with h;subst h;decide)
 cases h
abbrev BG (x:U × St):Prop:=Bnd x.1/\GT x.2
theorem c_bnd (n:Nat):(∀ s x,GT s->cExpr n s=some x->BG x)/\(∀ s x,GT s->cLet n s=some x->BG x)/\(∀ s x,GT s->cIf n s=some x->BG x)/\(∀ s x,GT s->cMatch n s=some x->BG x)/\(∀ s x,GT s->cAssert n s=some x->BG x) /\
  (∀ l s x,GT s->cBin n l s=some x->BG x)/\(∀ l e v s x,GT s->Bnd e->cLoop n l e v s=some x->BG x)/\(∀ s x,GT s->cOne n s=some x->BG x)/\(∀ s x,GT s->cAtom n s=some x->BG x)/\(∀ s x,GT s->cArgs n s=some x->Bnds x.1/\GT x.2)/\(∀ l s x,GT s->Bnds l->cMore n l s=some x->Bnds x.1/\GT x.2):=by
 induction n with
 | zero=>refine⟨?_,?_,?_,?_,?_,?_,?_,?_,?_,?_,?_⟩<;>intros<;>simp_all [cExpr,cLet,cIf,cMatch,cAssert,cBin,cLoop,cOne,cAtom,cArgs,cMore]
 | succ n ih =>
  obtain⟨i1,i2,i3,i4,i5,i6,i7,i8,i9,i10,i11⟩:=ih;refine⟨?_,?_,?_,?_,?_,?_,?_,?_,?_,?_,?_⟩
  ·intro s x g h;rw[cExpr] at h
   split at h;exact i2 _ _ g h
   split at h;exact i3 _ _ g h
   split at h;exact i4 _ _ g h
   split at h;exact i5 _ _ g h
   exact i6 _ _ _ g h
  ·intro s x g h;rw[cLet] at h;simp only[Option.bind_eq_some_iff] at h;obtain⟨r1,h1,r2,h2,h3⟩:=h;injection h3 with h3;subst h3;have a1:=i1 _ _ (g.tk.name.exp _) h1;have a2:=i1 _ _ (a1.2.exp _) h2;exact⟨by rw[Bnd];exact⟨⟨by decide,.inr rfl⟩,⟨g.tk.t,by decide,zb_zero⟩,⟨g.l,g.c⟩,bnds2 a1.1 a2.1⟩,a2.2⟩
  ·intro s x g h;rw[cIf] at h;simp only[Option.bind_eq_some_iff] at h;obtain⟨r1,h1,r2,h2,r3,h3,h4⟩:=h;injection h4 with h4;subst h4;have a1:=i1 _ _ g.tk h1;have a2:=i1 _ _ (a1.2.exp _) h2;have a3:=i1 _ _ (a2.2.exp _) h3;exact⟨bnd_prt g (by decide) (.inr rfl) (bnds3 a1.1 a2.1 a3.1),a3.2⟩
  ·intro s x g h;rw[cMatch] at h;simp only[Option.bind_eq_some_iff] at h;obtain⟨r1,h1,r2,h2,r3,h3,h4⟩:=h;injection h4 with h4;subst h4;have a1:=i1 _ _ g.tk h1;have a2:=i1 _ _ (((a1.2.exp _).exp _).exp _) h2;have a3:=i1 _ _ (((((a2.2.exp _).name).exp _).name).exp _) h3;exact⟨by rw[Bnd];exact⟨⟨by decide,.inr rfl⟩,⟨(a2.2.exp _).t,(((a2.2.exp _).name).exp _).t,zb_zero⟩,⟨g.l,g.c⟩,bnds3 a1.1 a2.1 a3.1⟩,a3.2⟩
  ·intro s x g h;rw[cAssert] at h;simp only[Option.bind_eq_some_iff] at h;obtain⟨r1,h1,r2,h2,h3⟩:=h;injection h3 with h3;subst h3;have a1:=i1 _ _ g.tk h1;have a2:=i1 _ _ (a1.2.exp _) h2;exact⟨bnd_prt g (by decide) (.inr rfl) (bnds2 a1.1 a2.1),a2.2⟩
  ·intro l s x g h;rw[cBin,Option.bind_eq_some_iff] at h;obtain⟨r1,h1,h2⟩:=h;have a1:=i8 _ _ g h1;exact i7 _ _ _ _ _ a1.2 a1.1 h2
  ·intro l e v s x g hE h;rw[cLoop] at h
   split at h
   ·injection h with h;subst h;exact⟨hE,g⟩
   rename_i op hop
   split at h
   ·injection h with h;subst h;exact⟨hE,g⟩
   rw[Option.bind_eq_some_iff] at h;obtain⟨r1,h1,h2⟩:=h;have a1:=i6 _ _ _ g.tk h1;have hb:=bop_ar hop;exact i7 _ (prt op.kind s.nx [e,r1.1]) _ _ _ a1.2 (bnd_prt g hb.1 (.inr hb.2) (bnds2 hE a1.1)) h2
  ·intro s x g h;rw[cOne] at h
   split at h
   ·exact i9 _ _ g h
   rename_i k hk
   rw[Option.bind_eq_some_iff] at h;obtain⟨r1,h1,h2⟩:=h;injection h2 with h2;subst h2;have a1:=i8 _ _ g.tk h1;have hb:=un_ar hk;exact⟨bnd_prt g hb.1 (.inr hb.2) (bnds1 a1.1),a1.2⟩
  ·intro s x g h;rw[cAtom] at h
   split at h
   ·rename_i hk
    injection h with h;subst h;exact⟨by rw[Bnd];exact⟨⟨by decide,.inr rfl⟩,⟨by decide,by decide,zb_dn ((g.1.head).k1 hk).2⟩,⟨g.l,g.c⟩,bnds0⟩,g.tk⟩
   split at h
   ·split at h
    ·rw[Option.bind_eq_some_iff] at h;obtain⟨r1,h1,h2⟩:=h;injection h2 with h2;subst h2;have a1:=i10 _ _ g.tk.tk h1;exact⟨bnd_nmd g (by decide) (.inl rfl) a1.1,a1.2⟩
    injection h with h;subst h;exact⟨bnd_nmd g (by decide) (.inr rfl) bnds0,g.tk⟩
   split at h
   ·injection h with h;subst h;exact⟨bnd_nmd g (by decide) (.inr rfl) bnds0,g.tk⟩
   split at h
   ·injection h with h;subst h;exact⟨bnd_prt g (by decide) (.inr rfl) bnds0,g.tk⟩
   split at h
   ·injection h with h;subst h;exact⟨bnd_prt g (by decide) (.inr rfl) bnds0,g.tk⟩
   split at h
   ·injection h with h;subst h;exact⟨bnd_prt g (by decide) (.inr rfl) bnds0,g.tk⟩
   split at h
   ·rw[Option.bind_eq_some_iff] at h;obtain⟨r1,h1,h2⟩:=h;injection h2 with h2;subst h2;have a1:=i1 _ _ g.tk h1;exact⟨a1.1,a1.2.exp _⟩
   injection h with h;subst h;exact⟨bnd_u0,g.tk.fail _ (.inl rfl)⟩
  ·intro s x g h;rw[cArgs] at h
   split at h
   ·injection h with h;subst h;exact⟨bnds0,g.tk⟩
   rw[Option.bind_eq_some_iff] at h;obtain⟨r1,h1,h2⟩:=h;have a1:=i1 _ _ g h1;exact i11 _ _ _ a1.2 (bnds1 a1.1) h2
  intro l s x g hl h;rw[cMore] at h
  split at h
  ·rw[Option.bind_eq_some_iff] at h;obtain⟨r1,h1,h2⟩:=h;have a1:=i1 _ _ g.tk h1;exact i11 _ _ _ a1.2 (bnds_app hl (bnds1 a1.1)) h2
  injection h with h;subst h;exact⟨hl,g.exp _⟩
theorem gt_st0 (l:Bs) (hl:l.length<=3000) (h0:(lexS l (1,1)).2=0):GT (st0 l):=
 ⟨lex_good l (1,1) h0,fun t ht=>by
  have:=placed_bd (lex_placed l (1,1) h0) t ht;simp only at this
  exact⟨by omega,by omega,by omega⟩,fun x hx=>by cases hx⟩
theorem all_gt {n:Nat} {s:St} {x:U × St} (g:GT s) (h:cAll n s=some x):BG x:=by
 unfold cAll at h;rw[Option.bind_eq_some_iff] at h;obtain⟨r,h1,h2⟩:=h;injection h2 with h2;subst h2;have:=(c_bnd n).1 _ _ g h1;refine⟨this.1,?_⟩;simp only
 split
 ·exact this.2.fail _ (.inr rfl)
 exact this.2
def PmB (p:PmU):Prop:=p.nm.length<=3000/\p.b<=2/\p.ln<=1000000000/\p.cl<=1000000000/\Bnd p.ref
def QlB (q:QlU):Prop:=q.nm.length<=3000/\(∀ p ∈ q.ps,PmB p)/\Bnd q.body/\q.ln<=1000000000/\q.cl<=1000000000
def FnB (f:FnU):Prop:=f.nm.length<=3000/\(∀ p ∈ f.ps,PmB p)/\PmB f.res/\Bnd f.body/\f.ln<=1000000000/\f.cl<=1000000000
def PgB (p:PgU):Prop:=(∀ q ∈ p.qs,QlB q)/\(∀ f ∈ p.fs,FnB f)
abbrev Sh (s s':St):Prop:=GT s'/\s'.rest.length<=s.rest.length
theorem Sh.exp {s t:St} (h:Sh s t) (w:Bs):Sh s (t.exp w):=⟨h.1.exp w,Nat.le_trans (len_exp t w) h.2⟩
theorem Sh.name {s t:St} (h:Sh s t):Sh s t.name:=⟨h.1.name,Nat.le_trans (len_name t) h.2⟩
theorem Sh.counted {s t:St} (h:Sh s t) (k l:Nat):Sh s (t.counted k l):=by
 unfold St.counted
 split
 ·exact⟨h.name.1.fail _ (.inr rfl),Nat.le_trans (len_fail _ _ _) h.name.2⟩
 exact h.name
theorem Sh.tk {s t:St} (h:Sh s t):Sh s t.tk:=⟨h.1.tk,Nat.le_trans (len_tk t) h.2⟩
theorem Sh.tr {s t u:St} (h:Sh s t) (k:Sh t u):Sh s u:=⟨k.1,Nat.le_trans k.2 h.2⟩
theorem Sh.rfl' {s:St} (h:GT s):Sh s s:=⟨h,Nat.le_refl _⟩
theorem Sh.base {s t:St} (h:Sh s t):Sh s (cBase t).2/\(cBase t).1<=2:=by
 unfold cBase
 split
 ·exact⟨h.tk,Nat.le_of_ble_eq_true rfl⟩
 split
 ·exact⟨h.tk,Nat.le_of_ble_eq_true rfl⟩
 split
 ·exact⟨h.tk,Nat.le_of_ble_eq_true rfl⟩
 exact⟨⟨h.tk.1.fail _ (.inl rfl),Nat.le_trans (len_fail _ _ _) h.tk.2⟩,Nat.le_of_ble_eq_true rfl⟩
theorem all_c {n:Nat} {s:St} (g:GT s) (hn:8*s.rest.length+7<=n):∃ x,cAll n s=some x/\Bnd x.1/\Sh s x.2:=by
 obtain⟨y,hy⟩:=Option.isSome_iff_exists.1 ((c_tot n).1 s g.1 hn);have hx:cAll n s=some (y.1,if 60<ud y.1 then y.2.fail s.nx 2 else y.2):=by unfold cAll;rw[hy];rfl
 have hb:=all_gt g hx;refine⟨_,hx,hb.1,hb.2,?_⟩;have:=(c_len n).1 _ _ hy;simp only
 split
 ·exact Nat.le_trans (len_fail _ _ _) this
 exact this
theorem ref_c {n:Nat} {p:PmU} {s:St} (hp:PmB p) (g:GT s) (hn:8*s.rest.length+7<=n):∃ x,cRef n p s=some x/\PmB x.1/\Sh s x.2:=by
 unfold cRef
 split
 ·obtain⟨x,h1,h2,h3⟩:=all_c (n:=n) g.tk (by have:=len_tk s;omega);refine⟨_,by rw[h1];rfl,⟨hp.1,hp.2.1,hp.2.2.1,hp.2.2.2.1,h2⟩,((Sh.rfl' g).tk.tr h3).exp _⟩
 exact⟨_,rfl,hp,Sh.rfl' g⟩
theorem typ_b {s:St} (g:GT s) {nm:Bs} (hn:nm.length<=3000) {b:Nat} (hb:b<=2):PmB (typ nm s.nx b):=⟨hn,hb,g.l,g.c,bnd_u0⟩
theorem var_c {s:St} (g:GT s):PmB (cVar s).1/\Sh s (cVar s).2:=by
 have h:=(((Sh.rfl' g).exp wV).exp wColon).base;exact⟨typ_b g g.t h.2,h.1⟩
theorem param_c {s:St} (g:GT s) (k:Nat):PmB (cParam k s).1/\Sh s (cParam k s).2:=by
 have h:=(((Sh.rfl' g).counted k 6).exp wColon).base;exact⟨typ_b g g.t h.2,h.1⟩
theorem res_c {n:Nat} {s:St} (g:GT s) (hn:8*s.rest.length+7<=n):∃ x,cRes n s=some x/\PmB x.1/\Sh s x.2:=by
 have h:=(Sh.rfl' g).base;obtain⟨x,h1,h2,h3⟩:=ref_c (n:=n) (typ_b g (nm:=wV) (by decide) h.2) h.1.1 (by have:=h.1.2;omega);exact⟨x,h1,h2,h.1.tr h3⟩
theorem all_snoc {α:Type} {P:α->Prop} {l:List α} {a:α} (h:∀ x ∈ l,P x) (ha:P a):∀ x ∈ l++[a],P x:=by
 intro x hx;rcases List.mem_append.1 hx with hx | hx
 ·exact h x hx
 rw[List.mem_singleton.1 hx];exact ha
theorem qmore_c:∀ {m:Nat} {l:List PmU} {s:St},GT s->(∀ p ∈ l,PmB p)->s.rest.length<=m->∃ x,cQMore m l s=some x/\(∀ p ∈ x.1,PmB p)/\Sh s x.2:=by
 intro m
 induction m with
 | zero=>intro l s g hl hm;exact absurd (List.length_pos_iff.2 g.1.ne) (by omega)
 | succ m ih =>
  intro l s g hl hm;rw[cQMore]
  split
  ·rename_i hi
   have h1:=tk_one g.1 (kind_is g.1 (by decide) hi);obtain⟨hp,hs⟩:=param_c g.tk l.length;obtain⟨x,q1,q2,q3⟩:=ih (l:=l++[(cParam l.length s.tk).1]) hs.1 (all_snoc hl hp) (by have:=hs.2;omega);exact⟨x,q1,q2,((Sh.rfl' g).tk.tr hs).tr q3⟩
  exact⟨_,rfl,hl,Sh.rfl' g⟩
theorem fpar_c {n:Nat} {l:List PmU} {s:St} (g:GT s) (hl:∀ p ∈ l,PmB p) (hn:8*s.rest.length+7<=n):∃ x,cFPar n l s=some x/\(∀ p ∈ x.1,PmB p)/\Sh s x.2:=by
 obtain⟨hp,hs⟩:=param_c g l.length;obtain⟨x,q1,q2,q3⟩:=ref_c (n:=n) hp hs.1 (by have:=hs.2;omega);refine⟨(l++[x.1],x.2),by unfold cFPar;rw[q1];rfl,all_snoc hl q2,hs.tr q3⟩
theorem fmore_c:∀ {m n:Nat} {l:List PmU} {s:St},GT s->(∀ p ∈ l,PmB p)->s.rest.length<=m->8*s.rest.length+7<=n->∃ x,cFMore m n l s=some x/\(∀ p ∈ x.1,PmB p)/\Sh s x.2:=by
 intro m
 induction m with
 | zero=>intro n l s g hl hm;exact absurd (List.length_pos_iff.2 g.1.ne) (by omega)
 | succ m ih =>
  intro n l s g hl hm hn;rw[cFMore]
  split
  ·rename_i hi
   have h1:=tk_one g.1 (kind_is g.1 (by decide) hi);obtain⟨y,p1,p2,p3⟩:=fpar_c (n:=n) g.tk hl (by omega);obtain⟨x,q1,q2,q3⟩:=ih (n:=n) p3.1 p2 (by have:=p3.2;omega) (by have:=p3.2;omega);exact⟨x,by rw[p1];exact q1,q2,((Sh.rfl' g).tk.tr p3).tr q3⟩
  exact⟨_,rfl,hl,(Sh.rfl' g).exp _⟩
theorem fpars_c {m n:Nat} {s:St} (g:GT s) (hm:s.rest.length<=m) (hn:8*s.rest.length+7<=n):∃ x,cFPars m n s=some x/\(∀ p ∈ x.1,PmB p)/\Sh s x.2:=by
 unfold cFPars
 split
 ·exact⟨_,rfl,by simp,(Sh.rfl' g).tk⟩
 obtain⟨y,p1,p2,p3⟩:=fpar_c (n:=n) (l:=[]) g (by simp) hn;obtain⟨x,q1,q2,q3⟩:=fmore_c (m:=m) (n:=n) p3.1 p2 (by have:=p3.2;omega) (by have:=p3.2;omega);exact⟨x,by rw[p1];exact q1,q2,p3.tr q3⟩
theorem qual_c {m n k:Nat} {s:St} (g:GT s) (hm:s.rest.length<=m) (hn:8*s.rest.length+7<=n):∃ x,cQual m n k s=some x/\QlB x.1/\Sh s x.2:=by
 have h1:=((Sh.rfl' g).counted k 20).exp wOpen;obtain⟨hv,h2⟩:=var_c h1.1;obtain⟨x,q1,q2,q3⟩:=qmore_c (m:=m) (l:=[(cVar ((s.counted k 20).exp wOpen)).1]) h2.1 (by simpa using hv) (by have:=h2.2;have:=h1.2;omega);have h4:=((((h1.tr h2).tr q3).exp wClose).exp wColon)
 obtain⟨y,p1,p2,p3⟩:=all_c (n:=n) h4.1 (by have:=h4.2;omega);refine⟨(⟨s.nx.text,x.1,y.1,s.nx.line,s.nx.col⟩,y.2),?_,⟨g.t,q2,p2,g.l,g.c⟩,h4.tr p3⟩;unfold cQual;simp only[q1,Option.bind_some,p1]
theorem fun_c {m n k:Nat} {s:St} (g:GT s) (hm:s.rest.length<=m) (hn:8*s.rest.length+7<=n):∃ x,cFun m n k s=some x/\FnB x.1/\Sh s x.2:=by
 have h1:=((Sh.rfl' g).counted k 20).exp wOpen;obtain⟨x,q1,q2,q3⟩:=fpars_c (m:=m) (n:=n) h1.1 (by have:=h1.2;omega) (by have:=h1.2;omega);have h2:=(h1.tr q3).exp wColon;obtain⟨t,t1,t2,t3⟩:=res_c (n:=n) h2.1 (by have:=h2.2;omega);have h4:=(h2.tr t3).exp wEq;obtain⟨y,p1,p2,p3⟩:=all_c (n:=n) h4.1 (by have:=h4.2;omega);refine⟨(⟨s.nx.text,x.1,t.1,y.1,s.nx.line,s.nx.col⟩,y.2),?_,⟨g.t,q2,t2,p2,g.l,g.c⟩,h4.tr p3⟩;unfold cFun;simp only[q1,Option.bind_some,t1,p1]
theorem prog_c:∀ {m n:Nat} {p:PgU} {s:St},GT s->PgB p->s.rest.length<=m->8*s.rest.length+7<=n->∃ x,cProg m n p s=some x/\PgB x.1/\GT x.2:=by
 intro m
 induction m with
 | zero=>intro n p s g hp hm;exact absurd (List.length_pos_iff.2 g.1.ne) (by omega)
 | succ m ih =>
  intro n p s g hp hm hn;rw[cProg]
  split
  ·rename_i hi
   have h1:=tk_one g.1 (kind_is g.1 (by decide) hi);obtain⟨y,p1,p2,p3⟩:=qual_c (m:=m) (n:=n) (k:=p.qs.length) g.tk (by omega) (by omega);obtain⟨x,q1,q2,q3⟩:=ih (n:=n) (p:=⟨p.qs++[y.1],p.fs⟩) p3.1 ⟨all_snoc hp.1 p2,hp.2⟩ (by have:=p3.2;omega) (by have:=p3.2;omega);exact⟨x,by rw[p1];exact q1,q2,q3⟩
  split
  ·rename_i hi
   have h1:=tk_one g.1 (kind_is g.1 (by decide) hi);obtain⟨y,p1,p2,p3⟩:=fun_c (m:=m) (n:=n) (k:=p.fs.length) g.tk (by omega) (by omega);obtain⟨x,q1,q2,q3⟩:=ih (n:=n) (p:=⟨p.qs,p.fs++[y.1]⟩) p3.1 ⟨hp.1,all_snoc hp.2 p2⟩ (by have:=p3.2;omega) (by have:=p3.2;omega);exact⟨x,by rw[p1];exact q1,q2,q3⟩
  exact⟨_,rfl,hp,g⟩
theorem sq_succ (n:Nat):(n+1)*(n+1)=n*n+2*n+1:=by rw[Nat.add_mul,Nat.mul_add];omega
theorem ud_prt (k:Nat) (t:Tok) (ks:List U):ud (prt k t ks)=uds ks+1:=by unfold prt;rw[ud]
theorem ud_nmd (k:Nat) (t:Tok) (ks:List U):ud (nmd k t ks)=uds ks+1:=by unfold nmd;rw[ud]
theorem ud_u0:ud u0=1:=by unfold u0;rw[ud,uds]
theorem uds1 (a:U):uds [a]=ud a:=by rw[uds,uds];omega
theorem uds2 (a b:U):uds [a,b]=max (ud a) (ud b):=by rw[uds,uds1]
theorem uds3 (a b c:U):uds [a,b,c]=max (ud a) (max (ud b) (ud c)):=by rw[uds,uds2]
theorem c_ud (n:Nat):(∀ s x,cExpr n s=some x->ud x.1<=n*n)/\(∀ s x,cLet n s=some x->ud x.1<=n*n)/\(∀ s x,cIf n s=some x->ud x.1<=n*n)/\(∀ s x,cMatch n s=some x->ud x.1<=n*n)/\(∀ s x,cAssert n s=some x->ud x.1<=n*n) /\
  (∀ l s x,cBin n l s=some x->ud x.1<=n*n)/\(∀ l e v s x,cLoop n l e v s=some x->ud x.1<=max (ud e) (n*n)+n)/\(∀ s x,cOne n s=some x->ud x.1<=n*n)/\(∀ s x,cAtom n s=some x->ud x.1<=n*n)/\(∀ s x,cArgs n s=some x->uds x.1<=n*n)/\(∀ l s x,cMore n l s=some x->uds x.1<=max (uds l) (n*n)):=by
 induction n with
 | zero=>refine⟨?_,?_,?_,?_,?_,?_,?_,?_,?_,?_,?_⟩<;>intros<;>simp_all [cExpr,cLet,cIf,cMatch,cAssert,cBin,cLoop,cOne,cAtom,cArgs,cMore]
 | succ n ih =>
  obtain⟨i1,i2,i3,i4,i5,i6,i7,i8,i9,i10,i11⟩:=ih;have hq:=sq_succ n;rw[hq];generalize n*n=q at *;refine⟨?_,?_,?_,?_,?_,?_,?_,?_,?_,?_,?_⟩
  ·intro s x h;rw[cExpr] at h
   split at h;have:=i2 _ _ h;omega
   split at h;have:=i3 _ _ h;omega
   split at h;have:=i4 _ _ h;omega
   split at h;have:=i5 _ _ h;omega
   have:=i6 _ _ _ h;omega
  ·intro s x h;rw[cLet] at h;simp only[Option.bind_eq_some_iff] at h;obtain⟨r1,h1,r2,h2,h3⟩:=h;injection h3 with h3;subst h3;have a1:=i1 _ _ h1;have a2:=i1 _ _ h2;simp only[ud,uds2];omega
  ·intro s x h;rw[cIf] at h;simp only[Option.bind_eq_some_iff] at h;obtain⟨r1,h1,r2,h2,r3,h3,h4⟩:=h;injection h4 with h4;subst h4;have a1:=i1 _ _ h1;have a2:=i1 _ _ h2;have a3:=i1 _ _ h3;simp only[ud_prt,uds3];omega
  ·intro s x h;rw[cMatch] at h;simp only[Option.bind_eq_some_iff] at h;obtain⟨r1,h1,r2,h2,r3,h3,h4⟩:=h;injection h4 with h4;subst h4;have a1:=i1 _ _ h1;have a2:=i1 _ _ h2;have a3:=i1 _ _ h3;simp only[ud,uds3];omega
  ·intro s x h;rw[cAssert] at h;simp only[Option.bind_eq_some_iff] at h;obtain⟨r1,h1,r2,h2,h3⟩:=h;injection h3 with h3;subst h3;have a1:=i1 _ _ h1;have a2:=i1 _ _ h2;simp only[ud_prt,uds2];omega
  ·intro l s x h;rw[cBin,Option.bind_eq_some_iff] at h;obtain⟨r1,h1,h2⟩:=h;have a1:=i8 _ _ h1;have a2:=i7 _ _ _ _ _ h2
   omega
  ·intro l e v s x h;rw[cLoop] at h
   split at h
   ·injection h with h;subst h;simp only;omega
   split at h
   ·injection h with h;subst h;simp only;omega
   rw[Option.bind_eq_some_iff] at h;obtain⟨r1,h1,h2⟩:=h;have a1:=i6 _ _ _ h1;have a2:=i7 _ _ _ _ _ h2;simp only[ud_prt,uds2] at a2
   omega
  ·intro s x h;rw[cOne] at h
   split at h
   ·have:=i9 _ _ h;omega
   rw[Option.bind_eq_some_iff] at h;obtain⟨r1,h1,h2⟩:=h;injection h2 with h2;subst h2;have a1:=i8 _ _ h1;simp only[ud_prt,uds1];omega
  ·intro s x h;rw[cAtom] at h
   repeat' split at h
   all_goals first
    | (injection h with h;subst h;simp only[ud,uds,ud_prt,ud_nmd,ud_u0];omega)
    | (
      rw[Option.bind_eq_some_iff] at h;obtain⟨r1,h1,h2⟩:=h;injection h2 with h2;subst h2
      first
       | (have a1:=i10 _ _ h1;simp only[ud_nmd];omega)
       | (have a1:=i1 _ _ h1;simp only;omega))
  ·intro s x h;rw[cArgs] at h
   split at h
   ·injection h with h;subst h;simp only[uds];omega
   rw[Option.bind_eq_some_iff] at h;obtain⟨r1,h1,h2⟩:=h;have a1:=i1 _ _ h1;have a2:=i11 _ _ _ h2;rw[uds1] at a2
   omega
  intro l s x h;rw[cMore] at h
  split at h
  ·rw[Option.bind_eq_some_iff] at h;obtain⟨r1,h1,h2⟩:=h;have a1:=i1 _ _ h1;have a2:=i11 _ _ _ h2;rw[uds_app,uds1] at a2
   omega
  injection h with h;subst h;simp only;omega
def PmD (d:Nat) (p:PmU):Prop:=ud p.ref<=d
def QlD (d:Nat) (q:QlU):Prop:=ud q.body<=d
def FnD (d:Nat) (f:FnU):Prop:=(∀ p ∈ f.ps,PmD d p)/\PmD d f.res/\ud f.body<=d
def PgD (d:Nat) (p:PgU):Prop:=(∀ q ∈ p.qs,QlD d q)/\(∀ f ∈ p.fs,FnD d f)
theorem all_ud {n:Nat} {s:St} {x:U × St} (h:cAll n s=some x):ud x.1<=n*n+1:=by
 unfold cAll at h;rw[Option.bind_eq_some_iff] at h;obtain⟨r,h1,h2⟩:=h;injection h2 with h2;subst h2;have:=(c_ud n).1 _ _ h1;simp only;omega
theorem ref_ud {n:Nat} {p:PmU} {s:St} {x:PmU × St} (hp:PmD (n*n+1) p) (h:cRef n p s=some x):PmD (n*n+1) x.1:=by
 unfold cRef at h
 split at h
 ·rw[Option.bind_eq_some_iff] at h;obtain⟨r,h1,h2⟩:=h;injection h2 with h2;subst h2;exact all_ud h1
 injection h with h;subst h;exact hp
theorem typ_ud (n:Nat) (nm:Bs) (t:Tok) (b:Nat):PmD (n*n+1) (typ nm t b):=by show ud u0<=_;rw[ud_u0];omega
theorem fpar_ud {n:Nat} {l:List PmU} {s:St} {x:List PmU × St} (hl:∀ p ∈ l,PmD (n*n+1) p) (h:cFPar n l s=some x):∀ p ∈ x.1,PmD (n*n+1) p:=by
 unfold cFPar at h;rw[Option.bind_eq_some_iff] at h;obtain⟨r,h1,h2⟩:=h;injection h2 with h2;subst h2;exact all_snoc hl (ref_ud (typ_ud n _ _ _) h1)
theorem fmore_ud {n:Nat}:∀ {m:Nat} {l:List PmU} {s:St} {x:List PmU × St},(∀ p ∈ l,PmD (n*n+1) p)->cFMore m n l s=some x->∀ p ∈ x.1,PmD (n*n+1) p
 | 0,_,_,_,_,h=>by rw[cFMore] at h;cases h
 | m+1,l,s,x,hl,h=>by
  rw[cFMore] at h
  split at h
  ·rw[Option.bind_eq_some_iff] at h;obtain⟨r,h1,h2⟩:=h;exact fmore_ud (fpar_ud hl h1) h2
  injection h with h;subst h;exact hl
theorem fpars_ud {m n:Nat} {s:St} {x:List PmU × St} (h:cFPars m n s=some x):∀ p ∈ x.1,PmD (n*n+1) p:=by
 unfold cFPars at h
 split at h
 ·injection h with h;subst h;intro p hp;cases hp
 rw[Option.bind_eq_some_iff] at h;obtain⟨r,h1,h2⟩:=h;exact fmore_ud (fpar_ud (by intro p hp;cases hp) h1) h2
theorem qual_ud {m n k:Nat} {s:St} {x:QlU × St} (h:cQual m n k s=some x):QlD (n*n+1) x.1:=by
 unfold cQual at h;simp only[Option.bind_eq_some_iff] at h;obtain⟨r,h1,y,h2,h3⟩:=h;injection h3 with h3;subst h3;exact all_ud h2
theorem fun_ud {m n k:Nat} {s:St} {x:FnU × St} (h:cFun m n k s=some x):FnD (n*n+1) x.1:=by
 unfold cFun at h;simp only[Option.bind_eq_some_iff] at h;obtain⟨r,h1,t,h2,y,h3,h4⟩:=h;injection h4 with h4;subst h4;exact⟨fpars_ud h1,ref_ud (typ_ud n _ _ _) h2,all_ud h3⟩
theorem prog_ud {n:Nat}:∀ {m:Nat} {p:PgU} {s:St} {x:PgU × St},PgD (n*n+1) p->cProg m n p s=some x->PgD (n*n+1) x.1
 | 0,_,_,_,_,h=>by rw[cProg] at h;cases h
 | m+1,p,s,x,hp,h=>by
  rw[cProg] at h
  split at h
  ·rw[Option.bind_eq_some_iff] at h;obtain⟨r,h1,h2⟩:=h;exact prog_ud (p:=⟨p.qs++[r.1],p.fs⟩) ⟨all_snoc hp.1 (qual_ud h1),hp.2⟩ h2
  split at h
  ·rw[Option.bind_eq_some_iff] at h;obtain⟨r,h1,h2⟩:=h;exact prog_ud (p:=⟨p.qs,p.fs++[r.1]⟩) ⟨hp.1,all_snoc hp.2 (fun_ud h1)⟩ h2
  injection h with h;subst h;exact hp
abbrev Flt:=Nat × Nat × Nat
abbrev Sc:=Bs->Option Nat
abbrev Fs:=Bs->Option (List Nat × Nat)
def Sc.put (m:Sc) (n:Bs) (v:Nat):Sc:=fun x=>if x=n then some v else m x
def Sc.del (m:Sc) (n:Bs):Sc:=fun x=>if x=n then none else m x
structure Ks where
 sc:Sc
 er:Option Flt
def Ks.need (s:Ks) (ln cl:Nat) (ok:Bool) (c:Nat):Ks:=if ok then s else ⟨s.sc,s.er.or (some (c,ln,cl))⟩
def sig (k:Nat):List Nat × Nat:=
 if k=1\/k=2 then ([],1)
 else if k=4 then ([],2)
 else if k=5 then ([0],0)
 else if k=6 then ([1],1)
 else if k=7\/k=8 then ([2],0)
 else if k=9 then ([2],2)
 else if 10<=k/\k<=14 then ([0,0],0)
 else if 17<=k/\k<=20 then ([0,0],1)
 else if k=21\/k=22 then ([1,1],1)
 else if k=23 then ([0,2],2)
 else ([],0)
def posU:U->Bool
 | .node k _ _ z _ _ _=>k==0 && decide (0<z)
abbrev Kf:=Ks->Nat × Ks
def Kf.none:Kf:=fun s=>(0,s)
def kf (fs:List Kf) (i:Nat):Kf:=fs[i]?.getD Kf.none
def kRun:List Kf->Ks->List Nat × Ks
 | [],s=>([],s)
 | f::fs,s=>((f s).1::(kRun fs (f s).2).1,(kRun fs (f s).2).2)
def kLet (rf:Bool) (nm:Bs) (ln cl:Nat) (fs:List Kf) (s:Ks):Nat × Ks:=
 let r1:=kf fs 0 s
 let s2:=r1.2.need ln cl (!rf) 1
 let s3:Ks:=if (s2.sc nm).isNone then ⟨s2.sc.put nm r1.1,s2.er⟩ else s2
 let s4:=s3.need ln cl (s2.sc nm).isNone 3
 let r2:=kf fs 1 s4
 (r2.1,⟨r2.2.sc.del nm,r2.2.er⟩)
def kMatch (rf:Bool) (nm ot:Bs) (ln cl:Nat) (fs:List Kf) (s:Ks):Nat × Ks:=
 let r1:=kf fs 0 s
 let s2:=r1.2.need ln cl (!rf) 1
 let s3:=s2.need ln cl (r1.1==2) 4
 let s4:=s3.need ln cl ((s3.sc nm).isNone && (s3.sc ot).isNone && nm != ot) 3
 let r2:=kf fs 1 s4
 let s5:Ks:=⟨(r2.2.sc.put nm 0).put ot 2,r2.2.er⟩
 let r3:=kf fs 2 s5
 let s6:Ks:=⟨(r3.2.sc.del nm).del ot,r3.2.er⟩
 (r2.1,s6.need ln cl (r2.1==r3.1) 4)
def kAssert (rf:Bool) (ln cl:Nat) (fs:List Kf) (s:Ks):Nat × Ks:=
 let r1:=kf fs 0 s
 let s2:=r1.2.need ln cl (!rf) 1
 kf fs 1 (s2.need ln cl (r1.1==1) 4)
def kVar (nm:Bs) (ln cl:Nat) (s:Ks):Nat × Ks:=((s.sc nm).getD 0,s.need ln cl (s.sc nm).isSome 3)
def kCall (F:Fs) (rf:Bool) (nm:Bs) (ln cl:Nat) (ts:List Nat) (s:Ks):Nat × Ks:=
 let s2:=s.need ln cl (!rf) 1
 let s3:=s2.need ln cl (F nm).isSome 3
 (((F nm).getD ([],0)).2,s3.need ln cl (decide (ts=((F nm).getD ([],0)).1)) 4)
def kIf (rf:Bool) (ln cl:Nat) (ts:List Nat) (s:Ks):Nat × Ks:=
 let s2:=s.need ln cl (!rf) 1
 (ts.getD 1 0,s2.need ln cl (ts.getD 0 0==1 && ts.getD 1 0==ts.getD 2 0) 4)
def kEq (ln cl:Nat) (ts:List Nat) (s:Ks):Nat × Ks:=(1,s.need ln cl (ts.getD 0 0==ts.getD 1 0) 4)
def kOp (rf:Bool) (k ln cl:Nat) (ps:Bool) (ts:List Nat) (s:Ks):Nat × Ks:=
 let s2:=s.need ln cl (decide (ts=(sig k).1)) 4
 ((sig k).2,if k=8\/k=9 then s2.need ln cl rf 1 else if k=13\/k=14 then s2.need ln cl ps 1 else s2)
def kRest (F:Fs) (rf:Bool) (k:Nat) (nm:Bs) (ln cl:Nat) (ps:Bool) (ts:List Nat) (s:Ks):Nat × Ks:=
 if k=3 then kVar nm ln cl s
 else if k=24 then kCall F rf nm ln cl ts s
 else if k=25 then kIf rf ln cl ts s
 else if k=15\/k=16 then kEq ln cl ts s
 else kOp rf k ln cl ps ts s
def kNode (F:Fs) (rf:Bool) (k:Nat) (nm ot:Bs) (ln cl:Nat) (ps:Bool) (fs:List Kf) (s:Ks):Nat × Ks:=
 if k=26 then kLet rf nm ln cl fs s
 else if k=27 then kMatch rf nm ot ln cl fs s
 else if k=28 then kAssert rf ln cl fs s
 else kRest F rf k nm ln cl ps (kRun fs s).1 (kRun fs s).2
mutual
def kEx (F:Fs) (rf:Bool):U->Kf
 | .node k nm ot z ln cl ks=>kNode F rf k nm ot ln cl (posU (ks.getD 1 u0)) (kExs F rf ks)
def kExs (F:Fs) (rf:Bool):List U->List Kf
 | []=>[]
 | u::us=>kEx F rf u::kExs F rf us
end
abbrev Ar:=Except Flt Nat
abbrev Af:=Sc->Ar
def Af.none:Af:=fun _=>.ok 0
def af (fs:List Af) (i:Nat):Af:=fs[i]?.getD Af.none
def aRun:List Af->Sc->Except Flt (List Nat)
 | [],_=>.ok []
 | f::fs,l=>match f l with
  | .error e=>.error e
  | .ok b=>match aRun fs l with
   | .error e=>.error e
   | .ok ts=>.ok (b::ts)
def aLet (rf:Bool) (nm:Bs) (ln cl:Nat) (fs:List Af) (l:Sc):Ar:=
 match af fs 0 l with
 | .error e=>.error e
 | .ok b=>if rf then .error (1,ln,cl) else if (l nm).isSome then .error (3,ln,cl) else af fs 1 (l.put nm b)
def aMatch (rf:Bool) (nm ot:Bs) (ln cl:Nat) (fs:List Af) (l:Sc):Ar:=
 match af fs 0 l with
 | .error e=>.error e
 | .ok b=>if rf then .error (1,ln,cl) else if b≠2 then .error (4,ln,cl) else if (l nm).isSome\/(l ot).isSome\/nm=ot then .error (3,ln,cl) else
  match af fs 1 l with
  | .error e=>.error e
  | .ok c=>match af fs 2 ((l.put nm 0).put ot 2) with
   | .error e=>.error e
   | .ok d=>if c≠d then .error (4,ln,cl) else .ok d
def aAssert (rf:Bool) (ln cl:Nat) (fs:List Af) (l:Sc):Ar:=
 match af fs 0 l with
 | .error e=>.error e
 | .ok b=>if rf then .error (1,ln,cl) else if b≠1 then .error (4,ln,cl) else af fs 1 l
def aVar (nm:Bs) (ln cl:Nat) (l:Sc):Ar:=match l nm with
 | none=>.error (3,ln,cl)
 | some b=>.ok b
def aCall (F:Fs) (rf:Bool) (nm:Bs) (ln cl:Nat) (ts:List Nat):Ar:=
 if rf then .error (1,ln,cl) else match F nm with
  | none=>.error (3,ln,cl)
  | some f=>if ts=f.1 then .ok f.2 else .error (4,ln,cl)
def aIf (rf:Bool) (ln cl:Nat) (ts:List Nat):Ar:=
 if rf then .error (1,ln,cl) else if ts.getD 0 0≠1\/ts.getD 1 0≠ts.getD 2 0 then .error (4,ln,cl) else .ok (ts.getD 2 0)
def aEq (ln cl:Nat) (ts:List Nat):Ar:=if ts.getD 0 0≠ts.getD 1 0 then .error (4,ln,cl) else .ok 1
def aOp (rf:Bool) (k ln cl:Nat) (ps:Bool) (ts:List Nat):Ar:=
 if ts≠(sig k).1 then .error (4,ln,cl)
 else if (k=8\/k=9)/\rf=false then .error (1,ln,cl)
 else if (k=13\/k=14)/\ps=false then .error (1,ln,cl)
 else .ok (sig k).2
def aRest (F:Fs) (rf:Bool) (k:Nat) (nm:Bs) (ln cl:Nat) (ps:Bool) (ts:List Nat) (l:Sc):Ar:=
 if k=3 then aVar nm ln cl l
 else if k=24 then aCall F rf nm ln cl ts
 else if k=25 then aIf rf ln cl ts
 else if k=15\/k=16 then aEq ln cl ts
 else aOp rf k ln cl ps ts
def aNode (F:Fs) (rf:Bool) (k:Nat) (nm ot:Bs) (ln cl:Nat) (ps:Bool) (fs:List Af) (l:Sc):Ar:=
 if k=26 then aLet rf nm ln cl fs l
 else if k=27 then aMatch rf nm ot ln cl fs l
 else if k=28 then aAssert rf ln cl fs l
 else match aRun fs l with
  | .error e=>.error e
  | .ok ts=>aRest F rf k nm ln cl ps ts l
mutual
def aB (F:Fs) (rf:Bool):U->Af
 | .node k nm ot z ln cl ks=>aNode F rf k nm ot ln cl (posU (ks.getD 1 u0)) (aBs F rf ks)
def aBs (F:Fs) (rf:Bool):List U->List Af
 | []=>[]
 | u::us=>aB F rf u::aBs F rf us
end
theorem Sc.put_del {l:Sc} {n:Bs} {v:Nat} (h:l n=none):(l.put n v).del n=l:=by
 funext x;unfold Sc.del Sc.put;split
 ·rename_i e;subst e;exact h.symm
 rfl
theorem Sc.put_del2 {l:Sc} {n o:Bs} {v u:Nat} (h:l n=none) (k:l o=none) (e:n≠o):(((l.put n v).put o u).del n).del o=l:=by
 funext x;unfold Sc.del Sc.put;split
 ·rename_i e;subst e;exact k.symm
 split
 ·rename_i e;subst e;exact h.symm
 rfl
theorem need_sc (s:Ks) (ln cl:Nat) (ok:Bool) (c:Nat):(s.need ln cl ok c).sc=s.sc:=by unfold Ks.need;split<;>rfl
theorem need_er {s:Ks} {e:Flt} (h:s.er=some e) (ln cl:Nat) (ok:Bool) (c:Nat):(s.need ln cl ok c).er=some e:=by unfold Ks.need;split;exact h;simp[h]
theorem need_ok (s:Ks) (ln cl:Nat) (c:Nat):s.need ln cl true c=s:=rfl
theorem need_no (sc:Sc) (ln cl:Nat) (c:Nat):(Ks.need ⟨sc,none⟩ ln cl false c)=⟨sc,some (c,ln,cl)⟩:=rfl
def KSt (f:Kf):Prop:=∀ s e,s.er=some e->(f s).2.er=some e
def KA (f:Kf) (g:Af):Prop:=∀ l,match g l with
 | .error e=>(f ⟨l,none⟩).2.er=some e
 | .ok b=>f ⟨l,none⟩=(b,⟨l,none⟩)
theorem kst_none:KSt Kf.none:=fun s e h=>h
theorem ka_none:KA Kf.none Af.none:=fun l=>rfl
theorem kst_kf {fs:List Kf} (h:∀ f ∈ fs,KSt f) (i:Nat):KSt (kf fs i):=by
 unfold kf
 cases hi:fs[i]? with
 | none=>exact kst_none
 | some f=>exact h f (List.mem_of_getElem? hi)
theorem kst_run:∀ {fs:List Kf},(∀ f ∈ fs,KSt f)->∀ s e,s.er=some e->(kRun fs s).2.er=some e
 | [],_,_,_,h=>h
 | f::fs,hf,s,e,h=>by
  rw[kRun];exact kst_run (fun g hg=>hf g (by simp[hg])) (f s).2 e (hf f (by simp) s e h)
theorem kst_rest (F:Fs) (rf:Bool) (k:Nat) (nm:Bs) (ln cl:Nat) (ps:Bool) (ts:List Nat) (s:Ks) (e:Flt) (h:s.er=some e):(kRest F rf k nm ln cl ps ts s).2.er=some e:=by
 unfold kRest
 split;exact need_er h _ _ _ _
 split;exact need_er (need_er (need_er h _ _ _ _) _ _ _ _) _ _ _ _
 split;exact need_er (need_er h _ _ _ _) _ _ _ _
 split;exact need_er h _ _ _ _
 unfold kOp;simp only
 split;exact need_er (need_er h _ _ _ _) _ _ _ _
 split;exact need_er (need_er h _ _ _ _) _ _ _ _
 exact need_er h _ _ _ _
theorem kst_node (F:Fs) (rf:Bool) (k:Nat) (nm ot:Bs) (ln cl:Nat) (ps:Bool) {fs:List Kf} (hf:∀ f ∈ fs,KSt f):KSt (kNode F rf k nm ot ln cl ps fs):=by
 intro s e h;unfold kNode
 split
 ·unfold kLet;simp only;refine kst_kf hf 1 _ _ (need_er ?_ _ _ _ _)
  split<;>exact need_er (kst_kf hf 0 _ _ h) _ _ _ _
 split
 ·unfold kMatch;simp only;refine need_er ?_ _ _ _ _;refine kst_kf hf 2 _ _ ?_;refine kst_kf hf 1 _ _ ?_;exact need_er (need_er (need_er (kst_kf hf 0 _ _ h) _ _ _ _) _ _ _ _) _ _ _ _
 split
 ·unfold kAssert;exact kst_kf hf 1 _ _ (need_er (need_er (kst_kf hf 0 _ _ h) _ _ _ _) _ _ _ _)
 exact kst_rest _ _ _ _ _ _ _ _ _ _ (kst_run hf _ _ h)
mutual
theorem kst_b (F:Fs) (rf:Bool):∀ u:U,KSt (kEx F rf u)
 | .node k nm ot z ln cl ks=>by rw[kEx];exact kst_node _ _ _ _ _ _ _ _ (kst_bs F rf ks)
theorem kst_bs (F:Fs) (rf:Bool):∀ us:List U,∀ f ∈ kExs F rf us,KSt f
 | [],f,h=>by rw[kExs] at h;cases h
 | u::us,f,h=>by
  rw[kExs] at h;rcases List.mem_cons.1 h with rfl | h
  ·exact kst_b F rf u
  exact kst_bs F rf us f h
end
inductive KAs:List Kf->List Af->Prop
 | nil:KAs [] []
 | cons {f:Kf} {g:Af} {fs:List Kf} {gs:List Af}:KA f g->KAs fs gs->KAs (f::fs) (g::gs)
theorem KAs.get:∀ {fs:List Kf} {gs:List Af},KAs fs gs->∀ i,KA (kf fs i) (af gs i)
 | _,_,.nil,i=>by unfold kf af;exact ka_none
 | _,_,.cons h t,0=>h
 | _,_,.cons h t,i+1=>t.get i
theorem KAs.run:∀ {fs:List Kf} {gs:List Af},KAs fs gs->(∀ f ∈ fs,KSt f)->∀ l,match aRun gs l with
  | .error e=>(kRun fs ⟨l,none⟩).2.er=some e
  | .ok ts=>kRun fs ⟨l,none⟩=(ts,⟨l,none⟩)
 | _,_,.nil,_,l=>rfl
 | f::fs,g::gs,.cons h t,hs,l=>by
  have h1:=h l;have h2:=t.run (fun x hx=>hs x (by simp[hx])) l;rw[aRun]
  cases hg:g l with
  | error e=>rw[hg] at h1;rw[kRun];exact kst_run (fun x hx=>hs x (by simp[hx])) _ _ h1
  | ok b =>
   rw[hg] at h1;simp only at h1 ⊢
   cases hr:aRun gs l with
   | error e=>rw[hr] at h2;simp only[kRun,h1];exact h2
   | ok ts=>rw[hr] at h2;simp only at h2 ⊢;simp only[kRun,h1,h2]
theorem ka_rest (F F':Fs) (rf:Bool) (hF:rf=false->F'=F) (k:Nat) (nm:Bs) (ln cl:Nat) (ps:Bool) (ts:List Nat) (l:Sc):match aRest F' rf k nm ln cl ps ts l with
  | .error e=>(kRest F rf k nm ln cl ps ts ⟨l,none⟩).2.er=some e
  | .ok b=>kRest F rf k nm ln cl ps ts ⟨l,none⟩=(b,⟨l,none⟩):=by
 unfold aRest kRest
 by_cases k1:k=3
 ·rw[if_pos k1,if_pos k1];unfold aVar kVar;simp only
  cases l nm<;>rfl
 rw[if_neg k1,if_neg k1]
 by_cases k2:k=24
 ·rw[if_pos k2,if_pos k2];unfold aCall kCall
  cases rf
  ·rw[hF rfl]
   cases F nm with
   | none=>simp only[Bool.false_eq_true,if_false];exact need_er rfl _ _ _ _
   | some f =>
    by_cases hf:ts=f.1
    ·simp only[Bool.false_eq_true,if_false,if_pos hf,Option.getD_some,decide_eq_true hf];rfl
    simp only[Bool.false_eq_true,if_false,if_neg hf,Option.getD_some,decide_eq_false hf];rfl
  simp only[if_true];exact need_er (need_er rfl _ _ _ _) _ _ _ _
 rw[if_neg k2,if_neg k2]
 by_cases k3:k=25
 ·rw[if_pos k3,if_pos k3];unfold aIf kIf
  cases rf
  ·simp only[Bool.false_eq_true,if_false]
   by_cases h0:ts.getD 0 0=1
   ·by_cases h1:ts.getD 1 0=ts.getD 2 0
    ·rw[if_neg (by omega),h0,h1];simp only[beq_self_eq_true,Bool.and_true];rfl
    rw[if_pos (.inr h1)];simp only[beq_eq_false_iff_ne.2 h1,Bool.and_false];rfl
   rw[if_pos (.inl h0)];simp only[beq_eq_false_iff_ne.2 h0,Bool.false_and];rfl
  simp only[if_true];exact need_er rfl _ _ _ _
 rw[if_neg k3,if_neg k3]
 by_cases k4:k=15\/k=16
 ·rw[if_pos k4,if_pos k4];unfold aEq kEq
  by_cases h:ts.getD 0 0=ts.getD 1 0
  ·rw[if_neg (by omega),h];simp only[beq_self_eq_true];rfl
  rw[if_pos h];simp only[beq_eq_false_iff_ne.2 h];rfl
 rw[if_neg k4,if_neg k4];unfold aOp kOp
 by_cases h:ts=(sig k).1
 ·rw[if_neg (by simpa using h)];simp only[decide_eq_true h,need_ok]
  by_cases h8:k=8\/k=9
  ·simp only[if_pos h8]
   cases rf
   ·rw[if_pos ⟨h8,rfl⟩];rfl
   rw[if_neg (by simp),if_neg (by omega)];rfl
  simp only[if_neg h8];rw[if_neg (fun h=>h8 h.1)]
  by_cases h13:k=13\/k=14
  ·simp only[if_pos h13]
   cases ps
   ·rw[if_pos ⟨h13,rfl⟩];rfl
   rw[if_neg (by simp)];rfl
  simp only[if_neg h13];rw[if_neg (fun h=>h13 h.1)]
 rw[if_pos h];simp only[decide_eq_false h]
 split
 ·exact need_er rfl _ _ _ _
 split
 ·exact need_er rfl _ _ _ _
 rfl
theorem ka_node (F F':Fs) (rf:Bool) (hF:rf=false->F'=F) (k:Nat) (nm ot:Bs) (ln cl:Nat) (ps:Bool) {fs:List Kf} {gs:List Af} (h:KAs fs gs) (hs:∀ f ∈ fs,KSt f):KA (kNode F rf k nm ot ln cl ps fs) (aNode F' rf k nm ot ln cl ps gs):=by
 intro l;unfold aNode kNode
 by_cases k1:k=26
 ·rw[if_pos k1,if_pos k1];unfold aLet kLet;have h0:=h.get 0 l;have h1:=h.get 1;have s1:=kst_kf hs 1;simp only
  cases hg:af gs 0 l with
  | error e =>
   rw[hg] at h0;simp only at h0 ⊢;refine s1 _ _ (need_er ?_ _ _ _ _)
   split<;>exact need_er h0 _ _ _ _
  | ok b =>
   rw[hg] at h0;simp only at h0 ⊢;rw[h0]
   cases rf
   ·simp only[Bool.not_false,need_ok,Bool.false_eq_true,if_false]
    cases hn:l nm with
    | some t=>simp only[Option.isSome_some,if_true,Option.isNone_some,Bool.false_eq_true,if_false,need_no];exact s1 _ _ rfl
    | none =>
     simp only[Option.isSome_none,Option.isNone_none,Bool.false_eq_true,if_false,if_true,need_ok];have h1:=h1 (l.put nm b)
     cases hg1:af gs 1 (l.put nm b) with
     | error e=>rw[hg1] at h1;exact h1
     | ok c=>rw[hg1] at h1;simp only at h1 ⊢;rw[h1];simp only[Sc.put_del hn]
   simp only[Bool.not_true,need_no,if_true];refine s1 _ _ (need_er ?_ _ _ _ _)
   split<;>rfl
 rw[if_neg k1,if_neg k1]
 by_cases k2:k=27
 ·rw[if_pos k2,if_pos k2];unfold aMatch kMatch;have h0:=h.get 0 l;have h1:=h.get 1 l;have h2:=h.get 2;have s1:=kst_kf hs 1;have s2:=kst_kf hs 2;simp only
  cases hg:af gs 0 l with
  | error e =>
   rw[hg] at h0;simp only at h0 ⊢;refine need_er ?_ _ _ _ _;refine s2 _ _ ?_;refine s1 _ _ ?_;exact (need_er (need_er (need_er h0 _ _ _ _) _ _ _ _) _ _ _ _)
  | ok b =>
   rw[hg] at h0;simp only at h0 ⊢;rw[h0]
   cases rf
   ·simp only[Bool.not_false,need_ok,Bool.false_eq_true,if_false]
    by_cases hb:b=2
    ·subst hb;rw[if_neg (by simp)];simp only[beq_self_eq_true,need_ok]
     by_cases hc:(l nm).isSome\/(l ot).isSome\/nm=ot
     ·rw[if_pos hc]
      have hcf:((l nm).isNone && (l ot).isNone && nm != ot)=false:=by
       rcases hc with hc | hc | hc
       ·rw[Option.isSome_iff_exists] at hc;obtain⟨x,hx⟩:=hc;rw[hx];rfl
       ·rw[Option.isSome_iff_exists] at hc;obtain⟨x,hx⟩:=hc;rw[hx];simp
       rw[hc];simp
      rw[hcf];refine need_er ?_ _ _ _ _;refine s2 _ _ ?_;refine s1 _ _ ?_;exact rfl
     rw[if_neg hc];have hn:l nm=none:=by cases hx:l nm with | none=>rfl | some x=>exact absurd (.inl (by rw[hx];rfl)) hc
     have ho:l ot=none:=by cases hx:l ot with | none=>rfl | some x=>exact absurd (.inr (.inl (by rw[hx];rfl))) hc
     have hno:nm≠ot:=fun e=>hc (.inr (.inr e))
     have hcf:((l nm).isNone && (l ot).isNone && nm != ot)=true:=by rw[hn,ho];simpa using hno
     rw[hcf,need_ok]
     cases hg1:af gs 1 l with
     | error e=>rw[hg1] at h1;refine need_er ?_ _ _ _ _;refine s2 _ _ ?_;exact h1
     | ok c =>
      rw[hg1] at h1;simp only at h1 ⊢;rw[h1];simp only;have h2:=h2 ((l.put nm 0).put ot 2)
      cases hg2:af gs 2 ((l.put nm 0).put ot 2) with
      | error e=>rw[hg2] at h2;refine need_er ?_ _ _ _ _;exact h2
      | ok d =>
       rw[hg2] at h2;simp only at h2 ⊢;rw[h2];simp only[Sc.put_del2 hn ho hno]
       by_cases hcd:c=d
       ·rw[if_neg (by omega),hcd];simp only[beq_self_eq_true];rfl
       rw[if_pos hcd];simp only[beq_eq_false_iff_ne.2 hcd];rfl
    rw[if_pos hb];simp only[beq_eq_false_iff_ne.2 hb,need_no];refine need_er ?_ _ _ _ _;refine s2 _ _ ?_;refine s1 _ _ ?_;exact (need_er rfl _ _ _ _)
   simp only[Bool.not_true,need_no,if_true];refine need_er ?_ _ _ _ _;refine s2 _ _ ?_;refine s1 _ _ ?_;exact (need_er (need_er rfl _ _ _ _) _ _ _ _)
 rw[if_neg k2,if_neg k2]
 by_cases k3:k=28
 ·rw[if_pos k3,if_pos k3];unfold aAssert kAssert;have h0:=h.get 0 l;have h1:=h.get 1 l;have s1:=kst_kf hs 1;simp only
  cases hg:af gs 0 l with
  | error e=>rw[hg] at h0;exact s1 _ _ (need_er (need_er h0 _ _ _ _) _ _ _ _)
  | ok b =>
   rw[hg] at h0;simp only at h0 ⊢;rw[h0]
   cases rf
   ·simp only[Bool.not_false,need_ok,Bool.false_eq_true,if_false]
    by_cases hb:b=1
    ·subst hb;rw[if_neg (by simp)];exact h1
    rw[if_pos hb];simp only[beq_eq_false_iff_ne.2 hb,need_no];exact s1 _ _ rfl
   simp only[Bool.not_true,need_no,if_true];exact s1 _ _ (need_er rfl _ _ _ _)
 rw[if_neg k3,if_neg k3];have hr:=h.run hs l
 cases hg:aRun gs l with
 | error e=>rw[hg] at hr;exact kst_rest _ _ _ _ _ _ _ _ _ _ hr
 | ok ts =>
  rw[hg] at hr;simp only at hr ⊢;rw[hr];exact ka_rest F F' rf hF k nm ln cl ps ts l
mutual
theorem ka_b (F F':Fs) (rf:Bool) (hF:rf=false->F'=F):∀ u:U,KA (kEx F rf u) (aB F' rf u)
 | .node k nm ot z ln cl ks=>by rw[kEx,aB];exact ka_node _ _ _ hF _ _ _ _ _ _ (ka_bs F F' rf hF ks) (kst_bs F rf ks)
theorem ka_bs (F F':Fs) (rf:Bool) (hF:rf=false->F'=F):∀ us:List U,KAs (kExs F rf us) (aBs F' rf us)
 | []=>by rw[kExs,aBs];exact .nil
 | u::us=>by rw[kExs,aBs];exact .cons (ka_b F F' rf hF u) (ka_bs F F' rf hF us)
end
def KDm (f:Kf):Prop:=∀ s n,((f s).2.sc n).isSome->(s.sc n).isSome
theorem kdm_none:KDm Kf.none:=fun s n h=>h
theorem kdm_kf {fs:List Kf} (h:∀ f ∈ fs,KDm f) (i:Nat):KDm (kf fs i):=by
 unfold kf
 cases hi:fs[i]? with
 | none=>exact kdm_none
 | some f=>exact h f (List.mem_of_getElem? hi)
theorem kdm_run:∀ {fs:List Kf},(∀ f ∈ fs,KDm f)->∀ s n,((kRun fs s).2.sc n).isSome->(s.sc n).isSome
 | [],_,_,_,h=>h
 | f::fs,hf,s,n,h=>by
  rw[kRun] at h;exact hf f (by simp) s n (kdm_run (fun g hg=>hf g (by simp[hg])) (f s).2 n h)
theorem sc_rest (F:Fs) (rf:Bool) (k:Nat) (nm:Bs) (ln cl:Nat) (ps:Bool) (ts:List Nat) (s:Ks):(kRest F rf k nm ln cl ps ts s).2.sc=s.sc:=by
 unfold kRest
 split;exact need_sc _ _ _ _ _
 split;(unfold kCall;simp only[need_sc])
 split;(unfold kIf;simp only[need_sc])
 split;exact need_sc _ _ _ _ _
 unfold kOp;simp only
 split;simp only[need_sc]
 split;simp only[need_sc]
 simp only[need_sc]
theorem kdm_node (F:Fs) (rf:Bool) (k:Nat) (nm ot:Bs) (ln cl:Nat) (ps:Bool) {fs:List Kf} (hf:∀ f ∈ fs,KDm f):KDm (kNode F rf k nm ot ln cl ps fs):=by
 intro s n h;unfold kNode at h
 split at h
 ·unfold kLet at h;simp only at h;unfold Sc.del at h
  split at h
  ·cases h
  rename_i hn
  have h:=kdm_kf hf 1 _ _ h;rw[need_sc] at h
  split at h
  ·simp only[Sc.put,if_neg hn,need_sc] at h;exact kdm_kf hf 0 _ _ h
  rw[need_sc] at h;exact kdm_kf hf 0 _ _ h
 split at h
 ·unfold kMatch at h;simp only at h;rw[need_sc] at h;simp only[Sc.del] at h
  split at h
  ·cases h
  rename_i ho
  split at h
  ·cases h
  rename_i hn
  have h:=kdm_kf hf 2 _ _ h;simp only[Sc.put,if_neg hn,if_neg ho] at h;have h:=kdm_kf hf 1 _ _ h;simp only[need_sc] at h;exact kdm_kf hf 0 _ _ h
 split at h
 ·unfold kAssert at h;have h:=kdm_kf hf 1 _ _ h;simp only[need_sc] at h;exact kdm_kf hf 0 _ _ h
 rw[sc_rest] at h;exact kdm_run hf _ _ h
mutual
theorem kdm_b (F:Fs) (rf:Bool):∀ u:U,KDm (kEx F rf u)
 | .node k nm ot z ln cl ks=>by rw[kEx];exact kdm_node _ _ _ _ _ _ _ _ (kdm_bs F rf ks)
theorem kdm_bs (F:Fs) (rf:Bool):∀ us:List U,∀ f ∈ kExs F rf us,KDm f
 | [],f,h=>by rw[kExs] at h;cases h
 | u::us,f,h=>by
  rw[kExs] at h;rcases List.mem_cons.1 h with rfl | h
  ·exact kdm_b F rf u
  exact kdm_bs F rf us f h
end
def Dom (m:Sc) (n:Nat):Prop:=∃ L:List Bs,L.length<=n/\∀ x,(m x).isSome->x ∈ L
theorem Dom.sub {m m':Sc} {n:Nat} (h:Dom m n) (hs:∀ x,(m' x).isSome->(m x).isSome):Dom m' n:=by
 obtain⟨L,h1,h2⟩:=h;exact⟨L,h1,fun x hx=>h2 x (hs x hx)⟩
theorem Dom.mono {m:Sc} {n n':Nat} (h:Dom m n) (hn:n<=n'):Dom m n':=by obtain⟨L,h1,h2⟩:=h;exact⟨L,Nat.le_trans h1 hn,h2⟩
theorem Dom.put {m:Sc} {n:Nat} (h:Dom m n) (x:Bs) (v:Nat):Dom (m.put x v) (n+1):=by
 obtain⟨L,h1,h2⟩:=h;refine⟨x::L,by simp;omega,fun y hy=>?_⟩;unfold Sc.put at hy
 split at hy
 ·rename_i e;subst e;simp
 exact List.mem_cons_of_mem _ (h2 y hy)
theorem Dom.nil:Dom (fun _=>none) 0:=⟨[],Nat.le_refl _,fun x h=>by cases h⟩
def U.ln:U->Nat | .node _ _ _ _ ln _ _=>ln
def U.cl:U->Nat | .node _ _ _ _ _ cl _=>cl
abbrev Gfn:=Bs->Option FnU
def sigF (f:FnU):List Nat × Nat:=(f.ps.map PmU.b,f.res.b)
def Gfn.fs (G:Gfn):Fs:=fun n=>(G n).map sigF
def Gfn.add (G:Gfn) (f:FnU):Gfn:=if (G f.nm).isSome then G else fun x=>if x=f.nm then some f else G x
def req (e:Option Flt) (ok:Bool) (ln cl c:Nat):Option Flt:=if ok then e else e.or (some (c,ln,cl))
def kPred (F:Fs) (u:U) (s:Ks):Ks:=(kEx F true u s).2.need u.ln u.cl ((kEx F true u s).1==1) 4
def kQPar (s:Ks) (p:PmU):Ks:=⟨if (s.sc p.nm).isNone then s.sc.put p.nm p.b else s.sc,req s.er (s.sc p.nm).isNone p.ln p.cl 3⟩
def sc0:Sc:=fun _=>none
def kQual (F:Fs) (q:QlU) (e:Option Flt):Ks:=kPred F q.body (q.ps.foldl kQPar ⟨sc0,e⟩)
def kKnown (F:Fs) (p:PmU) (s:Ks):Ks:=if p.kn then ⟨s.sc,(kPred F p.ref ⟨s.sc.put wV p.b,s.er⟩).er⟩ else s
def kFPar (F:Fs) (s:Ks) (p:PmU):Ks:=
 let s2:=kKnown F p ⟨s.sc,req s.er (s.sc p.nm).isNone p.ln p.cl 3⟩
 ⟨s2.sc.put p.nm p.b,s2.er⟩
def kFun (F:Fs) (f:FnU) (e:Option Flt):Ks:=
 let s:=kKnown F f.res (f.ps.foldl (kFPar F) ⟨sc0,e⟩)
 let r:=kEx F false f.body s
 r.2.need f.body.ln f.body.cl (r.1==f.res.b) 4
def kQStep (F:Fs) (x:List Bs × Option Flt) (q:QlU):List Bs × Option Flt:=(if x.1.contains q.nm then x.1 else q.nm::x.1,(kQual F q (req x.2 (!x.1.contains q.nm) q.ln q.cl 3)).er)
def kGStep (x:Gfn × Option Flt) (f:FnU):Gfn × Option Flt:=(x.1.add f,req x.2 (x.1 f.nm).isNone f.ln f.cl 3)
abbrev wMain:Bs:=[109,97,105,110]
def hasMain (p:PgU):Bool:=p.fs.any (·.nm==wMain)
def g0:Gfn:=fun _=>none
def kProg (p:PgU):Option Flt:=
 let q:=p.qs.foldl (kQStep g0.fs) ([],none)
 let g:=p.fs.foldl kGStep (g0,q.2)
 p.fs.foldl (fun e f=>(kFun g.1.fs f e).er) (req g.2 (hasMain p) 1 1 5)
abbrev f0:Flt:=(0,0,0)
def lkp (l:List PmU):Sc:=fun x=>l.foldl (fun r p=>if p.nm=x then some p.b else r) none
def twc (l:List PmU) (i:Nat):Flt:=match l[i]? with
 | none=>f0
 | some p=>if (l.take i).any (·.nm==p.nm) then (3,p.ln,p.cl) else f0
def tru (u:U) (l:Sc):Flt:=match aB g0.fs true u l with
 | .error e=>e
 | .ok b=>if b=1 then f0 else (4,u.ln,u.cl)
def bod (F:Fs) (f:FnU):Flt:=match aB F false f.body (lkp f.ps) with
 | .error e=>e
 | .ok b=>if b=f.res.b then f0 else (4,f.body.ln,f.body.cl)
def vOf (p:PmU):PmU:=⟨wV,p.b,false,u0,0,0⟩
def fQual (l:List QlU) (i:Nat):List Flt:=match l[i]? with
 | none=>[]
 | some q=>((l.take i).filter (·.nm==q.nm)).map (fun _=>(3,q.ln,q.cl))++(List.range q.ps.length).map (twc q.ps)++[tru q.body (lkp q.ps)]
def fDup (l:List FnU) (i:Nat):List Flt:=match l[i]? with
 | none=>[]
 | some f=>((l.take i).filter (·.nm==f.nm)).map (fun _=>(3,f.ln,f.cl))
def fPar (l:List PmU) (k:Nat):List Flt:=match l[k]? with
 | none=>[]
 | some q=>twc l k::(if q.kn then [tru q.ref (lkp (l.take k++[vOf q]))] else [])
def fFun (F:Fs) (f:FnU):List Flt:=(List.range f.ps.length).flatMap (fPar f.ps)++(if f.res.kn then [tru f.res.ref (lkp (f.ps++[vOf f.res]))] else [])++[bod F f]
def fndF (l:List FnU):Fs:=fun n=>(l.find? (·.nm==n)).map sigF
def flts (p:PgU):List Flt:=(List.range p.qs.length).flatMap (fQual p.qs)++(List.range p.fs.length).flatMap (fDup p.fs)++(if hasMain p then [] else [(5,1,1)])++p.fs.flatMap (fFun (fndF p.fs))
def fstF (l:List Flt):Option Flt:=l.find? (fun f=>decide (f.1≠0))
theorem fst_app (a b:List Flt):fstF (a++b)=(fstF a).or (fstF b):=by unfold fstF;rw[List.find?_append]
theorem fst_one {c ln cl:Nat} (h:c≠0):fstF [(c,ln,cl)]=some (c,ln,cl):=by unfold fstF;rw[List.find?_cons_of_pos (by simpa using h)]
theorem req_or (e:Option Flt) (ok:Bool) (ln cl:Nat) {c:Nat} (h:c≠0):req e ok ln cl c=e.or (fstF (if ok then [] else [(c,ln,cl)])):=by
 unfold req
 cases ok
 ·simp only[Bool.false_eq_true,if_false];rw[fst_one h]
 simp only[if_true];show e=e.or none;rw[Option.or_none]
theorem lkp_snoc (l:List PmU) (p:PmU):lkp (l++[p])=(lkp l).put p.nm p.b:=by
 funext x
 unfold lkp Sc.put;rw[List.foldl_append,List.foldl_cons,List.foldl_nil]
 by_cases h:p.nm=x
 ·rw[if_pos h,if_pos h.symm]
 rw[if_neg h,if_neg fun e=>h e.symm]
theorem lkp_has (l:List PmU) (x:Bs):(lkp l x).isNone = !(l.any (·.nm==x)):=by
 have key:∀ n (l:List PmU),l.length=n->(lkp l x).isNone = !(l.any (·.nm==x)):=by
  intro n
  induction n with
  | zero=>intro l h;rw[List.eq_nil_of_length_eq_zero h];rfl
  | succ n ih =>
   intro l h;have hne:l ≠ []:=fun e=>by rw[e] at h;cases h
   obtain⟨a,b,rfl⟩:∃ a b,l=a++[b]:=⟨l.dropLast,l.getLast hne,(List.dropLast_concat_getLast hne).symm⟩
   rw[lkp_snoc,List.any_append,Sc.put];have ih:=ih a (by simpa using h)
   by_cases hb:x=b.nm
   ·rw[if_pos hb];simp[hb]
   rw[if_neg hb,ih];simp;intro _ e;exact hb e.symm
 exact key _ l rfl
def ANz (g:Af):Prop:=∀ l e,g l=.error e->e.1≠0
theorem anz_af {gs:List Af} (h:∀ g ∈ gs,ANz g) (i:Nat):ANz (af gs i):=by
 unfold af
 cases hi:gs[i]? with
 | none=>intro l e h;cases h
 | some f=>exact h f (List.mem_of_getElem? hi)
theorem anz_run:∀ {gs:List Af},(∀ g ∈ gs,ANz g)->∀ l e,aRun gs l=.error e->e.1≠0
 | [],_,_,_,h=>by cases h
 | g::gs,hg,l,e,h=>by
  rw[aRun] at h
  split at h
  ·rename_i e' he;injection h with h;subst h;exact hg g (by simp) _ _ he
  split at h
  ·rename_i e' he;injection h with h;subst h;exact anz_run (fun x hx=>hg x (by simp[hx])) _ _ he
  cases h
theorem anz_node (F:Fs) (rf:Bool) (k:Nat) (nm ot:Bs) (ln cl:Nat) (ps:Bool) {gs:List Af} (hg:∀ g ∈ gs,ANz g):ANz (aNode F rf k nm ot ln cl ps gs):=by
 have q1:∀ {c:Nat} {e:Flt} {β:Type},(.error (c,ln,cl):Except Flt β)=.error e->c≠0->e.1≠0:=fun h hc=>by injection h with h;subst h;exact hc
 intro l e h;unfold aNode at h
 split at h
 ·unfold aLet at h
  split at h
  ·rename_i e' he;injection h with h;subst h;exact anz_af hg 0 _ _ he
  split at h;exact q1 h (by decide)
  split at h;exact q1 h (by decide)
  exact anz_af hg 1 _ _ h
 split at h
 ·unfold aMatch at h
  split at h
  ·rename_i e' he;injection h with h;subst h;exact anz_af hg 0 _ _ he
  split at h;exact q1 h (by decide)
  split at h;exact q1 h (by decide)
  split at h;exact q1 h (by decide)
  split at h
  ·rename_i e' he;injection h with h;subst h;exact anz_af hg 1 _ _ he
  split at h
  ·rename_i e' he;injection h with h;subst h;exact anz_af hg 2 _ _ he
  split at h;exact q1 h (by decide)
  cases h
 split at h
 ·unfold aAssert at h
  split at h
  ·rename_i e' he;injection h with h;subst h;exact anz_af hg 0 _ _ he
  split at h;exact q1 h (by decide)
  split at h;exact q1 h (by decide)
  exact anz_af hg 1 _ _ h
 split at h
 ·rename_i e' he;injection h with h;subst h;exact anz_run hg _ _ he
 unfold aRest at h
 split at h
 ·unfold aVar at h;split at h;exact q1 h (by decide);cases h
 split at h
 ·unfold aCall at h
  split at h;exact q1 h (by decide)
  split at h;exact q1 h (by decide)
  split at h;cases h
  exact q1 h (by decide)
 split at h
 ·unfold aIf at h
  split at h;exact q1 h (by decide)
  split at h;exact q1 h (by decide)
  cases h
 split at h
 ·unfold aEq at h
  split at h;exact q1 h (by decide)
  cases h
 unfold aOp at h
 split at h;exact q1 h (by decide)
 split at h;exact q1 h (by decide)
 split at h;exact q1 h (by decide)
 cases h
mutual
theorem anz_b (F:Fs) (rf:Bool):∀ u:U,ANz (aB F rf u)
 | .node k nm ot z ln cl ks=>by rw[aB];exact anz_node _ _ _ _ _ _ _ _ (anz_bs F rf ks)
theorem anz_bs (F:Fs) (rf:Bool):∀ us:List U,∀ g ∈ aBs F rf us,ANz g
 | [],f,h=>by rw[aBs] at h;cases h
 | u::us,f,h=>by
  rw[aBs] at h;rcases List.mem_cons.1 h with rfl | h
  ·exact anz_b F rf u
  exact anz_bs F rf us f h
end
theorem need_or (s:Ks) (ln cl:Nat) (ok:Bool) (c:Nat):(s.need ln cl ok c).er=req s.er ok ln cl c:=by unfold Ks.need req;split<;>rfl
theorem pred_t (F:Fs) (u:U) (s:Ks) (l:Sc) (h:s.er=none->s.sc=l):(kPred F u s).er=s.er.or (fstF [tru u l]):=by
 obtain⟨sc,er⟩:=s;unfold kPred
 cases er with
 | some e=>rw[need_er (kst_b F true u _ e rfl)];rfl
 | none =>
  obtain rfl:=h rfl;have ha:=ka_b F g0.fs true (fun h=>by cases h) u sc;rw[need_or];unfold tru
  cases hg:aB g0.fs true u sc with
  | error e =>
   rw[hg] at ha;simp only at ha ⊢;unfold req;rw[ha,Option.none_or];have hz:=anz_b g0.fs true u _ _ hg;obtain⟨c,ln,cl⟩:=e;rw[fst_one hz]
   split<;>rfl
  | ok b =>
   rw[hg] at ha;simp only at ha ⊢;rw[ha];simp only
   by_cases hb:b=1
   ·subst hb;rfl
   rw[if_neg hb,beq_eq_false_iff_ne.2 hb,fst_one (by decide)];rfl
theorem body_t (F:Fs) (f:FnU) (s:Ks) (h:s.er=none->s.sc=lkp f.ps):((kEx F false f.body s).2.need f.body.ln f.body.cl ((kEx F false f.body s).1==f.res.b) 4).er=s.er.or (fstF [bod F f]):=by
 obtain⟨sc,er⟩:=s
 cases er with
 | some e=>rw[need_er (kst_b F false f.body _ e rfl)];rfl
 | none =>
  obtain rfl:=h rfl;have ha:=ka_b F F false (fun _=>rfl) f.body (lkp f.ps);rw[need_or];unfold bod
  cases hg:aB F false f.body (lkp f.ps) with
  | error e =>
   rw[hg] at ha;simp only at ha ⊢;unfold req;rw[ha,Option.none_or];have hz:=anz_b F false f.body _ _ hg;obtain⟨c,ln,cl⟩:=e;rw[fst_one hz]
   split<;>rfl
  | ok b =>
   rw[hg] at ha;simp only at ha ⊢;rw[ha];simp only
   by_cases hb:b=f.res.b
   ·rw[if_pos hb,hb,beq_self_eq_true];rfl
   rw[if_neg hb,beq_eq_false_iff_ne.2 hb,fst_one (by decide)];rfl
theorem twc_snoc (a:List PmU) (p:PmU) (b:List PmU):twc (a++p::b) a.length=if a.any (·.nm==p.nm) then (3,p.ln,p.cl) else f0:=by
 unfold twc;rw[List.getElem?_append_right (Nat.le_refl _),Nat.sub_self];simp only[gsz];rw[List.take_left']
 rfl
theorem req_twc (e:Option Flt) (a b:List PmU) (p:PmU):req e (lkp a p.nm).isNone p.ln p.cl 3=e.or (fstF [twc (a++p::b) a.length]):=by
 rw[twc_snoc,lkp_has,req_or _ _ _ _ (by decide)]
 cases a.any (·.nm==p.nm)<;>rfl
theorem req_some {e:Flt} (ok:Bool) (ln cl c:Nat):req (some e) ok ln cl c=some e:=by unfold req;split<;>rfl
theorem fst_cons (f:Flt) (l:List Flt):fstF (f::l)=(fstF [f]).or (fstF l):=fst_app [f] l
theorem qpar_t (e:Option Flt):∀ (b a:List PmU) (s:Ks),s.er=e.or (fstF ((List.range a.length).map (twc (a++b))))->(s.er=none->s.sc=lkp a) ->
  (b.foldl kQPar s).er=e.or (fstF ((List.range (a++b).length).map (twc (a++b))))/\((b.foldl kQPar s).er=none->(b.foldl kQPar s).sc=lkp (a++b))
 | [],a,s,h1,h2=>by simp only[List.append_nil] at h1 ⊢;exact⟨h1,h2⟩
 | p::b,a,s,h1,h2=>by
  rw[List.foldl_cons];have h:=qpar_t e b (a++[p]) (kQPar s p) ?_ ?_
  ·simpa using h
  ·rw[List.append_assoc,List.singleton_append,lsa,List.length_singleton,List.range_succ,List.map_append,List.map_singleton,fst_app,<-Option.or_assoc,<-h1];unfold kQPar;simp only
   cases hs:s.er with
   | some x=>rw[req_some];rfl
   | none=>rw[h2 hs,req_twc _ a b p]
  unfold kQPar;simp only;intro h
  cases hs:s.er with
  | some x=>rw[hs,req_some] at h;cases h
  | none =>
   rw[hs] at h
   have hn:(s.sc p.nm).isNone=true:=by
    cases hx:(s.sc p.nm).isNone with
    | true=>rfl
    | false=>rw[hx] at h;cases h
   rw[if_pos hn,lkp_snoc,h2 hs]
theorem qual_t (F:Fs) (q:QlU) (e:Option Flt):(kQual F q e).er=e.or (fstF ((List.range q.ps.length).map (twc q.ps)++[tru q.body (lkp q.ps)])):=by
 unfold kQual;obtain⟨h1,h2⟩:=qpar_t e q.ps [] ⟨sc0,e⟩ (by show e=e.or none;rw[Option.or_none]) (fun _=>rfl);rw[List.nil_append] at h1 h2;rw[pred_t F q.body _ _ h2,h1,fst_app,Option.or_assoc]
theorem known_t (F:Fs) (p:PmU) (s:Ks) (l:List PmU) (h:s.er=none->s.sc=lkp l) :
  (kKnown F p s).er=s.er.or (fstF (if p.kn then [tru p.ref (lkp (l++[vOf p]))] else []))/\(kKnown F p s).sc=s.sc:=by
 unfold kKnown
 split
 ·refine⟨?_,rfl⟩;simp only;rw[pred_t F p.ref _ (lkp (l++[vOf p])) (fun he=>by rw[lkp_snoc];show Sc.put s.sc wV p.b=_;rw[h he];rfl)]
 exact⟨by show _=s.er.or none;rw[Option.or_none],rfl⟩
theorem fpar_t (F:Fs) (e:Option Flt):∀ (b a:List PmU) (s:Ks),s.er=e.or (fstF ((List.range a.length).flatMap (fPar (a++b))))->(s.er=none->s.sc=lkp a) ->
  (b.foldl (kFPar F) s).er=e.or (fstF ((List.range (a++b).length).flatMap (fPar (a++b))))/\((b.foldl (kFPar F) s).er=none->(b.foldl (kFPar F) s).sc=lkp (a++b))
 | [],a,s,h1,h2=>by simp only[List.append_nil] at h1 ⊢;exact⟨h1,h2⟩
 | p::b,a,s,h1,h2=>by
  rw[List.foldl_cons]
  have hk:=known_t F p ⟨s.sc,req s.er (s.sc p.nm).isNone p.ln p.cl 3⟩ a (fun h=>by
   cases hs:s.er with
   | some x=>simp only[hs,req_some] at h;cases h
   | none=>exact h2 hs)
  have he:(kFPar F s p).er=s.er.or (fstF (fPar (a++p::b) a.length)):=by
   unfold kFPar;simp only;rw[hk.1]
   have hf:fPar (a++p::b) a.length=twc (a++p::b) a.length::(if p.kn then [tru p.ref (lkp (a++[vOf p]))] else []):=by
    unfold fPar;rw[List.getElem?_append_right (Nat.le_refl _),Nat.sub_self];simp only[gsz];rw[List.take_left']
    rfl
   rw[hf,fst_cons,<-Option.or_assoc]
   congr 1
   cases hs:s.er with
   | some x=>rw[req_some];rfl
   | none=>rw[h2 hs,req_twc _ a b p]
  have h:=fpar_t F e b (a++[p]) (kFPar F s p) ?_ ?_
  ·simpa using h
  ·rw[List.append_assoc,List.singleton_append,lsa,List.length_singleton,List.range_succ,List.flatMap_append,fst_app,<-Option.or_assoc,<-h1,he]
   simp
  intro h;rw[he] at h
  cases hs:s.er with
  | some x=>rw[hs] at h;cases h
  | none=>rw[lkp_snoc,<-h2 hs];show Sc.put (kKnown F p ⟨s.sc,req s.er (s.sc p.nm).isNone p.ln p.cl 3⟩).sc p.nm p.b=_;rw[hk.2]
theorem fun_t (F:Fs) (f:FnU) (e:Option Flt):(kFun F f e).er=e.or (fstF (fFun F f)):=by
 unfold kFun;obtain⟨h1,h2⟩:=fpar_t F e f.ps [] ⟨sc0,e⟩ (by show e=e.or none;rw[Option.or_none]) (fun _=>rfl);rw[List.nil_append] at h1 h2;obtain⟨k1,k2⟩:=known_t F f.res _ f.ps h2;simp only;rw[body_t F f _ (fun h=>by rw[k2];exact h2 (by rw[k1] at h;cases hx:(f.ps.foldl (kFPar F) ⟨sc0,e⟩).er with | none=>rfl | some x=>rw[hx] at h;cases h))];rw[k1,h1];unfold fFun;rw[fst_app,fst_app,Option.or_assoc,Option.or_assoc,Option.or_assoc]
theorem fst_same {α:Type} (l:List α) {c ln cl:Nat} (h:c≠0):fstF (l.map (fun _=>(c,ln,cl)))=fstF (if l.isEmpty then [] else [(c,ln,cl)]):=by
 cases l with
 | nil=>rfl
 | cons a l=>rw[List.map_cons,fst_cons,fst_one h];simp only[List.isEmpty_cons,Bool.false_eq_true,if_false];rw[fst_one h];rfl
theorem filter_any {α:Type} (l:List α) (f:α->Bool):(l.filter f).isEmpty = !(l.any f):=by
 induction l with
 | nil=>rfl
 | cons a l ih =>
  rw[List.filter_cons,List.any_cons]
  cases f a
  ·simpa using ih
  rfl
theorem quals_t (F:Fs):∀ (b a:List QlU) (x:List Bs × Option Flt),(∀ n,x.1.contains n=a.any (·.nm==n))->x.2=fstF ((List.range a.length).flatMap (fQual (a++b))) ->
  (b.foldl (kQStep F) x).2=fstF ((List.range (a++b).length).flatMap (fQual (a++b)))
 | [],a,x,h1,h2=>by simp only[List.append_nil] at h2 ⊢;exact h2
 | q::b,a,x,h1,h2=>by
  rw[List.foldl_cons];have h:=quals_t F b (a++[q]) (kQStep F x q) ?_ ?_
  ·simpa using h
  ·intro n;unfold kQStep;simp only;rw[List.any_append,<-h1 n]
   by_cases hc:x.1.contains q.nm
   ·rw[if_pos hc]
    by_cases hn:q.nm=n
    ·subst hn;rw[hc];rfl
    simp[hn]
   rw[if_neg hc,List.contains_cons]
   by_cases hn:q.nm=n
   ·subst hn;simp
   rw[beq_eq_false_iff_ne.2 (show n≠q.nm from fun e=>hn e.symm),List.any_cons,List.any_nil,beq_eq_false_iff_ne.2 hn,Bool.false_or,Bool.or_false,Bool.or_false]
  have hf:fQual (a++q::b) a.length=(a.filter (·.nm==q.nm)).map (fun _=>(3,q.ln,q.cl))++((List.range q.ps.length).map (twc q.ps)++[tru q.body (lkp q.ps)]):=by
   unfold fQual;rw[List.getElem?_append_right (Nat.le_refl _),Nat.sub_self];simp only[gsz];rw[List.take_left' rfl,List.append_assoc]
  rw[List.append_assoc,List.singleton_append,lsa,List.length_singleton,List.range_succ,List.flatMap_append,fst_app,<-h2];unfold kQStep;simp only[List.flatMap_cons,List.flatMap_nil,List.append_nil];rw[qual_t,req_or _ _ _ _ (by decide),hf,fst_app (List.map (fun _=>(3,q.ln,q.cl)) _),fst_same _ (by decide),filter_any,h1,Option.or_assoc]
theorem gs_step (G:Gfn) (f:FnU) (a:List FnU) (h:∀ n,G n=a.find? (·.nm==n)):∀ n,(G.add f) n=(a++[f]).find? (·.nm==n):=by
 intro n;rw[List.find?_append,<-h n];unfold Gfn.add
 by_cases hs:(G f.nm).isSome
 ·rw[if_pos hs]
  by_cases hn:f.nm=n
  ·subst hn;obtain⟨y,hy⟩:=Option.isSome_iff_exists.1 hs;rw[hy];rfl
  rw[List.find?_cons_of_neg (by simpa using hn),List.find?_nil,Option.or_none]
 rw[if_neg hs]
 by_cases hn:n=f.nm
 ·subst hn;have hg:G f.nm=none:=by cases hx:G f.nm with | none=>rfl | some y=>rw[hx] at hs;exact absurd rfl hs
  rw[if_pos rfl,hg,List.find?_cons_of_pos (by simp)];rfl
 rw[if_neg hn,List.find?_cons_of_neg (by simpa using fun e=>hn e.symm),List.find?_nil,Option.or_none]
theorem funs_t (e:Option Flt):∀ (b a:List FnU) (x:Gfn × Option Flt),(∀ n,x.1 n=a.find? (·.nm==n))->x.2=e.or (fstF ((List.range a.length).flatMap (fDup (a++b)))) ->
  (∀ n,(b.foldl kGStep x).1 n=(a++b).find? (·.nm==n))/\(b.foldl kGStep x).2=e.or (fstF ((List.range (a++b).length).flatMap (fDup (a++b))))
 | [],a,x,h1,h2=>by simp only[List.append_nil] at h2 ⊢;exact⟨h1,h2⟩
 | f::b,a,x,h1,h2=>by
  rw[List.foldl_cons];have h:=funs_t e b (a++[f]) (kGStep x f) (gs_step x.1 f a h1) ?_
  ·simpa using h
  have hf:fDup (a++f::b) a.length=(a.filter (·.nm==f.nm)).map (fun _=>(3,f.ln,f.cl)):=by
   unfold fDup;rw[List.getElem?_append_right (Nat.le_refl _),Nat.sub_self];simp only[gsz];rw[List.take_left' rfl]
  rw[List.append_assoc,List.singleton_append,lsa,List.length_singleton,List.range_succ,List.flatMap_append,fst_app,<-Option.or_assoc,<-h2];unfold kGStep;simp only[List.flatMap_cons,List.flatMap_nil,List.append_nil];rw[req_or _ _ _ _ (by decide),hf,fst_same _ (by decide),filter_any,h1]
  congr 2
  cases hx:a.any (·.nm==f.nm) with
  | true =>
   obtain⟨y,hy,hn⟩:=List.any_eq_true.1 hx
   cases hz:a.find? (·.nm==f.nm) with
   | none=>exact absurd hn (by have:=List.find?_eq_none.1 hz y hy;simpa using this)
   | some z=>rfl
  | false =>
   have:a.find? (·.nm==f.nm)=none:=List.find?_eq_none.2 fun y hy h=>by
    have:=List.any_eq_false.1 hx y hy;exact this h
   rw[this];rfl
theorem funs2_t (F:Fs):∀ (b:List FnU) (e:Option Flt),b.foldl (fun e f=>(kFun F f e).er) e=e.or (fstF (b.flatMap (fFun F)))
 | [],e=>by show e=e.or none;rw[Option.or_none]
 | f::b,e=>by rw[List.foldl_cons,funs2_t F b,fun_t,List.flatMap_cons,fst_app,Option.or_assoc]
theorem prog_t (p:PgU):kProg p=fstF (flts p):=by
 unfold kProg flts;have h1:=quals_t g0.fs p.qs [] ([],none) (fun n=>rfl) rfl;rw[List.nil_append] at h1;obtain⟨h2,h3⟩:=funs_t (p.qs.foldl (kQStep g0.fs) ([],none)).2 p.fs [] (g0,(p.qs.foldl (kQStep g0.fs) ([],none)).2) (fun n=>rfl) (by show _=Option.or _ none;rw[Option.or_none]);rw[List.nil_append] at h2 h3
 have hF:Gfn.fs (p.fs.foldl kGStep (g0,(p.qs.foldl (kQStep g0.fs) ([],none)).2)).1=fndF p.fs:=by
  funext n;show Option.map sigF _=_;rw[h2 n];rfl
 simp only;rw[hF,funs2_t,req_or _ _ _ _ (by decide),h3,h1,fst_app,fst_app,fst_app]
end Go.Proofs.YtpclhpfcbjgokaaGreatDoor
namespace Go.Proofs.YtpclhpfcbjgokaaGreatDoor
open Go.RowKit Go.Maps Go.MapKept Go.ChangeMaps Go.WideShapes Go.WideMaps
open Go.WideElems (Fit rd rg pl rd_val rd_key rg_of elemAt)
set_option maxRecDepth 100000
set_option linter.unusedVariables false
def rdV (v:Value):Option (DataW Value × List MemPlace):=some (.held v,[])
def bsv (s:Bs):Value:=.string ⟨s.toArray⟩
def MapIs (P:Program) (k:TypeId) (w:World) (b:Nat) (m:Bs->Option Value):Prop:=
 ∃ n D,w.ownsMap P k rdV b n D/\∀ s:Bs,s.length<=maxLen->(m s=none->has D (.string s)=false)/\∀ v,m s=some v->has D (.string s)=true/\∀ z,D.atKey (.string s) z=.held v
def DomV (m:Bs->Option Value) (n:Nat):Prop:=∃ L:List Bs,L.length<=n/\∀ x,(m x).isSome->x ∈ L
section
variable {P:Program} {k:TypeId} {w:World} {b:Nat} {m:Bs->Option Value}
theorem key_bs (hk:P.underlying k=some .string) {s:Bs} (hs:s.length<=maxLen):keyOf P k (bsv s)=some (.string s):=by
 unfold bsv;rw[keyOf_string_mk hk (show (⟨s.toArray⟩:ByteArray).size<=maxLen from hs)]
theorem isKey_bs (s:Bs):WideAt.IsKeyLit (.string s):=trivial
theorem str_ne {s t:Bs} (h:t≠s):(Lit.string t)≠(Lit.string s):=fun e=>h (by injection e)
theorem MapIs.keep {w':World} (h:MapIs P k w b m) (hb:w'.heap[b]?=w.heap[b]?):MapIs P k w' b m:=by
 obtain⟨n,D,⟨es,clock,h1,h2⟩,h3⟩:=h;exact⟨n,D,⟨es,clock,hb.trans h1,h2⟩,h3⟩
theorem MapIs.lt (h:MapIs P k w b m):b<w.heap.size:=by obtain⟨n,D,h1,-⟩:=h;exact h1.lt
theorem MapIs.made (w:World) (P:Program) (k:TypeId):MapIs P k (w.alloc (.map #[] 0)) w.heap.size (fun _=>none):=
 ⟨0,_,World.ownsMap_made w P k rdV,fun s hs=>⟨fun _=>rfl,fun v h=>by cases h⟩⟩
theorem MapIs.look_ok {t e:TypeId} (h:MapIs P k w b m) (hk:P.underlying k=some .string) (ht:P.underlying t=some (.map k e)) {z:Value} (hz:(zeroValue e).run P w=.ok z w) {s:Bs} (hs:s.length<=maxLen) :
  (Instr.lookup t (.map (some b)) (bsv s) true).run P w=.ok (.tuple #[(m s).getD z,.bool (m s).isSome]) w:=by
 obtain⟨n,D,h1,h3⟩:=h;obtain⟨v,ps,hr,hv⟩:=h1.look_ok (string_keyed hk) ht hz (zd:=.held z) (zp:=[]) rfl (key_bs hk hs);rw[hr];obtain⟨q1,q2⟩:=h3 s hs;unfold rdV at hv;simp only[Option.some.injEq,Prod.mk.injEq] at hv
 cases hm:m s with
 | none =>
  rw[q1 hm];have e1:=atKey_of_not_has (q1 hm) (.held z);rw[e1] at hv;obtain⟨hv,-⟩:=hv;injection hv with hv;rw[hv];rfl
 | some u =>
  obtain⟨a1,a2⟩:=q2 u hm;rw[a1];rw[a2] at hv;obtain⟨hv,-⟩:=hv;injection hv with hv;rw[hv];rfl
theorem nodup_len:∀ {A B:List Bs},A.Pairwise (· ≠ ·)->(∀ x ∈ A,x ∈ B)->A.length<=B.length
 | [],B,_,_=>Nat.zero_le _
 | a::A,B,hp,hs=>by
  obtain⟨h1,h2⟩:=List.pairwise_cons.1 hp;have hB:a ∈ B:=hs a (by simp);have:=nodup_len (A:=A) (B:=B.erase a) h2 fun x hx=>(List.mem_erase_of_ne (fun e=>h1 x hx e.symm)).2 (hs x (by simp[hx]))
  rw[List.length_erase_of_mem hB] at this;have hpos:0<B.length:=List.length_pos_of_mem hB;simp only[lsc];omega
theorem map_size {es:Array MapEntry} {clock n:Nat} {D:DataW Value} (hk:P.underlying k=some .string) (F:Fit P k rdV es clock) (hD:D=.map ((es.toList.map (rg P k rdV)).foldr DataW.insert [])) (hm:∀ s:Bs,s.length<=maxLen->(m s=none->has D (.string s)=false))
  (hd:DomV m n):es.size<=n:=by
 obtain⟨L,hL,hx⟩:=hd
 have hkey:∀ x ∈ es.toList,∃ s:Bs,s.length<=maxLen/\x.key=bsv s/\(rg P k rdV x).1=.string s:=by
  intro x hx;obtain⟨y,hy⟩:=F.reads x hx;have h1:=rd_key hy;rw[keyOf_string hk] at h1;rw[rg_of hy]
  cases hv:x.key<;>simp[mapKey,hk,hv] at h1
  rename_i s
  refine⟨s.data.toList,h1.1,?_,h1.2.symm⟩;unfold bsv;rfl
 have hin:∀ x ∈ es.toList,∀ s,(rg P k rdV x).1=.string s->s.length<=maxLen->s ∈ L:=by
  intro x hxe s hs hl;refine hx s ?_
  cases hms:m s with
  | some v=>rfl
  | none =>
   have h0:=hm s hl hms;rw[hD,has_eq] at h0;have hmem:rg P k rdV x ∈ (es.toList.map (rg P k rdV)).foldr DataW.insert []:=(WideShapes.sorted_perm _).mem_iff.2 (List.mem_map_of_mem hxe);have:=List.any_eq_false.1 h0 _ hmem;rw[hs,WideAt.sameKey_self (isKey_bs s)] at this;exact absurd rfl this
 have hp:=Maps.fit_apart (string_keyed hk) F
 let g:MapEntry->Bs:=fun x=>match (rg P k rdV x).1 with | .string s=>s | _=>[]
 have h1:(es.toList.map g).Pairwise (· ≠ ·):=by
  rw[List.pairwise_map] at hp ⊢;refine List.Pairwise.imp_of_mem ?_ hp;intro a c ha hc hne e;obtain⟨s,-,-,hs⟩:=hkey a ha;obtain⟨t,-,-,ht⟩:=hkey c hc;simp only[g,hs,ht] at e;exact hne (by rw[hs,ht,e])
 have h2:∀ x ∈ es.toList.map g,x ∈ L:=by
  intro x hxm;obtain⟨y,hy,rfl⟩:=List.mem_map.1 hxm;obtain⟨s,hl,-,hs⟩:=hkey y hy;simp only[g,hs];exact hin y hy s hs hl
 have:=nodup_len h1 h2;simp only[List.length_map,Array.length_toList] at this
 omega
theorem MapIs.update {t e:TypeId} (h:MapIs P k w b m) (hk:P.underlying k=some .string) (ht:P.underlying t=some (.map k e)) {n:Nat} (hd:DomV m n) (hn:n<maxLen) {s:Bs} (hs:s.length<=maxLen) (v:Value) :
  ∃ w',(Instr.mapUpdate t (.map (some b)) (bsv s) v).run P w=.ok () w'/\MapIs P k w' b (fun x=>if x=s then some v else m x)/\w.grownBy w' (some b):=by
 obtain⟨n',D,⟨es,clock,hb,F,hsz,hD⟩,h3⟩:=h;have hle:=map_size hk F hD (fun s hs=>(h3 s hs).1) hd;have ho:w.ownsMap P k rdV b n D:=⟨es,clock,hb,F,hle,hD⟩
 obtain⟨w',h1,h2,h4⟩:=ho.update (string_keyed hk) ht hn (key_bs hk hs) (d:=.held v) (ps:=[]) rfl;refine⟨w',h1,⟨_,_,h2,fun x hx=>?_⟩,h4⟩
 dsimp only
 by_cases hxs:x=s
 ·subst hxs;rw[if_pos rfl];refine⟨fun h=>(by cases h),fun u hu=>?_⟩;injection hu with hu;subst hu;exact⟨has_put_same ho.isMap (isKey_bs _) _,fun z=>atKey_put_same ho.isMap (isKey_bs _) _ z⟩
 rw[if_neg hxs];obtain⟨q1,q2⟩:=h3 x hx;refine⟨fun h=>by rw[has_put_other (str_ne hxs)];exact q1 h,fun u hu=>?_⟩;rw[has_put_other (str_ne hxs)];exact⟨(q2 u hu).1,fun z=>by rw[atKey_put_other (str_ne hxs)];exact (q2 u hu).2 z⟩
theorem MapIs.drop {t e:TypeId} (h:MapIs P k w b m) (hk:P.underlying k=some .string) (ht:P.underlying t=some (.map k e)) {s:Bs} (hs:s.length<=maxLen) (ty:TypeId) :
  ∃ w',(Builtin.delete_ #[t,k] ty #[.map (some b),bsv s]).run P w=.ok (.tuple #[]) w'/\MapIs P k w' b (fun x=>if x=s then none else m x)/\w.grownBy w' (some b):=by
 obtain⟨n',D,ho,h3⟩:=h;obtain⟨w',h1,h2,h4⟩:=ho.drop (string_keyed hk) ht (key_bs hk hs) ty;refine⟨w',h1,⟨_,_,h2,fun x hx=>?_⟩,h4.grown⟩
 dsimp only
 by_cases hxs:x=s
 ·subst hxs;rw[if_pos rfl];exact⟨fun _=>has_del_same,fun u hu=>by cases hu⟩
 rw[if_neg hxs];obtain⟨q1,q2⟩:=h3 x hx;refine⟨fun h=>by rw[has_del_other (str_ne hxs)];exact q1 h,fun u hu=>?_⟩;rw[has_del_other (str_ne hxs)];exact⟨(q2 u hu).1,fun z=>by rw[atKey_del_other (str_ne hxs)];exact (q2 u hu).2 z⟩
theorem MapIs.clear {t e:TypeId} (h:MapIs P k w b m) (ht:P.underlying t=some (.map k e)) (ty:TypeId) :
  ∃ w',(Builtin.clear_ #[t] ty #[.map (some b)]).run P w=.ok (.tuple #[]) w'/\MapIs P k w' b (fun _=>none)/\w.grownBy w' (some b):=by
 obtain⟨n',D,⟨es,clock,hb,F,hsz,hD⟩,h3⟩:=h
 refine⟨setBlock w b (.map #[] clock),?_,⟨0,.map [],⟨#[],clock,heap_setBlock_same hb _,⟨by simp,stamped_empty clock,by simp⟩,Nat.le_refl _,rfl⟩,fun s hs=>⟨fun _=>rfl,fun v h=>by cases h⟩⟩,
  ⟨rfl,rfl,rfl,by simp[setBlock],fun i _ hi=>heap_setBlock_other hb _ (fun e=>hi (by rw[e]))⟩⟩
 simp[Builtin.clear_,run_underlying ht,MapKept.run_getObj_map hb,run_setObj_map (.map #[] clock) hb,Result.andThen,setBlock]
theorem MapIs.copy (h:MapIs P k w b m):∃ es clock,w.heap[b]?=some (.map es clock)/\∀ w',w'.heap[w.heap.size]?=some (.map es clock)->MapIs P k w' w.heap.size m:=by
 obtain⟨n',D,⟨es,clock,hb,F,hsz,hD⟩,h3⟩:=h;exact⟨es,clock,hb,fun w' hw=>⟨n',D,⟨es,clock,hw,F,hsz,hD⟩,h3⟩⟩
end
section
variable {P:Program} (w:World) {ops:Array Oper} {rest:List Oper} {o:Oper} {a:Act} {Q:Exit->Act->World->Prop}
theorem wp_look_ok (hg:o.guard=none) (m x:Operand) (t:TypeId) (hop:o.op=Op.lookup t m x true) (k e:TypeId) (hk:P.underlying k=some .string) (ht:P.underlying t=some (.map k e)) {z:Value} (hz:(zeroValue e).run P w=.ok z w) (b:Nat) (M:Bs->Option Value)
  (hm:a.eval m=.map (some b)) (h:MapIs P k w b M) (s:Bs) (hx:a.eval x=.string ⟨s.toArray⟩) (hs:s.length<=maxLen)
  (hK:wpList P ops Q rest (a.put o.dst (.tuple #[(M s).getD z,.bool (M s).isSome])) w):wpList P ops Q (o::rest) a w:=by
 refine wpList_plain hg fun K' hK'=>?_
 have hrun:=h.look_ok hk ht hz hs;unfold bsv at hrun;unfold Oper.wp
 simp[execOp,hop,hm,hx,hrun,Result.andThen]
 exact hK' _ _ hK
theorem wp_update (hg:o.guard=none) (m x v:Operand) (t:TypeId) (hop:o.op=Op.mapUpdate t m x v) (k e:TypeId) (hk:P.underlying k=some .string) (ht:P.underlying t=some (.map k e)) (b:Nat) (M:Bs->Option Value)
  (hm:a.eval m=.map (some b)) (h:MapIs P k w b M) {n:Nat} (hd:DomV M n) (hn:n<maxLen) (s:Bs) (hx:a.eval x=.string ⟨s.toArray⟩) (hs:s.length<=maxLen) (u:Value) (hv:a.eval v=u)
  (hK:∀ w',MapIs P k w' b (fun x=>if x=s then some u else M x)->w.grownBy w' (some b)->wpList P ops Q rest (a.put o.dst undef) w'):wpList P ops Q (o::rest) a w:=by
 refine wpList_plain hg fun K' hK'=>?_
 obtain⟨w',hrun,r1,r2⟩:=h.update hk ht hd hn hs u;unfold bsv at hrun;unfold Oper.wp
 simp[execOp,hop,hm,hx,hv,hrun,Result.andThen]
 exact hK' _ _ (hK w' r1 r2)
theorem wp_drop (hg:o.guard=none) (m x:Operand) (t k:TypeId) (hop:o.op=Op.call { callee:=Callee.builtin Builtin.delete,args:=#[m,x],argTypes:=#[t,k] }) (e:TypeId) (hk:P.underlying k=some .string) (ht:P.underlying t=some (.map k e)) (b:Nat) (M:Bs->Option Value)
  (hm:a.eval m=.map (some b)) (h:MapIs P k w b M) (s:Bs) (hx:a.eval x=.string ⟨s.toArray⟩) (hs:s.length<=maxLen)
  (hK:∀ w',MapIs P k w' b (fun x=>if x=s then none else M x)->w.grownBy w' (some b)->wpList P ops Q rest (a.put o.dst (.tuple #[])) w'):wpList P ops Q (o::rest) a w:=by
 refine wpList_plain hg fun K' hK'=>?_
 obtain⟨w',hrun,r1,r2⟩:=h.drop hk ht hs o.type;unfold bsv at hrun;unfold Oper.wp
 simp[execOp,hop,resolve,invoke,builtin,hm,hx,hrun,Result.andThen]
 exact hK' _ _ (hK w' r1 r2)
theorem wp_clear (hg:o.guard=none) (m:Operand) (t:TypeId) (hop:o.op=Op.call { callee:=Callee.builtin Builtin.clear,args:=#[m],argTypes:=#[t] }) (k e:TypeId) (ht:P.underlying t=some (.map k e)) (b:Nat) (M:Bs->Option Value)
  (hm:a.eval m=.map (some b)) (h:MapIs P k w b M)
  (hK:∀ w',MapIs P k w' b (fun _=>none)->w.grownBy w' (some b)->wpList P ops Q rest (a.put o.dst (.tuple #[])) w'):wpList P ops Q (o::rest) a w:=by
 refine wpList_plain hg fun K' hK'=>?_
 obtain⟨w',hrun,r1,r2⟩:=h.clear ht o.type;unfold Oper.wp
 simp[execOp,hop,resolve,invoke,builtin,hm,hrun,Result.andThen]
 exact hK' _ _ (hK w' r1 r2)
end
end Go.Proofs.YtpclhpfcbjgokaaGreatDoor
namespace Go.Proofs.YtpclhpfcbjgokaaGreatDoor
open Go.RowKit
set_option maxRecDepth 100000
def arW (k:Nat):Int:=if k=24 then -1 else (ar k:Int)
def ArT (w:World):Prop:=∀ i,i<29->w.cell? ⟨1,i,none⟩=some (.int .i64 (arW i))
theorem ArT.below {w w':World} (h:ArT w) (hb:Below w.heap.size w w'):ArT w':=fun i hi=>by rw[hb.cell (cell_lt (h i hi))];exact h i hi
theorem arityW_ok (k:Nat) (z:Int) (hk:k<29) (hz:arW k=z) (w:World) (ht:ArT w) :
  Calls Tryz.prog 72 #[.int .i64 (k:Nat)] w fun e w'=>e=.returned (.int .i64 z)/\w=w':=by
 have c:=ht k hk;rw[hz] at c;clear hz ht;go_enter Tryz.func72,Tryz.ntmps72
 go_wp2
 go_ret
 exact⟨rfl,rfl⟩
theorem isNatW (ao:Option Addr) (n c z:Nat) (w:World) (h:Sl w .u32 (.slice ao n c) (dig L32 z)) :
  Calls Tryz.prog 73 #[.agg #[.bool false,.slice ao n c]] w fun e w'=>e=.returned (.bool true)/\Below w.heap.size w w':=by
 obtain⟨ao',cap,e,h1,h2,h3,h4⟩:=h;injection e with e1 e2 e3;subst e1 e3 e2
 by_cases h0:(dig L32 z).length=0
 ·have hz:(((dig L32 z).length:Int)==0)=true:=by rw[h0];rfl
  have H0:=h_ h0;clear h0 h4;go_enter Tryz.func73,Tryz.ntmps73
  go_wp2
  go_ret
  exact⟨rfl,(Below.refl _ _).alloc (Nat.le_refl _) _⟩
 obtain⟨a,rfl,hc⟩:=h4 ((dig L32 z).length - 1) (by omega);have hl:=dig_last (B:=L32) (n:=z) (by decide) (by omega);have hd:=(Dig_dig (B:=L32) (by decide) z).getD (by decide) ((dig L32 z).length - 1);have hp:nth (dig L32 z) ((dig L32 z).length - 1)≠0:=by unfold nth;omega
 have hn:((nth (dig L32 z) ((dig L32 z).length - 1)) != 0)=true:=by simpa using hp
 have hca:(w.alloc (.cells #[.bool false,.slice (some a) (dig L32 z).length c] 45)).cell? (a.add ((dig L32 z).length - 1))=some (.int .u32 (nth (dig L32 z) ((dig L32 z).length - 1))):=by
  rw[World.cell?_alloc_lt _ _ _ (cell_lt hc)];exact hc
 have hz:(((dig L32 z).length:Int)==0)=false:=by rw[beq_eq_false_iff_ne];omega
 have hp1:1<=(dig L32 z).length:=by omega
 clear h4 hc hl hd hp h0;generalize nth (dig L32 z) ((dig L32 z).length - 1)=q at *;generalize (dig L32 z).length=n at *;go_enter Tryz.func73,Tryz.ntmps73
 go_wp2
 go_ret
 exact⟨rfl,(Below.refl _ _).alloc (Nat.le_refl _) _⟩
theorem arW_ne (n:Nat):(((n:Nat):Int) != -1)=true:=by simp
theorem right_p (d:Nat) (hd:d<=4000000000000000000) (x:X) (u:U) (w:World) (S:Nat->Prop) (ht:ArT w) (h:Um w S x u) (hB:Bnd u) (ho:ud u<=d) :
  Calls Tryz.prog 48 #[xv x] w fun e w'=>e=.returned (.bool true)/\Below w.heap.size w w':=by
 induction d generalizing x u w with
 | zero=>obtain⟨k,nm,ot,z,ln,cl,ks⟩:=u;rw[ud] at ho;omega
 | succ d ih =>
  obtain⟨k,nm,ot,z,ln,cl,ks⟩:=u;rw[Um] at h;rw[Bnd] at hB;obtain⟨⟨hk,ha⟩,-,-,hks⟩:=hB;obtain⟨⟨e1,e2,e3,e4,e5,e6⟩,⟨h2,h3⟩,⟨h4,h5,h6⟩,h7⟩:=h;obtain⟨xk,xnm,xot,xb,xao,xn,xc,xko,xkn,xkc,xln,xcl⟩:=x;simp only at e1 e2 e3 e4 e5 e6 h2 h3 h4 h5 h6 h7;have HK:=h_ (fun j (hj:j<ks.length)=>ums_get 0 j h7 hj);have HKS:=h_ (fun j (hj:j<ks.length)=>bnds_mem hks (List.getElem_mem hj));have HKD:=h_ (fun j (hj:j<ks.length)=>uds_mem (List.getElem_mem hj));clear h7 hks;subst e1 e2 e3 e4 e5 e6;subst h4;rw[ud] at ho;have hkl:ks.length<=9223372036854775807:=Nat.le_trans h5.1 h5.2;have HS:=h_ h2;have HT:=h_ ht;have IH:=h_ ih;have hdd:uds ks<=d:=by omega
  have AR:∃ r:Int,arW k=r/\((r = -1)\/r=(ks.length:Int)):=by
   refine⟨_,rfl,?_⟩;unfold arW
   split
   ·exact .inl rfl
   rcases ha with ha | ha
   ·exact absurd ha (by assumption)
   exact .inr (by rw[ha])
  obtain⟨r,hr,hr2⟩:=AR;have HR:=h_ hr;clear h2 h3 h5 h6 ih ha ht hr ho;simp only[xv]
  by_cases hk0:k=0
  ·subst hk0;have hr0:r=0:=by rw[<-HR.out];rfl
   have hl0:ks.length=0:=by
    rcases hr2 with e | e
    ·rw[hr0] at e;exact absurd e (by decide)
    rw[hr0] at e;omega
   have hks0:ks=[]:=List.eq_nil_of_length_eq_zero hl0;subst hr0;clear hr2 hl0;subst hks0;clear HK HKS HKD;simp only[lsn];go_enter Tryz.func48,Tryz.ntmps48
   go_wp2_with fail
   refine (arityW_ok 0 0 hk HR.out _ (HT.out.below ((Below.refl _ _).alloc (Nat.le_refl _) _))).mono ?_;rintro e w1 ⟨rfl,rfl⟩;go_wp2_with fail
   refine (isNatW xao xn xc z _ (HS.out.below ((Below.refl _ _).alloc (Nat.le_refl _) _))).mono ?_;rintro e w1 ⟨rfl,hb1⟩
   have hcell:w1.cell? ⟨w.heap.size,5,none⟩=some (.slice xko 0 xkc):=by
    rw[hb1.cell (by simp)];exact cell_of_row _ _ 5 _ _ (0,0) (made_at w _ _ rfl)
   have HB0:=h_ (((Below.refl w.heap.size w).alloc (Nat.le_refl _) _).trans (hb1.mono (by simp)));clear hb1;go_wp2_with fail
   go_loopw [30] (fun i wr=>i=.int .i64 0/\Below w.heap.size w wr) (fun i _=>0)
   case atStart=>exact⟨rfl,HB0.out⟩
   case round =>
    obtain⟨rfl,hb⟩:=hrel;have HB:=h_ hb;clear hb;go_wp2_with fail
    go_ret
    exact⟨rfl,HB.out⟩
  have hkz:(((k:Nat):Int)==0)=false:=by rw[beq_eq_false_iff_ne];omega
  have hne:=arW_ne ks.length;have HB0:=h_ ((Below.refl w.heap.size w).alloc (Nat.le_refl _) (.cells #[.int .i64 (k:Nat),.string ⟨nm.toArray⟩,.string ⟨ot.toArray⟩,.bool false,.slice xao xn xc,.slice xko ks.length xkc,.int .i64 (ln:Nat),.int .i64 (cl:Nat)] 48));rcases hr2 with rfl | rfl
  ·go_enter Tryz.func48,Tryz.ntmps48
   go_wp2_with fail
   refine (arityW_ok k (-1) hk HR.out _ (HT.out.below ((Below.refl _ _).alloc (Nat.le_refl _) _))).mono ?_;rintro e w1 ⟨rfl,rfl⟩;go_wp2_with fail
   go_loopw [30] (fun i wr=>∃ j:Nat,i=.int .i64 (j:Nat)/\j<=ks.length/\Below w.heap.size w wr) (fun i _=>ks.length - (intOf i).toNat)
   case atStart=>exact⟨0,rfl,Nat.zero_le _,HB0.out⟩
   case round =>
    obtain⟨j,rfl,hj,hb⟩:=hrel
    by_cases hlt:j<ks.length
    ·obtain⟨y,hA,hT⟩:=HK.out j hlt;rw[Nat.zero_add] at hA;have hT':=hT.below hb;have hTb:=HT.out.below hb;obtain⟨a,rfl,hc⟩:=hA.keep fun a ha=>hb.block _ (hA.lt a ha)
     obtain⟨c0,c1,c2,c3,c4,c5,c6,c7⟩:=cells8 hc;have HB:=h_ hb;have HTr:=h_ hT';have HTb:=h_ hTb;clear hc hA hT hT' hb hTb;go_wp2_with fail
     refine (IH.out (by omega) y _ _ (HTb.out.below ((Below.refl _ _).alloc (Nat.le_refl _) _)) (HTr.out.below ((Below.refl _ _).alloc (Nat.le_refl _) _)) (HKS.out j hlt) (Nat.le_trans (HKD.out j hlt) hdd)).mono ?_;rintro e w2 ⟨rfl,hb2⟩;have HB2:=h_ hb2;clear hb2 c0 c1 c2 c3 c4 c5 c6 c7;go_wp2_with fail
     go_roundw
     case rel=>exact⟨j+1,by go_num,by omega,(HB.out.alloc HB.out.size _).trans (HB2.out.mono (by have:=HB.out.size;simp;omega))⟩
     case measure=>simp[intOf];omega
    have e:j=ks.length:=by omega
    subst e;have HB:=h_ hb;clear hb;go_wp2_with fail
    go_ret
    exact⟨rfl,HB.out⟩
  go_enter Tryz.func48,Tryz.ntmps48
  go_wp2_with fail
  refine (arityW_ok k _ hk HR.out _ (HT.out.below ((Below.refl _ _).alloc (Nat.le_refl _) _))).mono ?_;rintro e w1 ⟨rfl,rfl⟩;go_wp2_with fail
  go_loopw [30] (fun i wr=>∃ j:Nat,i=.int .i64 (j:Nat)/\j<=ks.length/\Below w.heap.size w wr) (fun i _=>ks.length - (intOf i).toNat)
  case atStart=>exact⟨0,rfl,Nat.zero_le _,HB0.out⟩
  case round =>
   obtain⟨j,rfl,hj,hb⟩:=hrel
   by_cases hlt:j<ks.length
   ·obtain⟨y,hA,hT⟩:=HK.out j hlt;rw[Nat.zero_add] at hA;have hT':=hT.below hb;have hTb:=HT.out.below hb;obtain⟨a,rfl,hc⟩:=hA.keep fun a ha=>hb.block _ (hA.lt a ha)
    obtain⟨c0,c1,c2,c3,c4,c5,c6,c7⟩:=cells8 hc;have HB:=h_ hb;have HTr:=h_ hT';have HTb:=h_ hTb;clear hc hA hT hT' hb hTb;go_wp2_with fail
    refine (IH.out (by omega) y _ _ (HTb.out.below ((Below.refl _ _).alloc (Nat.le_refl _) _)) (HTr.out.below ((Below.refl _ _).alloc (Nat.le_refl _) _)) (HKS.out j hlt) (Nat.le_trans (HKD.out j hlt) hdd)).mono ?_;rintro e w2 ⟨rfl,hb2⟩;have HB2:=h_ hb2;clear hb2 c0 c1 c2 c3 c4 c5 c6 c7;go_wp2_with fail
    go_roundw
    case rel=>exact⟨j+1,by go_num,by omega,(HB.out.alloc HB.out.size _).trans (HB2.out.mono (by have:=HB.out.size;simp;omega))⟩
    case measure=>simp[intOf];omega
   have e:j=ks.length:=by omega
   subst e;have HB:=h_ hb;clear hb;go_wp2_with fail
   go_ret
   exact⟨rfl,HB.out⟩
theorem put_list (l:List Value) (o:Nat) (c:Value) (cs:List Value) (h:o<l.length):(l.set o c).take (o+1)++(cs++(l.set o c).drop (o+1+cs.length))=l.take o++(c::cs++l.drop (o+(cs.length+1))):=by
 rw[List.take_succ_eq_append_getElem (by simpa using h),List.take_set_of_le (Nat.le_refl _),List.getElem_set_self,List.drop_set_of_lt (by omega),show o+1+cs.length=o+(cs.length+1) by omega]
 simp
theorem put_same:∀ (cs:List Value) (w:World) (g o:Nat) (cur:Array Value) (T:TypeId),w.heap[g]?=some (.cells cur T (0,0))->o+cs.length<=cur.size->(w.setCells g o cs).heap[g]?=some (.cells (cur.toList.take o++(cs++cur.toList.drop (o+cs.length))).toArray T (0,0)):=by
 intro cs
 induction cs with
 | nil=>intro w g o cur T h _;rw[World.setCells];simp[h]
 | cons c cs ih =>
  intro w g o cur T h hl;rw[lsc] at hl;have h0:=heap_setCell_same w g o cur T c h;have h1:=ih (w.setCell ⟨g,o,none⟩ c) g (o+1) _ T h0 (by rw[Array.size_setIfInBounds];omega);rw[World.setCells,h1,Array.toList_setIfInBounds,put_list _ _ _ _ (by simpa using (by omega:o<cur.size))]
  rfl
def pmV (p:PmU) (x:X):Value:=.agg #[.string ⟨p.nm.toArray⟩,.int .i64 (p.b:Nat),.bool p.kn,.int .i64 x.k,.string x.nm,.string x.ot,.bool x.b,.slice x.ao x.n x.c,.slice x.ko x.kn x.kc,.int .i64 x.ln,.int .i64 x.cl,.int .i64 (p.ln:Nat),.int .i64 (p.cl:Nat)]
def pmC (p:PmU) (x:X):List Value:=[.string ⟨p.nm.toArray⟩,.int .i64 (p.b:Nat),.bool p.kn,.int .i64 x.k,.string x.nm,.string x.ot,.bool x.b,.slice x.ao x.n x.c,.slice x.ko x.kn x.kc,.int .i64 x.ln,.int .i64 x.cl,.int .i64 (p.ln:Nat),.int .i64 (p.cl:Nat)]
def xZ:X:=⟨0,⟨#[]⟩,⟨#[]⟩,false,none,0,0,none,0,0,0,0⟩
end Go.Proofs.YtpclhpfcbjgokaaGreatDoor
namespace Go.Proofs.YtpclhpfcbjgokaaGreatDoor
open Go.RowKit Go.Maps
set_option maxRecDepth 100000
set_option linter.unusedVariables false
structure Fc (w w':World) (g b:Nat):Prop where
 os:w'.os=w.os
 tape:w'.tape=w.tape
 output:w'.output=w.output
 size:w.heap.size<=w'.heap.size
 block:∀ k,k<w.heap.size->k≠g->k≠b->w'.heap[k]?=w.heap[k]?
theorem Fc.refl (w:World) (g b:Nat):Fc w w g b:=⟨rfl,rfl,rfl,Nat.le_refl _,fun _ _ _ _=>rfl⟩
theorem Fc.trans {a b c:World} {g s:Nat} (h:Fc a b g s) (k:Fc b c g s):Fc a c g s:=
 ⟨k.os.trans h.os,k.tape.trans h.tape,k.output.trans h.output,Nat.le_trans h.size k.size,fun i hi h1 h2=>(k.block i (Nat.lt_of_lt_of_le hi h.size) h1 h2).trans (h.block i hi h1 h2)⟩
theorem Fc.of_below {w w':World} (h:Below w.heap.size w w') (g b:Nat):Fc w w' g b:=⟨h.os,h.tape,h.output,h.size,fun k hk _ _=>h.block k hk⟩
theorem Fc.of_g {w w':World} {g:Nat} (h:w.grownBy w' (some g)) (b:Nat):Fc w w' g b:=⟨h.os,h.tape,h.output,h.size,fun k hk h1 _=>h.block k hk (fun e=>h1 (by injection e))⟩
theorem Fc.of_b {w w':World} {b:Nat} (h:w.grownBy w' (some b)) (g:Nat):Fc w w' g b:=⟨h.os,h.tape,h.output,h.size,fun k hk _ h1=>h.block k hk (fun e=>h1 (by injection e))⟩
theorem Fc.of_new {a w w':World} {g b k:Nat} (h:Fc a w g b) (hg:w.grownBy w' (some k)) (hk:a.heap.size<=k):Fc a w' g b:=
 ⟨hg.os.trans h.os,hg.tape.trans h.tape,hg.output.trans h.output,Nat.le_trans h.size hg.size,fun i hi h1 h2=>(hg.block i (Nat.lt_of_lt_of_le hi h.size) (fun e=>by injection e with e;omega)).trans (h.block i hi h1 h2)⟩
theorem kF {w w':World} {g b k:Nat} {o:Obj} (hf:Fc w w' g b) (h:Hid (w.heap[k]?=some o)) (h1:k≠g:=by omega) (h2:k≠b:=by omega):Hid (w'.heap[k]?=some o):=h_ ((hf.block _ (lt_of_block h.out) h1 h2).trans h.out)
theorem fb_ {we w w2:World} {kg bs:Nat} (h:Hid (Fc we w kg bs)) (hb:Below w.heap.size w w2):Hid (Fc we w2 kg bs):=h_ (h.out.trans (Fc.of_below hb _ _))
def ErAt (w:World) (ev:Value):Option Flt->Prop
 | none=>ev=.nilIface
 | some f=>AtF w ev f
def iv (n:Nat):Value:=.int .i64 (n:Nat)
def scV (m:Sc):Bs->Option Value:=fun x=>(m x).map iv
theorem scV_put (m:Sc) (n:Bs) (v:Nat):scV (m.put n v)=fun x=>if x=n then some (iv v) else scV m x:=by
 funext x;unfold scV Sc.put;split<;>rfl
theorem scV_del (m:Sc) (n:Bs):scV (m.del n)=fun x=>if x=n then none else scV m x:=by
 funext x;unfold scV Sc.del;split<;>rfl
theorem scV_some (m:Sc) (n:Bs):(scV m n).isSome=(m n).isSome:=by unfold scV;cases m n<;>rfl
theorem scV_get (m:Sc) (n:Bs):(scV m n).getD (iv 0)=iv ((m n).getD 0):=by unfold scV;cases m n<;>rfl
theorem domV {m:Sc} {n:Nat} (h:Dom m n):DomV (scV m) n:=by
 obtain⟨L,h1,h2⟩:=h;exact⟨L,h1,fun x hx=>h2 x (by rw[<-scV_some];exact hx)⟩
structure Ck (w0 w:World) (g bf bs:Nat) (Gv:Bs->Option Value) (s:Ks) (rf:Bool) (ev:Value):Prop where
 bw:Below w0.heap.size w0 w
 gB:w0.heap.size<=g
 fB:w0.heap.size<=bf
 sB:w0.heap.size<=bs
 ne:bf≠bs
 blk:w.heap[g]?=some (.cells #[.map (some bf),.map (some bs),.bool rf,ev] 76 (0,0))
 fm:MapIs Tryz.prog 9 w bf Gv
 sm:MapIs Tryz.prog 9 w bs (scV s.sc)
 er:ErAt w ev s.er
section
variable {w0 w w':World} {g bf bs:Nat} {Gv:Bs->Option Value} {s:Ks} {rf:Bool} {ev:Value}
theorem Ck.gs (h:Ck w0 w g bf bs Gv s rf ev):g≠bs:=by
 rintro rfl;obtain⟨n,D,⟨es,clock,h1,-⟩,-⟩:=h.sm;rw[h.blk] at h1;cases h1
theorem Ck.gf (h:Ck w0 w g bf bs Gv s rf ev):g≠bf:=by
 rintro rfl;obtain⟨n,D,⟨es,clock,h1,-⟩,-⟩:=h.fm;rw[h.blk] at h1;cases h1
theorem ErAt.keep {e:Option Flt} (h:ErAt w ev e) (hk:∀ (q:Nat) (c:Array Value) (T:TypeId),w.heap[q]?=some (.cells c T (0,0))->T=86->w'.heap[q]?=w.heap[q]?):ErAt w' ev e:=by
 cases e with
 | none=>exact h
 | some f =>
  obtain⟨q,rfl,hq⟩:=h;unfold AtB at hq;exact⟨q,rfl,by unfold AtB;rw[hk q _ _ hq rfl];exact hq⟩
theorem Ck.below (h:Ck w0 w g bf bs Gv s rf ev) (hb:Below w.heap.size w w'):Ck w0 w' g bf bs Gv s rf ev:=
 ⟨h.bw.trans (hb.mono h.bw.size),h.gB,h.fB,h.sB,h.ne,(hb.block _ (lt_of_block h.blk)).trans h.blk,h.fm.keep (hb.block _ h.fm.lt),h.sm.keep (hb.block _ h.sm.lt),h.er.keep fun q c T hc _=>hb.block q (lt_of_block hc)⟩
theorem Ck.own (h:Ck w0 w g bf bs Gv s rf ev) {k:Nat} {c:Array Value} {T:TypeId} (hk:w.heap[k]?=some (.cells c T (0,0))) (hT:T≠86) (hg:k≠g) (hB:w0.heap.size<=k) (hgr:w.grownBy w' (some k)):Ck w0 w' g bf bs Gv s rf ev:=by
 have n1:bf≠k:=by
  rintro rfl;obtain⟨n,D,⟨es,clock,h1,-⟩,-⟩:=h.fm;rw[hk] at h1;cases h1
 have n2:bs≠k:=by
  rintro rfl;obtain⟨n,D,⟨es,clock,h1,-⟩,-⟩:=h.sm;rw[hk] at h1;cases h1
 have key:∀ q,q<w.heap.size->q≠k->w'.heap[q]?=w.heap[q]?:=fun q hq hn=>hgr.block q hq (fun e=>hn (by injection e))
 exact⟨⟨hgr.os.trans h.bw.os,hgr.tape.trans h.bw.tape,hgr.output.trans h.bw.output,Nat.le_trans h.bw.size hgr.size,fun q hq=>(key q (by have:=h.bw.size;omega) (by omega)).trans (h.bw.block q hq)⟩,h.gB,h.fB,h.sB,h.ne,(key _ (lt_of_block h.blk) (fun e=>hg e.symm)).trans h.blk,h.fm.keep (key _ h.fm.lt n1),h.sm.keep (key _ h.sm.lt n2),h.er.keep fun q c' T' hc hT'=>key q (lt_of_block hc) (fun e=>by
   subst e;rw[hc] at hk;injection hk with hk;injection hk with _ e2 _;exact hT (e2 ▸ hT'))⟩
theorem Ck.store (h:Ck w0 w g bf bs Gv s rf ev) (hgr:w.grownBy w' (some g)) {bs':Nat} {s':Ks} {rf':Bool} {ev':Value} (hblk:w'.heap[g]?=some (.cells #[.map (some bf),.map (some bs'),.bool rf',ev'] 76 (0,0)))
  (hm:MapIs Tryz.prog 9 w bs' (scV s'.sc)) (hsB:w0.heap.size<=bs') (hne:bf≠bs') (her:ErAt w' ev' s'.er):Ck w0 w' g bf bs' Gv s' rf' ev':=by
 have key:∀ q,q<w.heap.size->q≠g->w'.heap[q]?=w.heap[q]?:=fun q hq hn=>hgr.block q hq (fun e=>hn (by injection e))
 have n2:bs'≠g:=by
  rintro rfl;obtain⟨n,D,⟨es,clock,h1,-⟩,-⟩:=hm;rw[h.blk] at h1;cases h1
 exact⟨⟨hgr.os.trans h.bw.os,hgr.tape.trans h.bw.tape,hgr.output.trans h.bw.output,Nat.le_trans h.bw.size hgr.size,fun q hq=>(key q (by have:=h.bw.size;omega) (by have:=h.gB;omega)).trans (h.bw.block q hq)⟩,h.gB,h.fB,hsB,hne,hblk,h.fm.keep (key _ h.fm.lt (fun e=>h.gf e.symm)),hm.keep (key _ hm.lt n2),her⟩
theorem Ck.erG (h:Ck w0 w g bf bs Gv s rf ev) (hgr:w.grownBy w' (some g)):ErAt w' ev s.er:=h.er.keep fun q c T hc hT=>hgr.block q (lt_of_block hc) (fun e=>by
 injection e with e;subst e;have:=h.blk;rw[hc] at this;injection this with this;injection this with _ e2 _;rw[hT] at e2;exact absurd e2 (by decide))
theorem Ck.turn (h:Ck w0 w g bf bs Gv s rf ev) (hgr:w.grownBy w' (some bs)) {sc':Sc} (hm:MapIs Tryz.prog 9 w' bs (scV sc')):Ck w0 w' g bf bs Gv ⟨sc',s.er⟩ rf ev:=by
 have key:∀ q,q<w.heap.size->q≠bs->w'.heap[q]?=w.heap[q]?:=fun q hq hn=>hgr.block q hq (fun e=>hn (by injection e))
 exact⟨⟨hgr.os.trans h.bw.os,hgr.tape.trans h.bw.tape,hgr.output.trans h.bw.output,Nat.le_trans h.bw.size hgr.size,fun q hq=>(key q (by have:=h.bw.size;omega) (by have:=h.sB;omega)).trans (h.bw.block q hq)⟩,h.gB,h.fB,h.sB,h.ne,(key _ (lt_of_block h.blk) h.gs).trans h.blk,h.fm.keep (key _ h.fm.lt h.ne),hm,h.er.keep fun q c T hc _=>key q (lt_of_block hc) (fun e=>by
  subst e;obtain⟨n,D,⟨es,clock,h1,-⟩,-⟩:=h.sm
  rw[hc] at h1;cases h1)⟩
theorem Ck.turnF (h:Ck w0 w g bf bs Gv s rf ev) (hgr:w.grownBy w' (some bf)) {Gv':Bs->Option Value} (hm:MapIs Tryz.prog 9 w' bf Gv'):Ck w0 w' g bf bs Gv' s rf ev:=by
 have key:∀ q,q<w.heap.size->q≠bf->w'.heap[q]?=w.heap[q]?:=fun q hq hn=>hgr.block q hq (fun e=>hn (by injection e))
 exact⟨⟨hgr.os.trans h.bw.os,hgr.tape.trans h.bw.tape,hgr.output.trans h.bw.output,Nat.le_trans h.bw.size hgr.size,fun q hq=>(key q (by have:=h.bw.size;omega) (by have:=h.fB;omega)).trans (h.bw.block q hq)⟩,h.gB,h.fB,h.sB,h.ne,(key _ (lt_of_block h.blk) h.gf).trans h.blk,hm,h.sm.keep (key _ h.sm.lt (fun e=>h.ne e.symm)),h.er.keep fun q c T hc _=>key q (lt_of_block hc) (fun e=>by
  subst e;obtain⟨n,D,⟨es,clock,h1,-⟩,-⟩:=h.fm
  rw[hc] at h1;cases h1)⟩
end
def CkP (w0 w:World) (g bf bs:Nat) (Gv:Bs->Option Value) (s':Ks) (rf:Bool) (w':World):Prop:=(∃ ev,Ck w0 w' g bf bs Gv s' rf ev)/\Fc w w' g bs
theorem require_p {w0 w:World} {g bf bs:Nat} {Gv:Bs->Option Value} {s:Ks} {rf:Bool} {ev:Value} (h:Ck w0 w g bf bs Gv s rf ev) (ok:Bool) (ln cl c:Nat) :
  Calls Tryz.prog 35 #[.pointer (some ⟨g,0,none⟩),.bool ok,.int .i64 (ln:Nat),.int .i64 (cl:Nat),.int .i64 (c:Nat)] w fun e w'=>e=.returned (.tuple #[])/\CkP w0 w g bf bs Gv ⟨s.sc,req s.er ok ln cl c⟩ rf w':=by
 have HC:=h_ h;have q3:=cell_at (v:=ev) h.blk 3 rfl;have f3:=froz_at h.blk 3
 cases ok with
 | true =>
  clear h;go_enter Tryz.func35,Tryz.ntmps35
  go_wp2_with fail
  exact bodyPost_end (results_none Tryz.results35 _ _ _) rfl ⟨rfl,⟨_,HC.out⟩,Fc.refl _ _ _⟩
 | false =>
  obtain⟨sc,er⟩:=s
  cases er with
  | some f =>
   obtain⟨q,rfl,-⟩:=h.er;clear h;go_enter Tryz.func35,Tryz.ntmps35
   go_wp2_with fail
   exact bodyPost_end (results_none Tryz.results35 _ _ _) rfl ⟨rfl,⟨_,HC.out⟩,Fc.refl _ _ _⟩
  | none =>
   obtain rfl:=h.er;clear h;go_enter Tryz.func35,Tryz.ntmps35
   go_upto_region 1 with fail
   obtain⟨w1,k,hw,hkk,hb,hs1,HA⟩:=newb w #[.int .i64 (ln:Nat),.int .i64 (cl:Nat),.iface 34 (.int .i64 (c:Nat))] 86;have HC1:=h_ (HC.out.below hb);have HF1:=h_ (Fc.of_below hb g bs);have hkg:k≠g:=by have:=lt_of_block HC.out.blk;omega
   have HKB:=h_ HC1.out.blk;clear q3 f3 hb hs1;have q3:=cell_at (v:=.nilIface) HC1.out.blk 3 rfl;have f3:=froz_at HC1.out.blk 3;go_wp2_with fail
   rw[<-hkk];clear q3 f3 hw hkk;have hg:=grown_set w1 g 3 (.iface 81 (.pointer (some ⟨k,0,none⟩)));refine bodyPost_end (results_none Tryz.results35 _ _ _) rfl ⟨rfl,⟨.iface 81 (.pointer (some ⟨k,0,none⟩)),?_⟩,HF1.out.trans (Fc.of_g hg bs)⟩;refine HC1.out.store hg (heap_setCell_same _ g 3 _ _ _ HKB.out) HC1.out.sm HC1.out.sB HC1.out.ne ⟨k,rfl,?_⟩;unfold AtB;rw[set1_other _ _ _ _ hkg];exact HA.out
theorem need_eq (s:Ks) (ln cl:Nat) (ok:Bool) (c:Nat):s.need ln cl ok c=⟨s.sc,req s.er ok ln cl c⟩:=by unfold Ks.need req;cases ok<;>rfl
theorem need_p {w0 w:World} {g bf bs:Nat} {Gv:Bs->Option Value} {s:Ks} {rf:Bool} {ev:Value} (h:Ck w0 w g bf bs Gv s rf ev) (x:X) (ln cl:Nat) (e1:x.ln=(ln:Nat)) (e2:x.cl=(cl:Nat)) (ok:Bool) (c:Nat) :
  Calls Tryz.prog 49 #[.pointer (some ⟨g,0,none⟩),xv x,.bool ok,.int .i64 (c:Nat)] w fun e w'=>e=.returned (.tuple #[])/\CkP w0 w g bf bs Gv (s.need ln cl ok c) rf w':=by
 obtain⟨xk,xnm,xot,xb,xao,xn,xq,xko,xkn,xkc,xln,xcl⟩:=x;simp only at e1 e2;subst e1 e2;have HC:=h_ h;clear h;simp only[xv];go_enter Tryz.func49,Tryz.ntmps49
 go_upto_region 1 with fail
 obtain⟨w1,k,hw,hkk,hb,hs1,HA⟩:=newb w #[.int .i64 xk,.string xnm,.string xot,.bool xb,.slice xao xn xq,.slice xko xkn xkc,.int .i64 (ln:Nat),.int .i64 (cl:Nat)] 48;rw[hw,<-hkk];have HC1:=h_ (HC.out.below hb);have HF1:=h_ (Fc.of_below hb g bs);have q6:=cell_at (v:=.int .i64 (ln:Nat)) HA.out 6 rfl;have q7:=cell_at (v:=.int .i64 (cl:Nat)) HA.out 7 rfl;clear hw hkk hb hs1;go_wp2_with fail
 refine (require_p HC1.out ok ln cl c).mono ?_;rintro e w2 ⟨rfl,hP,hF⟩;have HP:=h_ hP;have HF:=h_ (HF1.out.trans hF);clear hP hF q6 q7;go_wp2_with fail
 exact bodyPost_end (results_none Tryz.results49 _ _ _) rfl ⟨rfl,by rw[need_eq];exact HP.out,HF.out⟩
end Go.Proofs.YtpclhpfcbjgokaaGreatDoor
namespace Go.Proofs.YtpclhpfcbjgokaaGreatDoor
open Go.RowKit
set_option maxRecDepth 100000
set_option linter.unusedVariables false
theorem below_put {w0 w w':World} {g:Nat} (h:Below w0.heap.size w0 w) (hg:w.grownBy w' (some g)) (hB:w0.heap.size<=g):Below w0.heap.size w0 w':=⟨hg.os.trans h.os,hg.tape.trans h.tape,hg.output.trans h.output,Nat.le_trans h.size hg.size,fun q hq=>by
 rw[hg.block q (Nat.lt_of_lt_of_le hq h.size) (fun e=>by injection e with e;omega)];exact h.block q hq⟩
theorem typed_p (nm:Bs) (t:Tok) (b:Nat) (w:World) (hn:nm=t.text) :
  Calls Tryz.prog 86 #[tokV t,.int .i64 (b:Nat)] w fun e w'=>e=.returned (pmV (typ nm t b) xZ)/\Below w.heap.size w w':=by
 subst hn;unfold tokV pmV xZ typ;have HW:=h_ (Below.refl w.heap.size w);go_enter Tryz.func86,Tryz.ntmps86
 go_upto_region 1 with fail
 obtain⟨w1,kt,hw,hkk,hb,hs1,HBt⟩:=newb w #[.int .i64 (t.kind:Nat),.string ⟨t.text.toArray⟩,.int .i64 (t.line:Nat),.int .i64 (t.col:Nat)] 103;have het:w.heap.size<=kt:=by omega
 rw[hw,<-hkk,<-hs1];replace HW:=h_ (HW.out.trans (hb.mono HW.out.size));have HD:=h_ (below_grown hb (some 0));have hsz1:=HD.out.size;clear hw hb hkk hs1;obtain⟨w2,kr,hw,hkk,hb,hs1,HBr⟩:=newb w1 #[.string ⟨#[]⟩,.int .i64 0,.bool false,.int .i64 0,.string ⟨#[]⟩,.string ⟨#[]⟩,.bool false,.slice none 0 0,.slice none 0 0,.int .i64 0,.int .i64 0,.int .i64 0,.int .i64 0] 57;have her:w.heap.size<=kr:=by omega
 have ht_r:=lk_ hkk HBt;rw[hw,<-hkk];replace HBt:=kB hb HBt;replace HW:=h_ (HW.out.trans (hb.mono HW.out.size));replace HD:=dB HD hb;have hsz2:=HD.out.size;clear hw hb hkk hs1;obtain⟨c0,c1,c2,c3⟩:=cl4 HBt.out;obtain⟨z0,z1,z2,z3,z4,z5,z6,z7,z8,z9,z10,z11,z12⟩:=cl13 HBr.out;obtain⟨fz0,fz1,fz2,fz3,fz4,fz5,fz6,fz7,fz8,fz9,fz10,fz11,fz12⟩:=fr13 HBr.out;go_wp2_with fail
 refine bodyPost_ret (v:=.agg #[.string ⟨t.text.toArray⟩,.int .i64 (b:Nat),.bool false,.int .i64 0,.string ⟨#[]⟩,.string ⟨#[]⟩,.bool false,.slice none 0 0,.slice none 0 0,.int .i64 0,.int .i64 0,.int .i64 (t.line:Nat),.int .i64 (t.col:Nat)]) (by simp[results,Tryz.results86,go_sem,z0,z1,z2,z3,z4,z5,z6,z7,z8,z9,z10,z11,z12]) rfl ⟨rfl,?_⟩;obtain⟨wz,hw⟩:∃ x,x=w2.setCells kr 0 [.string ⟨t.text.toArray⟩,.int .i64 (b:Nat),.bool false,.int .i64 0,.string ⟨#[]⟩,.string ⟨#[]⟩,.bool false,.slice none 0 0,.slice none 0 0,.int .i64 0,.int .i64 0,.int .i64 (t.line:Nat),.int .i64 (t.col:Nat)]:=⟨_,rfl⟩
 have hg:w2.grownBy wz (some kr):=by rw[hw];exact setCells_grown _ _ _ _
 rw[show ((((((((((((w2.setCell ⟨kr,0,none⟩ (.string ⟨t.text.toArray⟩)).setCell ⟨kr,1,none⟩ (.int .i64 (b:Nat))).setCell ⟨kr,2,none⟩ (.bool false)).setCell ⟨kr,3,none⟩ (.int .i64 0)).setCell ⟨kr,4,none⟩ (.string ⟨#[]⟩)).setCell ⟨kr,5,none⟩ (.string ⟨#[]⟩)).setCell ⟨kr,6,none⟩ (.bool false)).setCell ⟨kr,7,none⟩ (.slice none 0 0)).setCell ⟨kr,8,none⟩ (.slice none 0 0)).setCell ⟨kr,9,none⟩ (.int .i64 0)).setCell ⟨kr,10,none⟩ (.int .i64 0)).setCell ⟨kr,11,none⟩ (.int .i64 (t.line:Nat))).setCell ⟨kr,12,none⟩ (.int .i64 (t.col:Nat))=wz from hw.symm];exact below_put HW.out hg her
theorem base_p (g:Nat) (s:St) (w:World) (hps:PS w g s) :
  Calls Tryz.prog 87 #[.pointer (some ⟨g,0,none⟩)] w fun e w'=>e=.returned (.int .i64 ((cBase s).1:Nat))/\Did w g (cBase s).2 w':=by
 have HP:=h_ hps;clear hps
 by_cases h0:s.nx.text=[105,110,116]
 ·have H0:=h_ h0;have HC:Hid (cBase s=(0,s.tk)):=h_ (by unfold cBase St.is;rw[h0];rfl);clear h0;go_enter Tryz.func87,Tryz.ntmps87
  go_upto_region 1 with fail
  go_wp2_with fail
  refine (take_p g s w HP.out).mono ?_;rintro e w1 ⟨rfl,hp,hg⟩;replace HP:=h_ hp;have HD:=h_ (hg);have hsz1:=HD.out.size;clear hp hg;simp only[tokV];obtain⟨t,hnx⟩:∃ t,t=St.nx s:=⟨_,rfl⟩
  rw[<-hnx];have HNt:=h_ hnx;clear hnx;go_upto_region 2 with fail
  obtain⟨w2,kt,hw,hkk,hb,hs1,HBt⟩:=newb w1 #[.int .i64 (t.kind:Nat),.string ⟨t.text.toArray⟩,.int .i64 (t.line:Nat),.int .i64 (t.col:Nat)] 103;have hgt:g<kt:=by rw[hkk];exact HP.out.lt
  have het:w.heap.size<=kt:=by omega
  rw[hw,<-hkk];replace HP:=h_ (HP.out.below hb);replace HD:=dB HD hb;have hsz2:=HD.out.size;clear hw hb hkk hs1;obtain⟨c0,c1,c2,c3⟩:=cl4 HBt.out;have q:t.text=[105,110,116]:=by rw[HNt.out];exact H0.out
  have q0:(t.text==[105,110,116])=true:=by rw[q];rfl
  clear q;go_wp2_with fail
  go_ret
  exact⟨by rw[HC.out];rfl,by rw[HC.out];exact⟨HP.out,HD.out⟩⟩
 by_cases h1:s.nx.text=[98,111,111,108]
 ·have H1:=h_ h1;have HC:Hid (cBase s=(1,s.tk)):=h_ (by unfold cBase St.is;rw[h1];rfl);clear h1 h0;go_enter Tryz.func87,Tryz.ntmps87
  go_upto_region 1 with fail
  go_wp2_with fail
  refine (take_p g s w HP.out).mono ?_;rintro e w1 ⟨rfl,hp,hg⟩;replace HP:=h_ hp;have HD:=h_ (hg);have hsz1:=HD.out.size;clear hp hg;simp only[tokV];obtain⟨t,hnx⟩:∃ t,t=St.nx s:=⟨_,rfl⟩
  rw[<-hnx];have HNt:=h_ hnx;clear hnx;go_upto_region 2 with fail
  obtain⟨w2,kt,hw,hkk,hb,hs1,HBt⟩:=newb w1 #[.int .i64 (t.kind:Nat),.string ⟨t.text.toArray⟩,.int .i64 (t.line:Nat),.int .i64 (t.col:Nat)] 103;have hgt:g<kt:=by rw[hkk];exact HP.out.lt
  have het:w.heap.size<=kt:=by omega
  rw[hw,<-hkk];replace HP:=h_ (HP.out.below hb);replace HD:=dB HD hb;have hsz2:=HD.out.size;clear hw hb hkk hs1;obtain⟨c0,c1,c2,c3⟩:=cl4 HBt.out;have q:t.text=[98,111,111,108]:=by rw[HNt.out];exact H1.out
  have q0:(t.text==[105,110,116])=false:=by rw[q];rfl
  have q1:(t.text==[98,111,111,108])=true:=by rw[q];rfl
  clear q;go_wp2_with fail
  go_ret
  exact⟨by rw[HC.out];rfl,by rw[HC.out];exact⟨HP.out,HD.out⟩⟩
 by_cases h2:s.nx.text=[108,105,115,116]
 ·have H2:=h_ h2;have HC:Hid (cBase s=(2,s.tk)):=h_ (by unfold cBase St.is;rw[h2];rfl);clear h2 h0 h1;go_enter Tryz.func87,Tryz.ntmps87
  go_upto_region 1 with fail
  go_wp2_with fail
  refine (take_p g s w HP.out).mono ?_;rintro e w1 ⟨rfl,hp,hg⟩;replace HP:=h_ hp;have HD:=h_ (hg);have hsz1:=HD.out.size;clear hp hg;simp only[tokV];obtain⟨t,hnx⟩:∃ t,t=St.nx s:=⟨_,rfl⟩
  rw[<-hnx];have HNt:=h_ hnx;clear hnx;go_upto_region 2 with fail
  obtain⟨w2,kt,hw,hkk,hb,hs1,HBt⟩:=newb w1 #[.int .i64 (t.kind:Nat),.string ⟨t.text.toArray⟩,.int .i64 (t.line:Nat),.int .i64 (t.col:Nat)] 103;have hgt:g<kt:=by rw[hkk];exact HP.out.lt
  have het:w.heap.size<=kt:=by omega
  rw[hw,<-hkk];replace HP:=h_ (HP.out.below hb);replace HD:=dB HD hb;have hsz2:=HD.out.size;clear hw hb hkk hs1;obtain⟨c0,c1,c2,c3⟩:=cl4 HBt.out;have q:t.text=[108,105,115,116]:=by rw[HNt.out];exact H2.out
  have q0:(t.text==[105,110,116])=false:=by rw[q];rfl
  have q1:(t.text==[98,111,111,108])=false:=by rw[q];rfl
  have q2:(t.text==[108,105,115,116])=true:=by rw[q];rfl
  clear q;go_wp2_with fail
  go_ret
  exact⟨by rw[HC.out];rfl,by rw[HC.out];exact⟨HP.out,HD.out⟩⟩
 have HC:Hid (cBase s=(0,s.tk.fail s.nx 1)):=h_ (by unfold cBase St.is;rw[if_neg (by simpa using h0),if_neg (by simpa using h1),if_neg (by simpa using h2)]);have H0:Hid ((s.nx.text==[105,110,116])=false):=h_ (by simpa using h0);have H1:Hid ((s.nx.text==[98,111,111,108])=false):=h_ (by simpa using h1);have H2:Hid ((s.nx.text==[108,105,115,116])=false):=h_ (by simpa using h2);clear h0 h1 h2;go_enter Tryz.func87,Tryz.ntmps87
 go_upto_region 1 with fail
 go_wp2_with fail
 refine (take_p g s w HP.out).mono ?_;rintro e w1 ⟨rfl,hp,hg⟩;replace HP:=h_ hp;have HD:=h_ (hg);have hsz1:=HD.out.size;clear hp hg;simp only[tokV];obtain⟨t,hnx⟩:∃ t,t=St.nx s:=⟨_,rfl⟩
 rw[<-hnx];have HNt:=h_ hnx;clear hnx;go_upto_region 2 with fail
 obtain⟨w2,kt,hw,hkk,hb,hs1,HBt⟩:=newb w1 #[.int .i64 (t.kind:Nat),.string ⟨t.text.toArray⟩,.int .i64 (t.line:Nat),.int .i64 (t.col:Nat)] 103;have hgt:g<kt:=by rw[hkk];exact HP.out.lt
 have het:w.heap.size<=kt:=by omega
 rw[hw,<-hkk];replace HP:=h_ (HP.out.below hb);replace HD:=dB HD hb;clear hw hb hkk hs1;obtain⟨c0,c1,c2,c3⟩:=cl4 HBt.out;have q0:(t.text==[105,110,116])=false:=by rw[HNt.out];exact H0.out
 have q1:(t.text==[98,111,111,108])=false:=by rw[HNt.out];exact H1.out
 have q2:(t.text==[108,105,115,116])=false:=by rw[HNt.out];exact H2.out
 go_wp2_with fail
 refine (fail_p g s.tk t 1 w2 HP.out).mono ?_;rintro e w3 ⟨⟨v,rfl⟩,hp,hg⟩;clear c0 c1 c2 c3;replace HBt:=kG hg HBt;replace HP:=h_ hp;replace HD:=dG HD (hg);have hsz3:=HD.out.size;clear hp hg;go_wp2_with fail
 go_ret
 rw[HNt.out] at HP;exact⟨by rw[HC.out];rfl,by rw[HC.out];exact⟨HP.out,HD.out⟩⟩
theorem counted_p (g count limit:Nat) (s:St) (w:World) (hps:PS w g s) (h1:count<=1000000) (h2:limit<=1000000) :
  Calls Tryz.prog 54 #[.pointer (some ⟨g,0,none⟩),.int .i64 (count:Nat),.int .i64 (limit:Nat)] w fun e w'=>e=.returned (tokV s.nx)/\Did w g (s.counted count limit) w':=by
 have HP:=h_ hps;clear hps;go_enter Tryz.func54,Tryz.ntmps54
 go_upto_region 1 with fail
 obtain⟨w1,kr,hw,hkk,hb,hs1,HBr⟩:=newb w #[.int .i64 0,.string ⟨#[]⟩,.int .i64 0,.int .i64 0] 103;have hgr:g<kr:=by rw[hkk];exact HP.out.lt
 have her:w.heap.size<=kr:=by omega
 rw[hw,<-hkk];replace HP:=h_ (HP.out.below hb);have HD:=h_ (below_grown hb (some g));clear hw hb hkk hs1;go_wp2_with fail
 refine (name_p g s w1 HP.out).mono ?_;rintro e w2 ⟨rfl,hp,hg⟩;replace HBr:=kG hg HBr;replace HP:=h_ hp;replace HD:=dG HD (hg);have hsz2:=HD.out.size;clear hp hg;simp only[tokV];obtain⟨t,hnx⟩:∃ t,t=St.nx s:=⟨_,rfl⟩
 rw[<-hnx];have HNt:=h_ hnx;clear hnx;go_upto_region 2 with fail
 obtain⟨w3,kt,hw,hkk,hb,hs1,HBt⟩:=newb w2 #[.int .i64 (t.kind:Nat),.string ⟨t.text.toArray⟩,.int .i64 (t.line:Nat),.int .i64 (t.col:Nat)] 103;have hgt:g<kt:=by rw[hkk];exact HP.out.lt
 have het:w.heap.size<=kt:=by omega
 have hr_t:=lk_ hkk HBr;rw[hw,<-hkk];replace HBr:=kB hb HBr;replace HP:=h_ (HP.out.below hb);replace HD:=dB HD hb;have hsz3:=HD.out.size;clear hw hb hkk hs1
 by_cases hc:limit<=count
 ·have HX:Hid (s.counted count limit=s.name.fail t 2):=h_ (by unfold St.counted;rw[if_pos hc,HNt.out]);have hc2:((limit:Nat):Int)<=(count:Nat):=by omega
  clear hc;obtain⟨c0,c1,c2,c3⟩:=cl4 HBt.out;go_wp2_with fail
  refine (fail_p g s.name t 2 w3 HP.out).mono ?_;rintro e w4 ⟨⟨v,rfl⟩,hp,hg⟩;clear c0 c1 c2 c3;replace HBr:=kG hg HBr;replace HBt:=kG hg HBt;replace HP:=h_ hp;replace HD:=dG HD (hg);clear hp hg;obtain⟨c0,c1,c2,c3⟩:=cl4 HBt.out;obtain⟨z0,z1,z2,z3⟩:=cl4 HBr.out;obtain⟨fz0,fz1,fz2,fz3⟩:=fr4 HBr.out;go_wp2_with fail
  refine bodyPost_ret (v:=.agg #[.int .i64 (t.kind:Nat),.string ⟨t.text.toArray⟩,.int .i64 (t.line:Nat),.int .i64 (t.col:Nat)]) (by simp[results,Tryz.results54,go_sem,z0,z1,z2,z3]) rfl ?_;obtain⟨wz,hw⟩:∃ x,x=w4.setCells kr 0 [.int .i64 (t.kind:Nat),.string ⟨t.text.toArray⟩,.int .i64 (t.line:Nat),.int .i64 (t.col:Nat)]:=⟨_,rfl⟩
  have hg:w4.grownBy wz (some kr):=by rw[hw];exact setCells_grown _ _ _ _
  rw[show (((w4.setCell ⟨kr,0,none⟩ (.int .i64 (t.kind:Nat))).setCell ⟨kr,1,none⟩ (.string ⟨t.text.toArray⟩)).setCell ⟨kr,2,none⟩ (.int .i64 (t.line:Nat))).setCell ⟨kr,3,none⟩ (.int .i64 (t.col:Nat))=wz from hw.symm];clear c0 c1 c2 c3 z0 fz0 z1 fz1 z2 fz2 z3 fz3;replace HP:=h_ (HP.out.store HBr.out (by decide) (by omega) hg);replace HBt:=kG hg HBt;replace HD:=dN HD hg (by omega);have hsz5:=HD.out.size;clear hw hg;exact⟨by rw[<-HNt.out];rfl,by rw[HX.out];exact⟨HP.out,HD.out⟩⟩
 have HX:Hid (s.counted count limit=s.name):=h_ (by unfold St.counted;rw[if_neg hc]);have hc2:¬ ((limit:Nat):Int)<=(count:Nat):=by omega
 clear hc;obtain⟨c0,c1,c2,c3⟩:=cl4 HBt.out;obtain⟨z0,z1,z2,z3⟩:=cl4 HBr.out;obtain⟨fz0,fz1,fz2,fz3⟩:=fr4 HBr.out;go_wp2_with fail
 refine bodyPost_ret (v:=.agg #[.int .i64 (t.kind:Nat),.string ⟨t.text.toArray⟩,.int .i64 (t.line:Nat),.int .i64 (t.col:Nat)]) (by simp[results,Tryz.results54,go_sem,z0,z1,z2,z3]) rfl ?_;obtain⟨wz,hw⟩:∃ x,x=w3.setCells kr 0 [.int .i64 (t.kind:Nat),.string ⟨t.text.toArray⟩,.int .i64 (t.line:Nat),.int .i64 (t.col:Nat)]:=⟨_,rfl⟩
 have hg:w3.grownBy wz (some kr):=by rw[hw];exact setCells_grown _ _ _ _
 rw[show (((w3.setCell ⟨kr,0,none⟩ (.int .i64 (t.kind:Nat))).setCell ⟨kr,1,none⟩ (.string ⟨t.text.toArray⟩)).setCell ⟨kr,2,none⟩ (.int .i64 (t.line:Nat))).setCell ⟨kr,3,none⟩ (.int .i64 (t.col:Nat))=wz from hw.symm];clear c0 c1 c2 c3 z0 fz0 z1 fz1 z2 fz2 z3 fz3;replace HP:=h_ (HP.out.store HBr.out (by decide) (by omega) hg);replace HBt:=kG hg HBt;replace HD:=dN HD hg (by omega);have hsz4:=HD.out.size;clear hw hg;exact⟨by rw[<-HNt.out];rfl,by rw[HX.out];exact⟨HP.out,HD.out⟩⟩
theorem variable_p (g:Nat) (s:St) (w:World) (hps:PS w g s) :
  Calls Tryz.prog 56 #[.pointer (some ⟨g,0,none⟩)] w fun e w'=>e=.returned (pmV (cVar s).1 xZ)/\Did w g (cVar s).2 w':=by
 have HP:=h_ hps;clear hps;go_enter Tryz.func56,Tryz.ntmps56
 go_upto_region 1 with fail
 obtain⟨w1,kr,hw,hkk,hb,hs1,HBr⟩:=newb w #[.string ⟨#[]⟩,.int .i64 0,.bool false,.int .i64 0,.string ⟨#[]⟩,.string ⟨#[]⟩,.bool false,.slice none 0 0,.slice none 0 0,.int .i64 0,.int .i64 0,.int .i64 0,.int .i64 0] 57;have hgr:g<kr:=by rw[hkk];exact HP.out.lt
 have her:w.heap.size<=kr:=by omega
 rw[hw,<-hkk];replace HP:=h_ (HP.out.below hb);have HD:=h_ (below_grown hb (some g));clear hw hb hkk hs1;go_wp2_with fail
 refine (next_p g s w1 HP.out).mono ?_;rintro e w2 ⟨rfl,hb⟩;replace HBr:=kB hb HBr;replace HP:=h_ (HP.out.below hb);replace HD:=dB HD hb;have hsz2:=HD.out.size;clear hb;simp only[tokV];obtain⟨t,hnx⟩:∃ t,t=St.nx s:=⟨_,rfl⟩
 rw[<-hnx];have HNt:=h_ hnx;clear hnx;go_upto_region 2 with fail
 obtain⟨w3,kt,hw,hkk,hb,hs1,HBt⟩:=newb w2 #[.int .i64 (t.kind:Nat),.string ⟨t.text.toArray⟩,.int .i64 (t.line:Nat),.int .i64 (t.col:Nat)] 103;have hgt:g<kt:=by rw[hkk];exact HP.out.lt
 have het:w.heap.size<=kt:=by omega
 have hr_t:=lk_ hkk HBr;rw[hw,<-hkk];replace HBr:=kB hb HBr;replace HP:=h_ (HP.out.below hb);replace HD:=dB HD hb;have hsz3:=HD.out.size;clear hw hb hkk hs1;go_wp2_with fail
 obtain⟨w4,kq1,hw,hkk,hb,hs1,HBq1⟩:=newb w3 #[.string ⟨#[118]⟩,.string ⟨#[58]⟩] 9;have hgq1:g<kq1:=by rw[hkk];exact HP.out.lt
 have heq1:w.heap.size<=kq1:=by omega
 have hr_q1:=lk_ hkk HBr;have ht_q1:=lk_ hkk HBt;rw[hw,<-hkk];replace HBr:=kB hb HBr;replace HBt:=kB hb HBt;replace HP:=h_ (HP.out.below hb);replace HD:=dB HD hb;have hsz4:=HD.out.size;clear hw hb hkk hs1;refine (expect_p g s [[118],[58]] kq1 w4 HP.out HBq1.out (by omega) (by decide)).mono ?_;rintro e w5 ⟨⟨v,rfl⟩,hp,hg⟩;replace HBr:=kG hg HBr;replace HBt:=kG hg HBt;replace HBq1:=kG hg HBq1;replace HP:=h_ hp;replace HD:=dG HD (hg);have hsz5:=HD.out.size;clear hp hg;obtain⟨bb,hbb⟩:∃ b,b=(cBase ((s.exp [118]).exp [58])).1:=⟨_,rfl⟩
 obtain⟨sb,hsb⟩:∃ x,x=(cBase ((s.exp [118]).exp [58])).2:=⟨_,rfl⟩
 have HBB:=h_ hbb;have HSB:=h_ hsb;clear hbb hsb;go_upto_region 3 with fail
 have hlt_t:=lt_of_block HBt.out;have hog:∀ q,q<1->(fun q=>g) q<w5.heap.size:=fun q _=>by show g<_;exact HP.out.lt
 refine R7.region (by kernel_rfl) [[],[],[1],[0,1,2],[0,1,2,3]] [] [(2,1000)] (fun q=>g) 1 3 (by kernel_rfl) (by kernel_rfl) (by rfl) hog (fun q q' h h' hn=>absurd hn (by omega)) ?_;refine R7.cd ?_ (fun T xs wr hA=>?_) ?_
 rotate_left
 ·have e3:=hA.pq 3;simp only[gsa,gsc,gsz] at e3;have hBq:wr.heap[kt]?=_:=(hA.bl _ hlt_t (fun q _=>by show g≠kt;omega)).trans HBt.out;obtain⟨q0,q1,q2,q3⟩:=cl4 hBq;clear hBq;clear hA;go_simp<;>(try with_reducible rfl)
 refine R7.cd ?_ (fun T xs wr hA=>?_) ?_
 rotate_left
 ·have e0:=hA.pq 0;simp only[gsa,gsz] at e0;clear hA;go_simp<;>(try with_reducible rfl)
 refine R7.Chain.callOld 0 (fun xs v w=>v=.int .i64 (bb:Nat)/\PS w g sb) (fun _ _ _ _ ⟨h1,h2⟩ hb=>⟨h1,h2.below hb⟩) (fun _ _ _ _ q' _ hq hne _=>absurd rfl hne) (by rfl) (by rfl) (by decide) (R7.own_one (by rfl)) (fun T xs wr hA hold=>?_) ?_
 ·have hsw:=(hA.be 0 (Nat.zero_le _) (fun _ _=>Nat.zero_le _)).size;have e10:=tr_ (hA.tq 1 10) (hA.fq 1)
  (try simp (disch:=decide) only [R7.mi] at e10)
  have h0:=undrew (hA.be 0 (Nat.zero_le _) (fun _ _=>Nat.zero_le _))
  have hbw:Below w5.heap.size w5 wr:=⟨h0.os,h0.tape,h0.output,h0.size,fun k hk=>by
   by_cases e:k=g
   ·rw[e];exact hold
   exact hA.bl k hk (fun q _ h=>e h.symm)⟩
  clear hA;refine⟨(by rfl),fun K hK=>?_⟩;go_simp
  refine (base_p g ((s.exp [118]).exp [58]) wr (HP.out.below hbw)).mono ?_;rintro e w' ⟨rfl,hp,hg⟩;exact hK.out _ _ ⟨by rw[HBB.out],by rw[HSB.out];exact hp⟩ (R7.Priv.of hg)
 refine R7.Chain.done (fun xs w6 hL=>?_);obtain⟨⟨hbe,hbl⟩,hf,-,-⟩:=hL;have f0:xs 0=_:=hf 0 (by decide);have f1:xs 1=_:=hf 1 (by decide);have F2:(xs 2)=.int .i64 (bb:Nat)/\PS w6 g sb:=hf 2 (by decide)
 (try simp (disch:=decide) only [R7.mi] at f0 f1)
 have hb0:Below 0 w5 w6:=undrew (hbe 0 (Nat.zero_le _) (fun _ _=>Nat.zero_le _));have hgr:∀ j,j<w5.heap.size->(∀ q,q<1->(fun q=>g) q≠j)->w6.heap[j]?=w5.heap[j]?:=hbl;clear hbe hbl hf;obtain⟨hv,hp⟩:=F2;have hg:w5.grownBy w6 (some g):=⟨hb0.os,hb0.tape,hb0.output,hb0.size,fun k hk hn=>hgr k hk (fun q _ e=>hn (by rw[<-e]))⟩
 refine R7.rest_list (by decide) (by kernel_rfl) ?_;simp only[R7.fill,t1_,t2_,t3_,t4_,t5_,t6_,t7_,f0,f1];simp only[hv];clear hlt_t hog hv f0 f1;replace HBr:=kG hg HBr;replace HBt:=kG hg HBt;replace HP:=h_ hp;replace HD:=dG HD (hg);clear hp hg hb0 hgr;go_wp2_with fail
 refine (typed_p t.text t bb w6 rfl).mono ?_;rintro e w7 ⟨rfl,hb⟩;replace HBr:=kB hb HBr;replace HBt:=kB hb HBt;replace HP:=h_ (HP.out.below hb);replace HD:=dB HD hb;clear hb;simp only[pmV,typ,xZ];obtain⟨z0,z1,z2,z3,z4,z5,z6,z7,z8,z9,z10,z11,z12⟩:=cl13 HBr.out;obtain⟨fz0,fz1,fz2,fz3,fz4,fz5,fz6,fz7,fz8,fz9,fz10,fz11,fz12⟩:=fr13 HBr.out;go_wp2_with fail
 refine bodyPost_ret (v:=.agg #[.string ⟨t.text.toArray⟩,.int .i64 (bb:Nat),.bool false,.int .i64 0,.string ⟨#[]⟩,.string ⟨#[]⟩,.bool false,.slice none 0 0,.slice none 0 0,.int .i64 0,.int .i64 0,.int .i64 (t.line:Nat),.int .i64 (t.col:Nat)]) (by simp[results,Tryz.results56,go_sem,z0,z1,z2,z3,z4,z5,z6,z7,z8,z9,z10,z11,z12]) rfl ?_;obtain⟨wz,hw⟩:∃ x,x=w7.setCells kr 0 [.string ⟨t.text.toArray⟩,.int .i64 (bb:Nat),.bool false,.int .i64 0,.string ⟨#[]⟩,.string ⟨#[]⟩,.bool false,.slice none 0 0,.slice none 0 0,.int .i64 0,.int .i64 0,.int .i64 (t.line:Nat),.int .i64 (t.col:Nat)]:=⟨_,rfl⟩
 have hg:w7.grownBy wz (some kr):=by rw[hw];exact setCells_grown _ _ _ _
 rw[show ((((((((((((w7.setCell ⟨kr,0,none⟩ (.string ⟨t.text.toArray⟩)).setCell ⟨kr,1,none⟩ (.int .i64 (bb:Nat))).setCell ⟨kr,2,none⟩ (.bool false)).setCell ⟨kr,3,none⟩ (.int .i64 0)).setCell ⟨kr,4,none⟩ (.string ⟨#[]⟩)).setCell ⟨kr,5,none⟩ (.string ⟨#[]⟩)).setCell ⟨kr,6,none⟩ (.bool false)).setCell ⟨kr,7,none⟩ (.slice none 0 0)).setCell ⟨kr,8,none⟩ (.slice none 0 0)).setCell ⟨kr,9,none⟩ (.int .i64 0)).setCell ⟨kr,10,none⟩ (.int .i64 0)).setCell ⟨kr,11,none⟩ (.int .i64 (t.line:Nat))).setCell ⟨kr,12,none⟩ (.int .i64 (t.col:Nat))=wz from hw.symm];clear z0 fz0 z1 fz1 z2 fz2 z3 fz3 z4 fz4 z5 fz5 z6 fz6 z7 fz7 z8 fz8 z9 fz9 z10 fz10 z11 fz11 z12 fz12;replace HP:=h_ (HP.out.store HBr.out (by decide) (by omega) hg);replace HBt:=kG hg HBt;replace HD:=dN HD hg (by omega);have hsz8:=HD.out.size;clear hw hg
 exact⟨by unfold cVar;simp only[pmV,typ,xZ];rw[show (cBase ((s.exp wV).exp wColon)).1=bb from HBB.out.symm,<-HNt.out],by unfold cVar;rw[show (cBase ((s.exp wV).exp wColon)).2=sb from HSB.out.symm];exact⟨HP.out,HD.out⟩⟩
theorem param_p (g count:Nat) (s:St) (w:World) (hps:PS w g s) (hc:count<=1000000) :
  Calls Tryz.prog 57 #[.pointer (some ⟨g,0,none⟩),.int .i64 (count:Nat)] w fun e w'=>e=.returned (pmV (cParam count s).1 xZ)/\Did w g (cParam count s).2 w':=by
 have HP:=h_ hps;clear hps;go_enter Tryz.func57,Tryz.ntmps57
 go_upto_region 1 with fail
 obtain⟨w1,kr,hw,hkk,hb,hs1,HBr⟩:=newb w #[.string ⟨#[]⟩,.int .i64 0,.bool false,.int .i64 0,.string ⟨#[]⟩,.string ⟨#[]⟩,.bool false,.slice none 0 0,.slice none 0 0,.int .i64 0,.int .i64 0,.int .i64 0,.int .i64 0] 57;have hgr:g<kr:=by rw[hkk];exact HP.out.lt
 have her:w.heap.size<=kr:=by omega
 rw[hw,<-hkk];replace HP:=h_ (HP.out.below hb);have HD:=h_ (below_grown hb (some g));clear hw hb hkk hs1;go_wp2_with fail
 refine (counted_p g count 6 s w1 HP.out hc (by decide)).mono ?_;rintro e w2 ⟨rfl,hp,hg⟩;replace HBr:=kG hg HBr;replace HP:=h_ hp;replace HD:=dG HD (hg);have hsz2:=HD.out.size;clear hp hg;simp only[tokV];obtain⟨t,hnx⟩:∃ t,t=St.nx s:=⟨_,rfl⟩
 rw[<-hnx];have HNt:=h_ hnx;clear hnx;go_upto_region 2 with fail
 obtain⟨w3,kt,hw,hkk,hb,hs1,HBt⟩:=newb w2 #[.int .i64 (t.kind:Nat),.string ⟨t.text.toArray⟩,.int .i64 (t.line:Nat),.int .i64 (t.col:Nat)] 103;have hgt:g<kt:=by rw[hkk];exact HP.out.lt
 have het:w.heap.size<=kt:=by omega
 have hr_t:=lk_ hkk HBr;rw[hw,<-hkk];replace HBr:=kB hb HBr;replace HP:=h_ (HP.out.below hb);replace HD:=dB HD hb;have hsz3:=HD.out.size;clear hw hb hkk hs1;go_wp2_with fail
 obtain⟨w4,kq1,hw,hkk,hb,hs1,HBq1⟩:=newb w3 #[.string ⟨#[58]⟩] 9;have hgq1:g<kq1:=by rw[hkk];exact HP.out.lt
 have heq1:w.heap.size<=kq1:=by omega
 have hr_q1:=lk_ hkk HBr;have ht_q1:=lk_ hkk HBt;rw[hw,<-hkk];replace HBr:=kB hb HBr;replace HBt:=kB hb HBt;replace HP:=h_ (HP.out.below hb);replace HD:=dB HD hb;have hsz4:=HD.out.size;clear hw hb hkk hs1;refine (expect_p g (s.counted count 6) [[58]] kq1 w4 HP.out HBq1.out (by omega) (by decide)).mono ?_;rintro e w5 ⟨⟨v,rfl⟩,hp,hg⟩;replace HBr:=kG hg HBr;replace HBt:=kG hg HBt;replace HBq1:=kG hg HBq1;replace HP:=h_ hp;replace HD:=dG HD (hg);have hsz5:=HD.out.size;clear hp hg;obtain⟨bb,hbb⟩:∃ b,b=(cBase ((s.counted count 6).exp [58])).1:=⟨_,rfl⟩
 obtain⟨sb,hsb⟩:∃ x,x=(cBase ((s.counted count 6).exp [58])).2:=⟨_,rfl⟩
 have HBB:=h_ hbb;have HSB:=h_ hsb;clear hbb hsb;go_upto_region 3 with fail
 have hlt_t:=lt_of_block HBt.out;have hog:∀ q,q<1->(fun q=>g) q<w5.heap.size:=fun q _=>by show g<_;exact HP.out.lt
 refine R7.region (by kernel_rfl) [[],[],[1],[0,1,2],[0,1,2,3]] [] [(2,1000)] (fun q=>g) 1 3 (by kernel_rfl) (by kernel_rfl) (by rfl) hog (fun q q' h h' hn=>absurd hn (by omega)) ?_;refine R7.cd ?_ (fun T xs wr hA=>?_) ?_
 rotate_left
 ·have e5:=hA.pq 5;simp only[gsa,gsc,gsz] at e5;have hBq:wr.heap[kt]?=_:=(hA.bl _ hlt_t (fun q _=>by show g≠kt;omega)).trans HBt.out;obtain⟨q0,q1,q2,q3⟩:=cl4 hBq;clear hBq;clear hA;go_simp<;>(try with_reducible rfl)
 refine R7.cd ?_ (fun T xs wr hA=>?_) ?_
 rotate_left
 ·have e0:=hA.pq 0;simp only[gsa,gsz] at e0;clear hA;go_simp<;>(try with_reducible rfl)
 refine R7.Chain.callOld 0 (fun xs v w=>v=.int .i64 (bb:Nat)/\PS w g sb) (fun _ _ _ _ ⟨h1,h2⟩ hb=>⟨h1,h2.below hb⟩) (fun _ _ _ _ q' _ hq hne _=>absurd rfl hne) (by rfl) (by rfl) (by decide) (R7.own_one (by rfl)) (fun T xs wr hA hold=>?_) ?_
 ·have hsw:=(hA.be 0 (Nat.zero_le _) (fun _ _=>Nat.zero_le _)).size;have e13:=tr_ (hA.tq 1 13) (hA.fq 1)
  (try simp (disch:=decide) only [R7.mi] at e13)
  have h0:=undrew (hA.be 0 (Nat.zero_le _) (fun _ _=>Nat.zero_le _))
  have hbw:Below w5.heap.size w5 wr:=⟨h0.os,h0.tape,h0.output,h0.size,fun k hk=>by
   by_cases e:k=g
   ·rw[e];exact hold
   exact hA.bl k hk (fun q _ h=>e h.symm)⟩
  clear hA;refine⟨(by rfl),fun K hK=>?_⟩;go_simp
  refine (base_p g ((s.counted count 6).exp [58]) wr (HP.out.below hbw)).mono ?_;rintro e w' ⟨rfl,hp,hg⟩;exact hK.out _ _ ⟨by rw[HBB.out],by rw[HSB.out];exact hp⟩ (R7.Priv.of hg)
 refine R7.Chain.done (fun xs w6 hL=>?_);obtain⟨⟨hbe,hbl⟩,hf,-,-⟩:=hL;have f0:xs 0=_:=hf 0 (by decide);have f1:xs 1=_:=hf 1 (by decide);have F2:(xs 2)=.int .i64 (bb:Nat)/\PS w6 g sb:=hf 2 (by decide)
 (try simp (disch:=decide) only [R7.mi] at f0 f1)
 have hb0:Below 0 w5 w6:=undrew (hbe 0 (Nat.zero_le _) (fun _ _=>Nat.zero_le _));have hgr:∀ j,j<w5.heap.size->(∀ q,q<1->(fun q=>g) q≠j)->w6.heap[j]?=w5.heap[j]?:=hbl;clear hbe hbl hf;obtain⟨hv,hp⟩:=F2;have hg:w5.grownBy w6 (some g):=⟨hb0.os,hb0.tape,hb0.output,hb0.size,fun k hk hn=>hgr k hk (fun q _ e=>hn (by rw[<-e]))⟩
 refine R7.rest_list (by decide) (by kernel_rfl) ?_;simp only[R7.fill,t1_,t2_,t3_,t4_,t5_,t6_,t7_,f0,f1];simp only[hv];clear hlt_t hog hv f0 f1;replace HBr:=kG hg HBr;replace HBt:=kG hg HBt;replace HP:=h_ hp;replace HD:=dG HD (hg);clear hp hg hb0 hgr;go_wp2_with fail
 refine (typed_p t.text t bb w6 rfl).mono ?_;rintro e w7 ⟨rfl,hb⟩;replace HBr:=kB hb HBr;replace HBt:=kB hb HBt;replace HP:=h_ (HP.out.below hb);replace HD:=dB HD hb;clear hb;simp only[pmV,typ,xZ];obtain⟨z0,z1,z2,z3,z4,z5,z6,z7,z8,z9,z10,z11,z12⟩:=cl13 HBr.out;obtain⟨fz0,fz1,fz2,fz3,fz4,fz5,fz6,fz7,fz8,fz9,fz10,fz11,fz12⟩:=fr13 HBr.out;go_wp2_with fail
 refine bodyPost_ret (v:=.agg #[.string ⟨t.text.toArray⟩,.int .i64 (bb:Nat),.bool false,.int .i64 0,.string ⟨#[]⟩,.string ⟨#[]⟩,.bool false,.slice none 0 0,.slice none 0 0,.int .i64 0,.int .i64 0,.int .i64 (t.line:Nat),.int .i64 (t.col:Nat)]) (by simp[results,Tryz.results57,go_sem,z0,z1,z2,z3,z4,z5,z6,z7,z8,z9,z10,z11,z12]) rfl ?_;obtain⟨wz,hw⟩:∃ x,x=w7.setCells kr 0 [.string ⟨t.text.toArray⟩,.int .i64 (bb:Nat),.bool false,.int .i64 0,.string ⟨#[]⟩,.string ⟨#[]⟩,.bool false,.slice none 0 0,.slice none 0 0,.int .i64 0,.int .i64 0,.int .i64 (t.line:Nat),.int .i64 (t.col:Nat)]:=⟨_,rfl⟩
 have hg:w7.grownBy wz (some kr):=by rw[hw];exact setCells_grown _ _ _ _
 rw[show ((((((((((((w7.setCell ⟨kr,0,none⟩ (.string ⟨t.text.toArray⟩)).setCell ⟨kr,1,none⟩ (.int .i64 (bb:Nat))).setCell ⟨kr,2,none⟩ (.bool false)).setCell ⟨kr,3,none⟩ (.int .i64 0)).setCell ⟨kr,4,none⟩ (.string ⟨#[]⟩)).setCell ⟨kr,5,none⟩ (.string ⟨#[]⟩)).setCell ⟨kr,6,none⟩ (.bool false)).setCell ⟨kr,7,none⟩ (.slice none 0 0)).setCell ⟨kr,8,none⟩ (.slice none 0 0)).setCell ⟨kr,9,none⟩ (.int .i64 0)).setCell ⟨kr,10,none⟩ (.int .i64 0)).setCell ⟨kr,11,none⟩ (.int .i64 (t.line:Nat))).setCell ⟨kr,12,none⟩ (.int .i64 (t.col:Nat))=wz from hw.symm];clear z0 fz0 z1 fz1 z2 fz2 z3 fz3 z4 fz4 z5 fz5 z6 fz6 z7 fz7 z8 fz8 z9 fz9 z10 fz10 z11 fz11 z12 fz12;replace HP:=h_ (HP.out.store HBr.out (by decide) (by omega) hg);replace HBt:=kG hg HBt;replace HD:=dN HD hg (by omega);have hsz8:=HD.out.size;clear hw hg
 exact⟨by unfold cParam;simp only[pmV,typ,xZ];rw[show (cBase ((s.counted count 6).exp wColon)).1=bb from HBB.out.symm,<-HNt.out],by unfold cParam;rw[show (cBase ((s.counted count 6).exp wColon)).2=sb from HSB.out.symm];exact⟨HP.out,HD.out⟩⟩
end Go.Proofs.YtpclhpfcbjgokaaGreatDoor
