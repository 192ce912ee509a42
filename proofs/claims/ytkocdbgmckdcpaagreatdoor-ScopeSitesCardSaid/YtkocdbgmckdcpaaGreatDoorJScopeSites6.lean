/-
 Joined texts: ScN,SsH,SsM,ScP,ScT,ScC,ScD,PsPe,Rel9,PsPf,PsPg.
-/
import Derived.Maps.OwnSet
import Derived.Test.YtkocdbgmckdcpaaGreatDoorJScopeSites1
import Derived.Test.YtkocdbgmckdcpaaGreatDoorJScopeSites4
import Derived.Test.YtkocdbgmckdcpaaGreatDoorJScopeSites5
set_option maxHeartbeats 32000000
namespace Go.Proofs.YtkocdbgmckdcpaaGreatDoor
set_option maxRecDepth 100000
set_option linter.unusedVariables false
def U.ln:U->Nat | .node _ _ _ _ ln _ _=>ln
def U.cl:U->Nat | .node _ _ _ _ _ cl _=>cl
abbrev Gfn:=Bs->Option FnU
def sigF (f:FnU):List Nat × Nat:=(f.ps.map PmU.b,f.res.b)
def Gfn.fs (G:Gfn):Fs:=fun n=>(G n).map sigF
def Gfn.add (G:Gfn) (f:FnU):Gfn:=if (G f.nm).isSome then G else fun x=>if x=f.nm then some f else G x
def req (e:Option Flt) (ok:Bool) (ln cl c:Nat):Option Flt:=if ok then e else e.or (some (c,ln,cl))
def kPred (F:Fs) (u:U) (s:Ks):Ks:=(kEx F true u s).2.need u.ln u.cl ((kEx F true u s).1==1) 4
def kQPar (s:Ks) (p:PmU):Ks:=⟨if (s.sc p.nm).isNone then s.sc.put p.nm p.b else s.sc,req s.er (s.sc p.nm).isNone p.ln p.cl 3⟩
def sc0:Sc:=fun _=>none
def kQual (F:Fs) (q:QlU) (e:Option Flt):Ks:=kPred F q.body (q.ps.foldl kQPar ⟨sc0,e⟩)
def kKnown (F:Fs) (p:PmU) (s:Ks):Ks:=if p.kn then ⟨s.sc,(kPred F p.ref ⟨s.sc.put wV p.b,s.er⟩).er⟩ else s
def kFPar (F:Fs) (s:Ks) (p:PmU):Ks:=
 let s2:=kKnown F p ⟨s.sc,req s.er (s.sc p.nm).isNone p.ln p.cl 3⟩
 ⟨s2.sc.put p.nm p.b,s2.er⟩
def kFun (F:Fs) (f:FnU) (e:Option Flt):Ks:=
 let s:=kKnown F f.res (f.ps.foldl (kFPar F) ⟨sc0,e⟩)
 let r:=kEx F false f.body s
 r.2.need f.body.ln f.body.cl (r.1==f.res.b) 4
def kQStep (F:Fs) (x:List Bs × Option Flt) (q:QlU):List Bs × Option Flt:=(if x.1.contains q.nm then x.1 else q.nm::x.1,(kQual F q (req x.2 (!x.1.contains q.nm) q.ln q.cl 3)).er)
def kGStep (x:Gfn × Option Flt) (f:FnU):Gfn × Option Flt:=(x.1.add f,req x.2 (x.1 f.nm).isNone f.ln f.cl 3)
abbrev wMain:Bs:=[109,97,105,110]
def hasMain (p:PgU):Bool:=p.fs.any (·.nm==wMain)
def g0:Gfn:=fun _=>none
def kProg (p:PgU):Option Flt:=
 let q:=p.qs.foldl (kQStep g0.fs) ([],none)
 let g:=p.fs.foldl kGStep (g0,q.2)
 p.fs.foldl (fun e f=>(kFun g.1.fs f e).er) (req g.2 (hasMain p) 1 1 5)

abbrev f0:Flt:=(0,0,0)
def lkp (l:List PmU):Sc:=fun x=>l.foldl (fun r p=>if p.nm=x then some p.b else r) none
def twc (l:List PmU) (i:Nat):Flt:=match l[i]? with
 | none=>f0
 | some p=>if (l.take i).any (·.nm==p.nm) then (3,p.ln,p.cl) else f0
def tru (u:U) (l:Sc):Flt:=match aB g0.fs true u l with
 | .error e=>e
 | .ok b=>if b=1 then f0 else (4,u.ln,u.cl)
def bod (F:Fs) (f:FnU):Flt:=match aB F false f.body (lkp f.ps) with
 | .error e=>e
 | .ok b=>if b=f.res.b then f0 else (4,f.body.ln,f.body.cl)
def vOf (p:PmU):PmU:=⟨wV,p.b,false,u0,0,0⟩
def fQual (l:List QlU) (i:Nat):List Flt:=match l[i]? with
 | none=>[]
 | some q=>((l.take i).filter (·.nm==q.nm)).map (fun _=>(3,q.ln,q.cl))++(List.range q.ps.length).map (twc q.ps)++[tru q.body (lkp q.ps)]
def fDup (l:List FnU) (i:Nat):List Flt:=match l[i]? with
 | none=>[]
 | some f=>((l.take i).filter (·.nm==f.nm)).map (fun _=>(3,f.ln,f.cl))
def fPar (l:List PmU) (k:Nat):List Flt:=match l[k]? with
 | none=>[]
 | some q=>twc l k::(if q.kn then [tru q.ref (lkp (l.take k++[vOf q]))] else [])
def fFun (F:Fs) (f:FnU):List Flt:=(List.range f.ps.length).flatMap (fPar f.ps)++(if f.res.kn then [tru f.res.ref (lkp (f.ps++[vOf f.res]))] else [])++[bod F f]
def fndF (l:List FnU):Fs:=fun n=>(l.find? (·.nm==n)).map sigF
def flts (p:PgU):List Flt:=(List.range p.qs.length).flatMap (fQual p.qs)++(List.range p.fs.length).flatMap (fDup p.fs)++(if hasMain p then [] else [(5,1,1)])++p.fs.flatMap (fFun (fndF p.fs))
def fstF (l:List Flt):Option Flt:=l.find? (fun f=>decide (f.1≠0))
theorem fst_app (a b:List Flt):fstF (a++b)=(fstF a).or (fstF b):=by unfold fstF;rw[List.find?_append]
theorem fst_one {c ln cl:Nat} (h:c≠0):fstF [(c,ln,cl)]=some (c,ln,cl):=by unfold fstF;rw[List.find?_cons_of_pos (by simpa using h)]
theorem req_or (e:Option Flt) (ok:Bool) (ln cl:Nat) {c:Nat} (h:c≠0):req e ok ln cl c=e.or (fstF (if ok then [] else [(c,ln,cl)])):=by
 unfold req
 cases ok
 ·simp only[Bool.false_eq_true,if_false];rw[fst_one h]
 simp only[if_true];show e=e.or none;rw[Option.or_none]
theorem lkp_snoc (l:List PmU) (p:PmU):lkp (l++[p])=(lkp l).put p.nm p.b:=by
 funext x
 unfold lkp Sc.put;rw[List.foldl_append,List.foldl_cons,List.foldl_nil]
 by_cases h:p.nm=x
 ·rw[if_pos h,if_pos h.symm]
 rw[if_neg h,if_neg fun e=>h e.symm]
theorem lkp_has (l:List PmU) (x:Bs):(lkp l x).isNone = !(l.any (·.nm==x)):=by
 have key:∀ n (l:List PmU),l.length=n->(lkp l x).isNone = !(l.any (·.nm==x)):=by
  intro n
  induction n with
  | zero=>intro l h;rw[List.eq_nil_of_length_eq_zero h];rfl
  | succ n ih =>
   intro l h;have hne:l ≠ []:=fun e=>by rw[e] at h;cases h
   obtain⟨a,b,rfl⟩:∃ a b,l=a++[b]:=⟨l.dropLast,l.getLast hne,(List.dropLast_concat_getLast hne).symm⟩
   rw[lkp_snoc,List.any_append,Sc.put];have ih:=ih a (by simpa using h)
   by_cases hb:x=b.nm
   ·rw[if_pos hb];simp[hb]
   rw[if_neg hb,ih];simp;intro _ e;exact hb e.symm
 exact key _ l rfl
def ANz (g:Af):Prop:=∀ l e,g l=.error e->e.1≠0
theorem anz_af {gs:List Af} (h:∀ g ∈ gs,ANz g) (i:Nat):ANz (af gs i):=by
 unfold af
 cases hi:gs[i]? with
 | none=>intro l e h;cases h
 | some f=>exact h f (List.mem_of_getElem? hi)
theorem anz_run:∀ {gs:List Af},(∀ g ∈ gs,ANz g)->∀ l e,aRun gs l=.error e->e.1≠0
 | [],_,_,_,h=>by cases h
 | g::gs,hg,l,e,h=>by
  rw[aRun] at h
  split at h
  ·rename_i e' he;injection h with h;subst h;exact hg g (by simp) _ _ he
  split at h
  ·rename_i e' he;injection h with h;subst h;exact anz_run (fun x hx=>hg x (by simp[hx])) _ _ he
  cases h
theorem anz_node (F:Fs) (rf:Bool) (k:Nat) (nm ot:Bs) (ln cl:Nat) (ps:Bool) {gs:List Af} (hg:∀ g ∈ gs,ANz g):ANz (aNode F rf k nm ot ln cl ps gs):=by
 have q1:∀ {c:Nat} {e:Flt} {β:Type},(.error (c,ln,cl):Except Flt β)=.error e->c≠0->e.1≠0:=fun h hc=>by injection h with h;subst h;exact hc
 intro l e h;unfold aNode at h
 split at h
 ·unfold aLet at h
  split at h
  ·rename_i e' he;injection h with h;subst h;exact anz_af hg 0 _ _ he
  split at h;exact q1 h (by decide)
  split at h;exact q1 h (by decide)
  exact anz_af hg 1 _ _ h
 split at h
 ·unfold aMatch at h
  split at h
  ·rename_i e' he;injection h with h;subst h;exact anz_af hg 0 _ _ he
  split at h;exact q1 h (by decide)
  split at h;exact q1 h (by decide)
  split at h;exact q1 h (by decide)
  split at h
  ·rename_i e' he;injection h with h;subst h;exact anz_af hg 1 _ _ he
  split at h
  ·rename_i e' he;injection h with h;subst h;exact anz_af hg 2 _ _ he
  split at h;exact q1 h (by decide)
  cases h
 split at h
 ·unfold aAssert at h
  split at h
  ·rename_i e' he;injection h with h;subst h;exact anz_af hg 0 _ _ he
  split at h;exact q1 h (by decide)
  split at h;exact q1 h (by decide)
  exact anz_af hg 1 _ _ h
 split at h
 ·rename_i e' he;injection h with h;subst h;exact anz_run hg _ _ he
 unfold aRest at h
 split at h
 ·unfold aVar at h;split at h;exact q1 h (by decide);cases h
 split at h
 ·unfold aCall at h
  split at h;exact q1 h (by decide)
  split at h;exact q1 h (by decide)
  split at h;cases h
  exact q1 h (by decide)
 split at h
 ·unfold aIf at h
  split at h;exact q1 h (by decide)
  split at h;exact q1 h (by decide)
  cases h
 split at h
 ·unfold aEq at h
  split at h;exact q1 h (by decide)
  cases h
 unfold aOp at h
 split at h;exact q1 h (by decide)
 split at h;exact q1 h (by decide)
 split at h;exact q1 h (by decide)
 cases h
mutual
theorem anz_b (F:Fs) (rf:Bool):∀ u:U,ANz (aB F rf u)
 | .node k nm ot z ln cl ks=>by rw[aB];exact anz_node _ _ _ _ _ _ _ _ (anz_bs F rf ks)
theorem anz_bs (F:Fs) (rf:Bool):∀ us:List U,∀ g ∈ aBs F rf us,ANz g
 | [],f,h=>by rw[aBs] at h;cases h
 | u::us,f,h=>by
  rw[aBs] at h;rcases List.mem_cons.1 h with rfl | h
  ·exact anz_b F rf u
  exact anz_bs F rf us f h
end
theorem need_or (s:Ks) (ln cl:Nat) (ok:Bool) (c:Nat):(s.need ln cl ok c).er=req s.er ok ln cl c:=by unfold Ks.need req;split<;>rfl
theorem pred_t (F:Fs) (u:U) (s:Ks) (l:Sc) (h:s.er=none->s.sc=l):(kPred F u s).er=s.er.or (fstF [tru u l]):=by
 obtain⟨sc,er⟩:=s;unfold kPred
 cases er with
 | some e=>rw[need_er (kst_b F true u _ e rfl)];rfl
 | none =>
  obtain rfl:=h rfl;have ha:=ka_b F g0.fs true (fun h=>by cases h) u sc;rw[need_or];unfold tru
  cases hg:aB g0.fs true u sc with
  | error e =>
   rw[hg] at ha;simp only at ha ⊢;unfold req;rw[ha,Option.none_or];have hz:=anz_b g0.fs true u _ _ hg;obtain⟨c,ln,cl⟩:=e;rw[fst_one hz]
   split<;>rfl
  | ok b =>
   rw[hg] at ha;simp only at ha ⊢;rw[ha];simp only
   by_cases hb:b=1
   ·subst hb;rfl
   rw[if_neg hb,beq_eq_false_iff_ne.2 hb,fst_one (by decide)];rfl
theorem body_t (F:Fs) (f:FnU) (s:Ks) (h:s.er=none->s.sc=lkp f.ps):((kEx F false f.body s).2.need f.body.ln f.body.cl ((kEx F false f.body s).1==f.res.b) 4).er=s.er.or (fstF [bod F f]):=by
 obtain⟨sc,er⟩:=s
 cases er with
 | some e=>rw[need_er (kst_b F false f.body _ e rfl)];rfl
 | none =>
  obtain rfl:=h rfl;have ha:=ka_b F F false (fun _=>rfl) f.body (lkp f.ps);rw[need_or];unfold bod
  cases hg:aB F false f.body (lkp f.ps) with
  | error e =>
   rw[hg] at ha;simp only at ha ⊢;unfold req;rw[ha,Option.none_or];have hz:=anz_b F false f.body _ _ hg;obtain⟨c,ln,cl⟩:=e;rw[fst_one hz]
   split<;>rfl
  | ok b =>
   rw[hg] at ha;simp only at ha ⊢;rw[ha];simp only
   by_cases hb:b=f.res.b
   ·rw[if_pos hb,hb,beq_self_eq_true];rfl
   rw[if_neg hb,beq_eq_false_iff_ne.2 hb,fst_one (by decide)];rfl
theorem twc_snoc (a:List PmU) (p:PmU) (b:List PmU):twc (a++p::b) a.length=if a.any (·.nm==p.nm) then (3,p.ln,p.cl) else f0:=by
 unfold twc;rw[List.getElem?_append_right (Nat.le_refl _),Nat.sub_self];simp only[gsz];rw[List.take_left']
 rfl
theorem req_twc (e:Option Flt) (a b:List PmU) (p:PmU):req e (lkp a p.nm).isNone p.ln p.cl 3=e.or (fstF [twc (a++p::b) a.length]):=by
 rw[twc_snoc,lkp_has,req_or _ _ _ _ (by decide)]
 cases a.any (·.nm==p.nm)<;>rfl
theorem req_some {e:Flt} (ok:Bool) (ln cl c:Nat):req (some e) ok ln cl c=some e:=by unfold req;split<;>rfl
theorem fst_cons (f:Flt) (l:List Flt):fstF (f::l)=(fstF [f]).or (fstF l):=fst_app [f] l
theorem qpar_t (e:Option Flt):∀ (b a:List PmU) (s:Ks),s.er=e.or (fstF ((List.range a.length).map (twc (a++b))))->(s.er=none->s.sc=lkp a) ->
  (b.foldl kQPar s).er=e.or (fstF ((List.range (a++b).length).map (twc (a++b))))/\((b.foldl kQPar s).er=none->(b.foldl kQPar s).sc=lkp (a++b))
 | [],a,s,h1,h2=>by simp only[List.append_nil] at h1 ⊢;exact⟨h1,h2⟩
 | p::b,a,s,h1,h2=>by
  rw[List.foldl_cons];have h:=qpar_t e b (a++[p]) (kQPar s p) ?_ ?_
  ·simpa using h
  ·rw[List.append_assoc,List.singleton_append,lsa,List.length_singleton,List.range_succ,List.map_append,List.map_singleton,fst_app,<-Option.or_assoc,<-h1];unfold kQPar;simp only
   cases hs:s.er with
   | some x=>rw[req_some];rfl
   | none=>rw[h2 hs,req_twc _ a b p]
  unfold kQPar;simp only;intro h
  cases hs:s.er with
  | some x=>rw[hs,req_some] at h;cases h
  | none =>
   rw[hs] at h
   have hn:(s.sc p.nm).isNone=true:=by
    cases hx:(s.sc p.nm).isNone with
    | true=>rfl
    | false=>rw[hx] at h;cases h
   rw[if_pos hn,lkp_snoc,h2 hs]
theorem qual_t (F:Fs) (q:QlU) (e:Option Flt):(kQual F q e).er=e.or (fstF ((List.range q.ps.length).map (twc q.ps)++[tru q.body (lkp q.ps)])):=by
 unfold kQual;obtain⟨h1,h2⟩:=qpar_t e q.ps [] ⟨sc0,e⟩ (by show e=e.or none;rw[Option.or_none]) (fun _=>rfl);rw[List.nil_append] at h1 h2;rw[pred_t F q.body _ _ h2,h1,fst_app,Option.or_assoc]
theorem known_t (F:Fs) (p:PmU) (s:Ks) (l:List PmU) (h:s.er=none->s.sc=lkp l) :
  (kKnown F p s).er=s.er.or (fstF (if p.kn then [tru p.ref (lkp (l++[vOf p]))] else []))/\(kKnown F p s).sc=s.sc:=by
 unfold kKnown
 split
 ·refine⟨?_,rfl⟩;simp only;rw[pred_t F p.ref _ (lkp (l++[vOf p])) (fun he=>by rw[lkp_snoc];show Sc.put s.sc wV p.b=_;rw[h he];rfl)]
 exact⟨by show _=s.er.or none;rw[Option.or_none],rfl⟩
theorem fpar_t (F:Fs) (e:Option Flt):∀ (b a:List PmU) (s:Ks),s.er=e.or (fstF ((List.range a.length).flatMap (fPar (a++b))))->(s.er=none->s.sc=lkp a) ->
  (b.foldl (kFPar F) s).er=e.or (fstF ((List.range (a++b).length).flatMap (fPar (a++b))))/\((b.foldl (kFPar F) s).er=none->(b.foldl (kFPar F) s).sc=lkp (a++b))
 | [],a,s,h1,h2=>by simp only[List.append_nil] at h1 ⊢;exact⟨h1,h2⟩
 | p::b,a,s,h1,h2=>by
  rw[List.foldl_cons]
  have hk:=known_t F p ⟨s.sc,req s.er (s.sc p.nm).isNone p.ln p.cl 3⟩ a (fun h=>by
   cases hs:s.er with
   | some x=>simp only[hs,req_some] at h;cases h
   | none=>exact h2 hs)
  have he:(kFPar F s p).er=s.er.or (fstF (fPar (a++p::b) a.length)):=by
   unfold kFPar;simp only;rw[hk.1]
   have hf:fPar (a++p::b) a.length=twc (a++p::b) a.length::(if p.kn then [tru p.ref (lkp (a++[vOf p]))] else []):=by
    unfold fPar;rw[List.getElem?_append_right (Nat.le_refl _),Nat.sub_self];simp only[gsz];rw[List.take_left']
    rfl
   rw[hf,fst_cons,<-Option.or_assoc]
   congr 1
   cases hs:s.er with
   | some x=>rw[req_some];rfl
   | none=>rw[h2 hs,req_twc _ a b p]
  have h:=fpar_t F e b (a++[p]) (kFPar F s p) ?_ ?_
  ·simpa using h
  ·rw[List.append_assoc,List.singleton_append,lsa,List.length_singleton,List.range_succ,List.flatMap_append,fst_app,<-Option.or_assoc,<-h1,he]
   simp
  intro h;rw[he] at h
  cases hs:s.er with
  | some x=>rw[hs] at h;cases h
  | none=>rw[lkp_snoc,<-h2 hs];show Sc.put (kKnown F p ⟨s.sc,req s.er (s.sc p.nm).isNone p.ln p.cl 3⟩).sc p.nm p.b=_;rw[hk.2]
theorem fun_t (F:Fs) (f:FnU) (e:Option Flt):(kFun F f e).er=e.or (fstF (fFun F f)):=by
 unfold kFun;obtain⟨h1,h2⟩:=fpar_t F e f.ps [] ⟨sc0,e⟩ (by show e=e.or none;rw[Option.or_none]) (fun _=>rfl);rw[List.nil_append] at h1 h2;obtain⟨k1,k2⟩:=known_t F f.res _ f.ps h2;simp only;rw[body_t F f _ (fun h=>by rw[k2];exact h2 (by rw[k1] at h;cases hx:(f.ps.foldl (kFPar F) ⟨sc0,e⟩).er with | none=>rfl | some x=>rw[hx] at h;cases h))];rw[k1,h1];unfold fFun;rw[fst_app,fst_app,Option.or_assoc,Option.or_assoc,Option.or_assoc]
theorem fst_same {α:Type} (l:List α) {c ln cl:Nat} (h:c≠0):fstF (l.map (fun _=>(c,ln,cl)))=fstF (if l.isEmpty then [] else [(c,ln,cl)]):=by
 cases l with
 | nil=>rfl
 | cons a l=>rw[List.map_cons,fst_cons,fst_one h];simp only[List.isEmpty_cons,Bool.false_eq_true,if_false];rw[fst_one h];rfl
theorem filter_any {α:Type} (l:List α) (f:α->Bool):(l.filter f).isEmpty = !(l.any f):=by
 induction l with
 | nil=>rfl
 | cons a l ih =>
  rw[List.filter_cons,List.any_cons]
  cases f a
  ·simpa using ih
  rfl
theorem quals_t (F:Fs):∀ (b a:List QlU) (x:List Bs × Option Flt),(∀ n,x.1.contains n=a.any (·.nm==n))->x.2=fstF ((List.range a.length).flatMap (fQual (a++b))) ->
  (b.foldl (kQStep F) x).2=fstF ((List.range (a++b).length).flatMap (fQual (a++b)))
 | [],a,x,h1,h2=>by simp only[List.append_nil] at h2 ⊢;exact h2
 | q::b,a,x,h1,h2=>by
  rw[List.foldl_cons];have h:=quals_t F b (a++[q]) (kQStep F x q) ?_ ?_
  ·simpa using h
  ·intro n;unfold kQStep;simp only;rw[List.any_append,<-h1 n]
   by_cases hc:x.1.contains q.nm
   ·rw[if_pos hc]
    by_cases hn:q.nm=n
    ·subst hn;rw[hc];rfl
    simp[hn]
   rw[if_neg hc,List.contains_cons]
   by_cases hn:q.nm=n
   ·subst hn;simp
   rw[beq_eq_false_iff_ne.2 (show n≠q.nm from fun e=>hn e.symm),List.any_cons,List.any_nil,beq_eq_false_iff_ne.2 hn,Bool.false_or,Bool.or_false,Bool.or_false]
  have hf:fQual (a++q::b) a.length=(a.filter (·.nm==q.nm)).map (fun _=>(3,q.ln,q.cl))++((List.range q.ps.length).map (twc q.ps)++[tru q.body (lkp q.ps)]):=by
   unfold fQual;rw[List.getElem?_append_right (Nat.le_refl _),Nat.sub_self];simp only[gsz];rw[List.take_left' rfl,List.append_assoc]
  rw[List.append_assoc,List.singleton_append,lsa,List.length_singleton,List.range_succ,List.flatMap_append,fst_app,<-h2];unfold kQStep;simp only[List.flatMap_cons,List.flatMap_nil,List.append_nil];rw[qual_t,req_or _ _ _ _ (by decide),hf,fst_app (List.map (fun _=>(3,q.ln,q.cl)) _),fst_same _ (by decide),filter_any,h1,Option.or_assoc]
theorem gs_step (G:Gfn) (f:FnU) (a:List FnU) (h:∀ n,G n=a.find? (·.nm==n)):∀ n,(G.add f) n=(a++[f]).find? (·.nm==n):=by
 intro n;rw[List.find?_append,<-h n];unfold Gfn.add
 by_cases hs:(G f.nm).isSome
 ·rw[if_pos hs]
  by_cases hn:f.nm=n
  ·subst hn;obtain⟨y,hy⟩:=Option.isSome_iff_exists.1 hs;rw[hy];rfl
  rw[List.find?_cons_of_neg (by simpa using hn),List.find?_nil,Option.or_none]
 rw[if_neg hs]
 by_cases hn:n=f.nm
 ·subst hn;have hg:G f.nm=none:=by cases hx:G f.nm with | none=>rfl | some y=>rw[hx] at hs;exact absurd rfl hs
  rw[if_pos rfl,hg,List.find?_cons_of_pos (by simp)];rfl
 rw[if_neg hn,List.find?_cons_of_neg (by simpa using fun e=>hn e.symm),List.find?_nil,Option.or_none]
theorem funs_t (e:Option Flt):∀ (b a:List FnU) (x:Gfn × Option Flt),(∀ n,x.1 n=a.find? (·.nm==n))->x.2=e.or (fstF ((List.range a.length).flatMap (fDup (a++b)))) ->
  (∀ n,(b.foldl kGStep x).1 n=(a++b).find? (·.nm==n))/\(b.foldl kGStep x).2=e.or (fstF ((List.range (a++b).length).flatMap (fDup (a++b))))
 | [],a,x,h1,h2=>by simp only[List.append_nil] at h2 ⊢;exact⟨h1,h2⟩
 | f::b,a,x,h1,h2=>by
  rw[List.foldl_cons];have h:=funs_t e b (a++[f]) (kGStep x f) (gs_step x.1 f a h1) ?_
  ·simpa using h
  have hf:fDup (a++f::b) a.length=(a.filter (·.nm==f.nm)).map (fun _=>(3,f.ln,f.cl)):=by
   unfold fDup;rw[List.getElem?_append_right (Nat.le_refl _),Nat.sub_self];simp only[gsz];rw[List.take_left' rfl]
  rw[List.append_assoc,List.singleton_append,lsa,List.length_singleton,List.range_succ,List.flatMap_append,fst_app,<-Option.or_assoc,<-h2];unfold kGStep;simp only[List.flatMap_cons,List.flatMap_nil,List.append_nil];rw[req_or _ _ _ _ (by decide),hf,fst_same _ (by decide),filter_any,h1]
  congr 2
  cases hx:a.any (·.nm==f.nm) with
  | true =>
   obtain⟨y,hy,hn⟩:=List.any_eq_true.1 hx
   cases hz:a.find? (·.nm==f.nm) with
   | none=>exact absurd hn (by have:=List.find?_eq_none.1 hz y hy;simpa using this)
   | some z=>rfl
  | false =>
   have:a.find? (·.nm==f.nm)=none:=List.find?_eq_none.2 fun y hy h=>by
    have:=List.any_eq_false.1 hx y hy;exact this h
   rw[this];rfl
theorem funs2_t (F:Fs):∀ (b:List FnU) (e:Option Flt),b.foldl (fun e f=>(kFun F f e).er) e=e.or (fstF (b.flatMap (fFun F)))
 | [],e=>by show e=e.or none;rw[Option.or_none]
 | f::b,e=>by rw[List.foldl_cons,funs2_t F b,fun_t,List.flatMap_cons,fst_app,Option.or_assoc]
theorem prog_t (p:PgU):kProg p=fstF (flts p):=by
 unfold kProg flts;have h1:=quals_t g0.fs p.qs [] ([],none) (fun n=>rfl) rfl;rw[List.nil_append] at h1;obtain⟨h2,h3⟩:=funs_t (p.qs.foldl (kQStep g0.fs) ([],none)).2 p.fs [] (g0,(p.qs.foldl (kQStep g0.fs) ([],none)).2) (fun n=>rfl) (by show _=Option.or _ none;rw[Option.or_none]);rw[List.nil_append] at h2 h3
 have hF:Gfn.fs (p.fs.foldl kGStep (g0,(p.qs.foldl (kQStep g0.fs) ([],none)).2)).1=fndF p.fs:=by
  funext n;show Option.map sigF _=_;rw[h2 n];rfl
 simp only;rw[hF,funs2_t,req_or _ _ _ _ (by decide),h3,h1,fst_app,fst_app,fst_app]
end Go.Proofs.YtkocdbgmckdcpaaGreatDoor
namespace Go.Proofs.YtkocdbgmckdcpaaGreatDoor
open Go.RowKit Go.Shelf
set_option maxRecDepth 100000
set_option linter.unusedVariables false
set_option linter.unusedSimpArgs false
attribute [local go_sem] Oper.semAt_some
theorem z_at {w:World} {g n:Nat} {cur:Array Value} {E:TypeId} {flat:List Value} (h:w.heap[g]?=some (.cells cur E (0,0))) (hn:(n+1)*8<=cur.size) (ht:cur.toList.take ((n+1)*8)=flat++zE) (hfl:flat.length=n*8) (j:Nat) {v:Value} (hv:zE[j]?=some v):w.cell? ⟨g,n*8+j,none⟩=some v:=by
 refine cell_at h _ ?_;have hj:j<8:=by have:=(List.getElem?_eq_some_iff.1 hv).1;simpa using this
 rw[<-Array.getElem?_toList];have h1:(cur.toList.take ((n+1)*8))[n*8+j]?=cur.toList[n*8+j]?:=by rw[List.getElem?_take_of_lt (by omega)]
 rw[<-h1,ht,List.getElem?_append_right (by omega),hfl,show n*8+j - n*8=j by omega];exact hv
theorem zip_one (T:Array Value) (k:Nat) (v:Value):(#[k].zip #[v]).foldl (fun t (x:Nat × Value)=>t.setIfInBounds x.1 x.2) T=T.setIfInBounds k v:=by simp
def asu (us:List U):List U:=us.filter (fun u=>u.k==28)
def pltU (u v:U):Prop:=u.ln<v.ln\/u.ln=v.ln/\u.cl<v.cl
theorem Um.ks {w:World} {S:Nat->Prop} {x:X} {u:U} (h:Um w S x u):x.k=(u.k:Int)/\x.ln=(u.ln:Int)/\x.cl=(u.cl:Int):=by
 obtain⟨k,nm,ot,z,ln,cl,ks⟩:=u;rw[Um] at h;exact⟨h.1.1,h.1.2.2.2.2.1,h.1.2.2.2.2.2⟩
theorem Al.cons {w:World} {S:Nat->Prop} {y:X} {ys:List X} {u:U} {us:List U}:Al w S (y::ys) (u::us) ↔ Um w S y u/\Al w S ys us:=by
 constructor
 ·intro h;exact⟨h.2 0 (by simp) (by simp),by have:=h.1;simpa using this,fun i h1 h2=>h.2 (i+1) (by simpa using h1) (by simpa using h2)⟩
 intro h;have:=(Al.one h.1).app h.2
 simpa using this
theorem Al.asx {w:World} {S:Nat->Prop}:∀ {ys:List X} {us:List U},Al w S ys us->Al w S (asx ys) (asu us)
 | [],[],_=>Al.nil w S
 | [],_::_,h=>absurd h.1 (by simp)
 | _::_,[],h=>absurd h.1 (by simp)
 | y::ys,u::us,h=>by
  have h:=Al.cons.1 h;have hk:=h.1.ks.1;have ih:=Al.asx h.2
  by_cases h28:u.k=28
  ·have hy:y.k=28:=by rw[hk,h28];rfl
   have e1:Go.Proofs.YtkocdbgmckdcpaaGreatDoor.asx (y::ys)=y::Go.Proofs.YtkocdbgmckdcpaaGreatDoor.asx ys:=by simp[Go.Proofs.YtkocdbgmckdcpaaGreatDoor.asx,hy]
   have e2:asu (u::us)=u::asu us:=by simp[asu,h28]
   rw[e1,e2];exact Al.cons.2 ⟨h.1,ih⟩
  have hy:y.k≠28:=by rw[hk];omega
  have e1:Go.Proofs.YtkocdbgmckdcpaaGreatDoor.asx (y::ys)=Go.Proofs.YtkocdbgmckdcpaaGreatDoor.asx ys:=by simp[Go.Proofs.YtkocdbgmckdcpaaGreatDoor.asx,hy]
  have e2:asu (u::us)=asu us:=by simp[asu,h28]
  rw[e1,e2];exact ih
theorem Al.plt {w:World} {S:Nat->Prop} {ys:List X} {us:List U} (h:Al w S ys us) (hp:us.Pairwise pltU):∀ i j (hj:j<ys.length) (hij:i<j),pltX (ys[i]'(Nat.lt_trans hij hj)) ys[j]:=by
 intro i j hj hij;have hl:=h.1;have h1:=(h.2 i (by omega) (by omega)).ks;have h2:=(h.2 j hj (by omega)).ks;have h3:=List.pairwise_iff_getElem.1 hp i j (by omega) (by omega) hij;unfold pltX;unfold pltU at h3;rw[h1.2.1,h1.2.2,h2.2.1,h2.2.2]
 omega
def AsI (n0 ka:Nat) (w:World) (pre:List X) (W:World):Prop:=K8 n0 w W/\∃ v,W.heap[ka]?=some (.cells #[v] 36 (0,0))/\W.ownsRow (ka+2) 46 8 v (asx pre).length ((asx pre).flatMap xc)/\(v=.slice none 0 0\/(asx pre).length≠0)
theorem AsI.own (n0 ka:Nat) (w:World) (hn:n0<=w.heap.size):OwnFrom w.heap.size (AsI n0 ka w):=by
 rintro pre W W' row ⟨h1,v,h2,h3,h4⟩ hg hr
 have hk:∀ r,row=some r->∀ c T,W.heap[r]? ≠ some (.cells c T (0,0)):=fun r e c T h=>by
  obtain⟨-,o,ho,hc⟩:=hr r e;rw[h] at ho;injection ho with ho;subst ho;cases hc
 refine⟨h1.trans ⟨⟨hg.os,hg.tape,hg.output,hg.size,fun k hk2=>?_⟩,fun k c T hc _=>?_⟩,v,?_,?_,h4⟩
 ·have:=h1.1.size;exact hg.block k (by omega) (fun e=>by have:=(hr k e.symm).1;omega)
 ·exact (hg.block k (lt_of_block hc) (fun e=>hk k e.symm _ _ hc)).trans hc
 ·exact (hg.block ka (lt_of_block h2) (fun e=>hk ka e.symm _ _ h2)).trans h2
 refine h3.kept hg ?_
 cases hv:v.ownBlock with
 | none=>exact .inl rfl
 | some j =>
  refine .inr (fun e=>?_);rcases h3.2 with ⟨rfl,_⟩ | ⟨g',cap',cur',rfl,_,hg',_⟩
  ·cases hv
  injection hv with hv;subst hv;exact hk _ e.symm _ _ hg'
theorem asserts_s (x:X) (u:U) (w:World) (S:Nat->Prop) (hu:Um w S x u) (hN:(uPre u).length<=1000000) (hP:(asu (uPre u)).Pairwise pltU) :
  Calls Tryz.prog 28 #[xv x] w fun e w'=>Below w.heap.size w w'/\∃ ko kc zs,e=.returned (.slice ko zs.length kc)/\(.slice ko zs.length kc=Value.slice none 0 0\/zs.length≠0)/\Al w' (fun g=>S g/\g<w.heap.size) zs (asu (uPre u))/\∀ i (h:i<zs.length),At8 w' ko i zs[i]:=by
 have HU:=h_ hu.lt;have HNN:=h_ hN;have HP:=h_ hP;clear hu hN hP;obtain⟨w1,ke,hw1,hke,hb1,hs1,HBe⟩:=newb w #[.int .i64 x.k,.string x.nm,.string x.ot,.bool x.b,.slice x.ao x.n x.c,.slice x.ko x.kn x.kc,.int .i64 x.ln,.int .i64 x.cl] 46;obtain⟨w2,ka,hw2,hka,hb2,hs2,HBa⟩:=newb w1 #[.slice none 0 0] 36;obtain⟨w3,kf,hw3,hkf,hb3,hs3,HBf⟩:=newb w2 #[.int .i64 x.k,.string x.nm,.string x.ot,.bool x.b,.slice x.ao x.n x.c,.slice x.ko x.kn x.kc,.int .i64 x.ln,.int .i64 x.cl] 46;have hke2:=hke.symm;have hka2:=hka.symm;have hkf2:=hkf.symm;replace HBe:=kB hb2 HBe;have HB02:=h_ (hb1.trans (hb2.mono hb1.size));have HB03:=h_ ((hb1.trans (hb2.mono hb1.size)).trans (hb3.mono (by omega)));replace HBa:=kB hb3 HBa;obtain⟨c0,c1,c2,c3,c4,c5,c6,c7⟩:=cl8 HBe.out;have hkk1:ka=ke+1:=by rw[hka,hs1]
 have hkk2:kf=ka+1:=by rw[hkf,hs2]
 have hk0:ke=w.heap.size:=hke;have HS3:=h_ hs3;have HKK:=h_ (And.intro hkk1 (And.intro hkk2 hk0));clear hb1 hb2 hb3 hke hka hkf hs1 hs2 hs3 hkk1 hkk2 hk0;refine callsIn_wide.1 (callsIn_of_wp_marks (F:=Fence.wide) (n:=9) Tryz.func28 rfl trivial ?_ rfl);simp only[xv,Tryz.ntmps28,List.size_toArray,lsc,lsn,Nat.reduceAdd,Nat.reduceSub,Array.replicate_succ,Array.replicate_zero,List.push_toArray,List.append_toArray,List.nil_append,List.cons_append];refine wpIn_wide.2 ?_;go_wp2_with (first | (refine (parts_p ⟨x.k,x.nm,x.ot,x.b,x.ao,x.n,x.c,x.ko,x.kn,x.kc,x.ln,x.cl⟩ _).mono ?_;rintro e w' ⟨rfl,rfl⟩;rw[hw3,hkf2]) | fail)
 clear c0 c1 c2 c3 c4 c5 c6 c7 hw1 hw2 hw3;obtain⟨hkk1,hkk2,hk0⟩:=HKK.out;have hs3:=HS3.out;have hn3:w.heap.size<=w3.heap.size:=by omega
 refine (wpIn_wide (n:=9)).1 ?_
 refine wpIn_rangeFunc_ownH rfl (by decide) (gf:=82) (lb:=#[.pointer (some ⟨kf,0,none⟩)]) rfl trivial (enters_of Tryz.func82 (by kernel_rfl) rfl) (parts1_stops Fence.wide rfl (fun _=>trivial) rfl 8 w.heap.size kf S x u w3 hn3 HBf.out (HU.out.keep fun g hg=>HB03.out.block g hg.2)) (fun h k=>h.trans k) (fun W l o o' hl h hc _=>K8.put (by omega) h hc) (Below.refl _ _) (fun _=>rfl)
  (AsI w.heap.size ka w3) (fun _ _ _=>False) (AsI.own _ _ _ hn3) (fun _ _ _ _ _ hs _ _=>hs) ⟨K8.refl _ _,.slice none 0 0,HBa.out,World.ownsRow_nil _ _ _ _,.inl rfl⟩
  (fun y a' W=>∃ kp,W.heap[kp]?=some (.cells #[.int .i64 y.k,.string y.nm,.string y.ot,.bool y.b,.slice y.ao y.n y.c,.slice y.ko y.kn y.kc,.int .i64 y.ln,.int .i64 y.cl] 46 (0,0))/\a'=⟨#[.agg #[.int .i64 x.k,.string x.nm,.string x.ot,.bool x.b,.slice x.ao x.n x.c,.slice x.ko x.kn x.kc,.int .i64 x.ln,.int .i64 x.cl],.pointer (some ⟨ke,0,none⟩),.slice none 0 0,.pointer (some ⟨ka,0,none⟩),.pointer (some ⟨kp,0,none⟩),.agg #[.int .i64 x.k,.string x.nm,.string x.ot,.bool x.b,.slice x.ao x.n x.c,.slice x.ko x.kn x.kc,.int .i64 x.ln,.int .i64 x.cl],.func (.func 82) #[] #[.pointer (some ⟨kf,0,none⟩)],xv y,undef,undef,undef,undef,undef,undef,undef,undef,undef,undef,undef,undef],[]⟩) ?hax ?assign ?body ?done ?stop
 case hax =>
  rintro y a' _ W W' row ⟨kp,h1,h2⟩ hg hr;exact⟨kp,(hg.block kp (lt_of_block h1) (fun e=>by obtain⟨-,o,ho,hc⟩:=hr kp e.symm;rw[h1] at ho;injection ho with ho;subst ho;cases hc)).trans h1,h2⟩
 case assign =>
  rintro l pre y W K hI hK;have HK0:=h_ hK;have HI0:=h_ hI;clear hK hI;rw[zip_one];simp only[xv,List.setIfInBounds_toArray,List.set_cons_succ,List.set_cons_zero]
  gi_wp2_with fail
  refine HK0.out _ _ ((KeepsOthers.alloc _ _).from _) (K8.of ((Below.refl _ _).alloc (Nat.le_refl _) _) (Nat.le_trans hn3 HI0.out.1.1.size)) ((AsI.own w.heap.size ka w3 hn3).alloc _ HI0.out) ⟨W.heap.size,made_at W _ _ rfl,?_⟩
  rfl
 case body =>
  clear hkk1 hkk2 hk0 hs3;rintro l pre y a' W hl - hI ⟨kp,hB,rfl⟩ hlen;obtain⟨hK,v,hva,hrow,hvn⟩:=hI;obtain⟨vo,vc,rfl,hvc⟩:=own_form hrow;obtain⟨n,hn⟩:∃ n,n=(asx pre).length:=⟨_,rfl⟩
  obtain⟨flat,hflat⟩:∃ f,f=(asx pre).flatMap xc:=⟨_,rfl⟩
  rw[<-hn] at hva hrow hvn;rw[<-hflat] at hrow;have hnl:n<=1000000:=by have:=asx_len pre;have:=HNN.out;omega
  have HBa:=h_ hva;have HBp:=h_ hB;have HK:=h_ hK;have HROW:=h_ hrow;have HVN:=h_ hvn;have HN:=h_ hn;have HF:=h_ hflat;clear hva hB hK hrow hvn hn hflat hlen hvc
  by_cases hk:y.k=28
  ·have HKY:=h_ hk;have hk2:(y.k==28)=true:=by simp[hk]
   have c0:=cell_at (v:=.int .i64 y.k) HBp.out 0 rfl;clear hk;simp only[xv]
   gi_wp2_with fail
   clear c0 hk2;have hlt_a:=lt_of_block HBa.out;have hlt_p:=lt_of_block HBp.out;have hog:Hid (∀ q,q<0->(fun q=>0) q<W.heap.size):=h_ (fun q h=>absurd h (Nat.not_lt_zero _));refine region_roundN _ _ (by kernel_rfl) (by rfl) ?_;refine R7.region_any [[],[],[0],[],[0,1,2,3],[0,1,2,3,4],[0,1,2,3,4,5],[0,1,2,3,4]] [] [] (fun q=>0) 0 4 (by kernel_rfl) (by kernel_rfl) (by rfl) hog.out (fun q q' h h' hn=>absurd hn (by omega)) ?_;refine R7.Chain.call (fun xs v w=>v=.slice vo n vc) (fun _ _ _ _ h _=>h) (fun _ _ _ _ _ h _ _=>h) (by rfl) (fun T xs wr hA=>?_) ?_
   ·have hsw:=(hA.be 0 (Nat.zero_le _) (fun _ _=>Nat.zero_le _)).size;have e3:=hA.pq 3;simp only[gsa,gsc,gsz] at e3;have hBq:wr.heap[ka]?=_:=(hA.bl _ hlt_a (fun q h=>absurd h (Nat.not_lt_zero _))).trans HBa.out;have q0:=cell_at (v:=.slice vo n vc) hBq 0 rfl;clear hBq;clear hA;refine⟨(by rfl),fun K hK=>?_⟩;go_simp
    exact hK.out _ _ rfl (Below.refl _ _)
   refine R7.cd ?_ (fun T xs wr hA=>?_) ?_
   rotate_left
   ·have e4:=hA.pq 4;simp only[gsa,gsc,gsz] at e4;have hBq:wr.heap[kp]?=_:=(hA.bl _ hlt_p (fun q h=>absurd h (Nat.not_lt_zero _))).trans HBp.out;obtain⟨q0,q1,q2,q3,q4,q5,q6,q7⟩:=cl8 hBq;clear hBq;clear hA;go_simp<;>(try with_reducible rfl)
   refine R7.Chain.call (fun xs v w=>v=.int .i64 (n:Nat)) (fun _ _ _ _ h _=>h) (fun _ _ _ _ _ h _ _=>h) (by rfl) (fun T xs wr hA=>?_) ?_
   ·have hsw:=(hA.be 0 (Nat.zero_le _) (fun _ _=>Nat.zero_le _)).size;have e11:=hA.tm 0 11 (by rfl) (by rfl);have f11:xs 0=(.slice vo n vc):=hA.fa 0 (by rfl);rw[f11] at e11;clear f11;clear hA;refine⟨(by rfl),fun K hK=>?_⟩;go_simp
    exact hK.out _ _ rfl (Below.refl _ _)
   refine R7.Chain.call (fun xs v w=>∃ g,v=.slice (some ⟨g,0,none⟩) 1 1/\W.heap.size<=g/\w.heap[g]?=some (.cells #[.int .i64 0,.string ⟨#[]⟩,.string ⟨#[]⟩,.bool false,.slice none 0 0,.slice none 0 0,.int .i64 0,.int .i64 0] 46 (0,0))) (fun _ _ _ _ ⟨g,hv,hl,hg⟩ hb=>⟨g,hv,hl,by rw[hb.block g (Array.getElem?_eq_some_iff.1 hg).1];exact hg⟩) (fun _ _ _ _ _ ⟨g,hv,hl,hg⟩ ⟨q,hq,e⟩ hp=>⟨g,hv,hl,by rw[hp.block g (Array.getElem?_eq_some_iff.1 hg).1 (fun h=>by have:=hog.out q hq;omega)];exact hg⟩) (by rfl) (fun T xs wr hA=>?_) ?_
   ·have hsw:=(hA.be 0 (Nat.zero_le _) (fun _ _=>Nat.zero_le _)).size;clear hA;refine⟨(by rfl),fun K hK=>?_⟩;go_simp
    exact hK.out _ _ ⟨_,rfl,hsw,by simpa using made_at wr _ _ rfl⟩ ((Below.refl _ _).alloc (Nat.le_refl _) _)
   refine R7.Chain.done (fun xs w5 hL=>?_);obtain⟨⟨hbe,hbl⟩,hf,-,-⟩:=hL;have f0:xs 0=(.slice vo n vc):=hf 0 (by decide);have f1:xs 1=_:=hf 1 (by decide);have f2:xs 2=(.int .i64 (n:Nat)):=hf 2 (by decide);have F3:∃ g,(xs 3)=.slice (some ⟨g,0,none⟩) 1 1/\W.heap.size<=g/\w5.heap[g]?=some (.cells #[.int .i64 0,.string ⟨#[]⟩,.string ⟨#[]⟩,.bool false,.slice none 0 0,.slice none 0 0,.int .i64 0,.int .i64 0] 46 (0,0)):=hf 3 (by decide)
   (try simp (disch:=decide) only [R7.mi] at f1)
   have hb0:Below 0 W w5:=undrew (hbe 0 (Nat.zero_le _) (fun _ _=>Nat.zero_le _));have hgr:∀ j,j<W.heap.size->(∀ q,q<0->(fun q=>0) q≠j)->w5.heap[j]?=W.heap[j]?:=hbl;clear hbe hbl hf;obtain⟨g,hv3,hgl,hgz⟩:=F3;have hb:Below W.heap.size W w5:=⟨hb0.os,hb0.tape,hb0.output,hb0.size,fun q hq=>hgr q hq (fun q h=>absurd h (Nat.not_lt_zero _))⟩
   unfold R7.Rest;simp only[R7.fill,t1_,t2_,t3_,t4_,t5_,t6_,t7_,hv3,f0,f1,f2];clear hb0 hgr hog hlt_a hlt_p hv3 f0 f1 f2;have hrow1:w5.ownsRow (ka+2) 46 8 (.slice vo n vc) n flat:=HROW.out.kept (row:=none) (below_grown hb none) (by cases (Value.slice vo n vc).ownBlock<;>simp);refine any_step [4] (by kernel_rfl) (by simp) (fun i hi=>?_);obtain rfl:i=4:=by simpa using hi
   refine⟨_,rfl,rfl,fun K hK=>?_⟩;refine wp_append_els w5 (.tmp 11) (.tmp 14) 36 rfl 46 Tryz.underlying36 infoExpr rfl (by decide) (by decide) (ka+2) (.slice vo n vc) n flat rfl hrow1 ⟨g,0,none⟩ 1 1 zE rfl (fun j u hu=>World.news_of_block hgz j u hu) (by decide) rfl (by decide) (by omega) (by have:=hb.size;have:=HK.out.1.size;obtain⟨h1,h2,h3⟩:=HKK.out;have:=HS3.out;omega) (fun v4 w6 hr4 hg4 hf4 hfi=>?_)
   have hget:∃ g4 cap cur,v4=.slice (some ⟨g4,0,none⟩) (n+1) cap/\ka+2<=g4/\w6.heap[g4]?=some (.cells cur 46 (0,0))/\n+1<=cap/\cap<=maxLen/\cur.size=cap*8/\cur.toList.take ((n+1)*8)=flat++zE:=by
    rcases hr4.2 with ⟨-,h⟩ | ⟨g4,cap,cur,h1,h2⟩
    ·omega
    exact⟨g4,cap,cur,h1,h2⟩
   obtain⟨g4,cap,cur,rfl,hbg,hgb,hnc,hcm,hcs,htk⟩:=hget;have hfl:flat.length=n*8:=HROW.out.1;have hsz8:(n+1)*8<=cur.size:=by rw[hcs];exact Nat.mul_le_mul_right _ hnc
   have hf5:(Value.slice vo n vc).ownBlock=some g4\/w5.heap.size<=g4:=hf4 g4 rfl
   have hka6:w6.heap[ka]?=some (.cells #[.slice vo n vc] 36 (0,0)):=by
    have h5:=(hb.block ka (lt_of_block HBa.out)).trans HBa.out;refine (hg4.block ka (lt_of_block h5) (fun e=>?_)).trans h5;have:=(HROW.out.lt ka e.symm).1
    omega
   have hag:ka≠g4:=by omega
   have haL:=lt_of_block hka6;refine hK.out _ _ ?_;clear hK K;have z0:w6.cell? ⟨g4,n*8,none⟩=some (.int .i64 0):=z_at hgb hsz8 htk hfl 0 rfl;have z1:w6.cell? ⟨g4,n*8+1,none⟩=some (.string ⟨#[]⟩):=z_at hgb hsz8 htk hfl 1 rfl;have z2:w6.cell? ⟨g4,n*8+2,none⟩=some (.string ⟨#[]⟩):=z_at hgb hsz8 htk hfl 2 rfl;have z3:w6.cell? ⟨g4,n*8+3,none⟩=some (.bool false):=z_at hgb hsz8 htk hfl 3 rfl;have z4:w6.cell? ⟨g4,n*8+4,none⟩=some (.slice none 0 0):=z_at hgb hsz8 htk hfl 4 rfl;have z5:w6.cell? ⟨g4,n*8+5,none⟩=some (.slice none 0 0):=z_at hgb hsz8 htk hfl 5 rfl;have z6:w6.cell? ⟨g4,n*8+6,none⟩=some (.int .i64 0):=z_at hgb hsz8 htk hfl 6 rfl;have z7:w6.cell? ⟨g4,n*8+7,none⟩=some (.int .i64 0):=z_at hgb hsz8 htk hfl 7 rfl;have fz0:=froz_at hgb (n*8);have fz1:=froz_at hgb (n*8+1)
   have fz2:=froz_at hgb (n*8+2);have fz3:=froz_at hgb (n*8+3);have fz4:=froz_at hgb (n*8+4);have fz5:=froz_at hgb (n*8+5);have fz6:=froz_at hgb (n*8+6);have fz7:=froz_at hgb (n*8+7);have ha0:=cell_at (v:=.slice vo n vc) hka6 0 rfl;have fa0:=froz_at hka6 0;have hI:(n:Int)<(n:Int)+1:=by omega
   refine any_step [5,7] (by kernel_rfl) (by simp) (fun i hi=>?_);rcases (by simpa using hi:i=5\/i=7) with rfl | rfl
   ·refine⟨_,rfl,rfl,fun K hK=>?_⟩;go_simp
    refine hK.out _ _ ?_;clear hK K;refine any_step [6,7] (by kernel_rfl) (by simp) (fun i hi=>?_);rcases (by simpa using hi:i=6\/i=7) with rfl | rfl
    ·refine⟨_,rfl,rfl,fun K hK=>?_⟩;go_simp
     obtain⟨w7,hww7⟩:∃ q,q=w6.setCells g4 (n*8) (xc y):=⟨_,rfl⟩
     rw[show (((((((w6.setCell ⟨g4,n*8,none⟩ (.int .i64 y.k)).setCell ⟨g4,n*8+1,none⟩ (.string y.nm)).setCell ⟨g4,n*8+2,none⟩ (.string y.ot)).setCell ⟨g4,n*8+3,none⟩ (.bool y.b)).setCell ⟨g4,n*8+4,none⟩ (.slice y.ao y.n y.c)).setCell ⟨g4,n*8+5,none⟩ (.slice y.ko y.kn y.kc)).setCell ⟨g4,n*8+6,none⟩ (.int .i64 y.ln)).setCell ⟨g4,n*8+7,none⟩ (.int .i64 y.cl)=w7 from hww7.symm];have hgw7:w6.grownBy w7 (some g4):=by rw[hww7];exact setCells_grown _ _ _ _
     have hvw7:=put_same (xc y) w6 g4 (n*8) _ _ hgb (by rw[show (xc y).length=8 from rfl];omega);rw[<-hww7] at hvw7;clear hww7;refine hK.out _ _ ?_;clear hK K;refine any_step [7] (by kernel_rfl) (by simp) (fun i hi=>?_);obtain rfl:i=7:=by simpa using hi
     have hka7:=(hgw7.block ka haL (fun e=>by injection e with e;exact hag e)).trans hka6;have ha1:=cell_at (v:=.slice vo n vc) hka7 0 rfl;have fa1:=froz_at hka7 0;refine⟨_,rfl,rfl,fun K hK=>?_⟩;go_simp
     obtain⟨w8,hww8⟩:∃ q,q=w7.setCell ⟨ka,0,none⟩ (.slice (some ⟨g4,0,none⟩) (n+1) cap):=⟨_,rfl⟩
     rw[<-hww8];have hgw8:w7.grownBy w8 (some ka):=by rw[hww8];exact grown_set _ _ _ _
     have hvw8:w8.heap[ka]?=some (.cells #[(.slice (some ⟨g4,0,none⟩) (n+1) cap)] 36 (0,0)):=by rw[hww8];exact heap_setCell_same _ ka 0 _ _ _ hka7
     clear hww8;refine hK.out _ _ ?_;clear hK K;have hvw8e:=(hgw8.block g4 (lt_of_block hvw7) (fun e=>by injection e with e;exact hag e.symm)).trans hvw7;refine⟨by kernel_rfl,?_⟩;have hoth:∀ k,k<w6.heap.size->k≠g4->k≠ka->w8.heap[k]?=w6.heap[k]?:=fun k hk h1 h2=>(hgw8.block k (by have:=hgw7.size;omega) (fun e=>by injection e with e;omega)).trans (hgw7.block k hk (fun e=>by injection e with e;omega))
     obtain⟨hz1,hz2,hz3⟩:=as_step (n0:=w.heap.size) (cs:=xc y) HBa.out (show ka<ka+2 by omega) (by obtain⟨h1,h2,h3⟩:=HKK.out;omega) HROW.out HVN.out hb hg4 hf5 hfi hbg hgb hnc hcm hcs htk rfl hvw8e (hgw8.os.trans hgw7.os) (hgw8.tape.trans hgw7.tape) (hgw8.output.trans hgw7.output) (Nat.le_trans hgw7.size hgw8.size) hoth;have hend:AsI w.heap.size ka w3 (pre++[y]) w8:=⟨HK.out.trans hz1,_,hvw8,by rw[asx_snoc_yes _ _ HKY.out,lsa,<-HN.out,List.flatMap_append,<-HF.out];simpa using hz2,.inr (by rw[asx_snoc_yes _ _ HKY.out];simp)⟩
     exact⟨hz3.from _,hz1,hend⟩
    refine⟨_,rfl,rfl,fun K hK=>?_⟩;go_simp
    obtain⟨w7,hww7⟩:∃ q,q=w6.setCell ⟨ka,0,none⟩ (.slice (some ⟨g4,0,none⟩) (n+1) cap):=⟨_,rfl⟩
    rw[<-hww7];have hgw7:w6.grownBy w7 (some ka):=by rw[hww7];exact grown_set _ _ _ _
    have hvw7:w7.heap[ka]?=some (.cells #[(.slice (some ⟨g4,0,none⟩) (n+1) cap)] 36 (0,0)):=by rw[hww7];exact heap_setCell_same _ ka 0 _ _ _ hka6
    clear hww7;refine hK.out _ _ ?_;clear hK K;have hgb7:=(hgw7.block g4 (lt_of_block hgb) (fun e=>by injection e with e;exact hag e.symm)).trans hgb;have zz0:w7.cell? ⟨g4,n*8,none⟩=some (.int .i64 0):=z_at hgb7 hsz8 htk hfl 0 rfl;have zz1:w7.cell? ⟨g4,n*8+1,none⟩=some (.string ⟨#[]⟩):=z_at hgb7 hsz8 htk hfl 1 rfl;have zz2:w7.cell? ⟨g4,n*8+2,none⟩=some (.string ⟨#[]⟩):=z_at hgb7 hsz8 htk hfl 2 rfl;have zz3:w7.cell? ⟨g4,n*8+3,none⟩=some (.bool false):=z_at hgb7 hsz8 htk hfl 3 rfl;have zz4:w7.cell? ⟨g4,n*8+4,none⟩=some (.slice none 0 0):=z_at hgb7 hsz8 htk hfl 4 rfl;have zz5:w7.cell? ⟨g4,n*8+5,none⟩=some (.slice none 0 0):=z_at hgb7 hsz8 htk hfl 5 rfl;have zz6:w7.cell? ⟨g4,n*8+6,none⟩=some (.int .i64 0):=z_at hgb7 hsz8 htk hfl 6 rfl
    have zz7:w7.cell? ⟨g4,n*8+7,none⟩=some (.int .i64 0):=z_at hgb7 hsz8 htk hfl 7 rfl;have ff0:=froz_at hgb7 (n*8);have ff1:=froz_at hgb7 (n*8+1);have ff2:=froz_at hgb7 (n*8+2);have ff3:=froz_at hgb7 (n*8+3);have ff4:=froz_at hgb7 (n*8+4);have ff5:=froz_at hgb7 (n*8+5);have ff6:=froz_at hgb7 (n*8+6);have ff7:=froz_at hgb7 (n*8+7);refine any_step [6] (by kernel_rfl) (by simp) (fun i hi=>?_);obtain rfl:i=6:=by simpa using hi
    refine⟨_,rfl,rfl,fun K hK=>?_⟩;go_simp
    obtain⟨w8,hww8⟩:∃ q,q=w7.setCells g4 (n*8) (xc y):=⟨_,rfl⟩
    rw[show (((((((w7.setCell ⟨g4,n*8,none⟩ (.int .i64 y.k)).setCell ⟨g4,n*8+1,none⟩ (.string y.nm)).setCell ⟨g4,n*8+2,none⟩ (.string y.ot)).setCell ⟨g4,n*8+3,none⟩ (.bool y.b)).setCell ⟨g4,n*8+4,none⟩ (.slice y.ao y.n y.c)).setCell ⟨g4,n*8+5,none⟩ (.slice y.ko y.kn y.kc)).setCell ⟨g4,n*8+6,none⟩ (.int .i64 y.ln)).setCell ⟨g4,n*8+7,none⟩ (.int .i64 y.cl)=w8 from hww8.symm];have hgw8:w7.grownBy w8 (some g4):=by rw[hww8];exact setCells_grown _ _ _ _
    have hvw8:=put_same (xc y) w7 g4 (n*8) _ _ hgb7 (by rw[show (xc y).length=8 from rfl];omega);rw[<-hww8] at hvw8;clear hww8;refine hK.out _ _ ?_;clear hK K;have hvw8a:=(hgw8.block ka (lt_of_block hvw7) (fun e=>by injection e with e;exact hag e)).trans hvw7;refine⟨by kernel_rfl,?_⟩;have hoth:∀ k,k<w6.heap.size->k≠g4->k≠ka->w8.heap[k]?=w6.heap[k]?:=fun k hk h1 h2=>(hgw8.block k (by have:=hgw7.size;omega) (fun e=>by injection e with e;omega)).trans (hgw7.block k hk (fun e=>by injection e with e;omega))
    obtain⟨hz1,hz2,hz3⟩:=as_step (n0:=w.heap.size) (cs:=xc y) HBa.out (show ka<ka+2 by omega) (by obtain⟨h1,h2,h3⟩:=HKK.out;omega) HROW.out HVN.out hb hg4 hf5 hfi hbg hgb hnc hcm hcs htk rfl hvw8 (hgw8.os.trans hgw7.os) (hgw8.tape.trans hgw7.tape) (hgw8.output.trans hgw7.output) (Nat.le_trans hgw7.size hgw8.size) hoth;have hend:AsI w.heap.size ka w3 (pre++[y]) w8:=⟨HK.out.trans hz1,_,hvw8a,by rw[asx_snoc_yes _ _ HKY.out,lsa,<-HN.out,List.flatMap_append,<-HF.out];simpa using hz2,.inr (by rw[asx_snoc_yes _ _ HKY.out];simp)⟩
    exact⟨hz3.from _,hz1,hend⟩
   refine⟨_,rfl,rfl,fun K hK=>?_⟩;go_simp
   obtain⟨w7,hww7⟩:∃ q,q=w6.setCell ⟨ka,0,none⟩ (.slice (some ⟨g4,0,none⟩) (n+1) cap):=⟨_,rfl⟩
   rw[<-hww7];have hgw7:w6.grownBy w7 (some ka):=by rw[hww7];exact grown_set _ _ _ _
   have hvw7:w7.heap[ka]?=some (.cells #[(.slice (some ⟨g4,0,none⟩) (n+1) cap)] 36 (0,0)):=by rw[hww7];exact heap_setCell_same _ ka 0 _ _ _ hka6
   clear hww7;refine hK.out _ _ ?_;clear hK K;have hgb7:=(hgw7.block g4 (lt_of_block hgb) (fun e=>by injection e with e;exact hag e.symm)).trans hgb;have zz0:w7.cell? ⟨g4,n*8,none⟩=some (.int .i64 0):=z_at hgb7 hsz8 htk hfl 0 rfl;have zz1:w7.cell? ⟨g4,n*8+1,none⟩=some (.string ⟨#[]⟩):=z_at hgb7 hsz8 htk hfl 1 rfl;have zz2:w7.cell? ⟨g4,n*8+2,none⟩=some (.string ⟨#[]⟩):=z_at hgb7 hsz8 htk hfl 2 rfl;have zz3:w7.cell? ⟨g4,n*8+3,none⟩=some (.bool false):=z_at hgb7 hsz8 htk hfl 3 rfl;have zz4:w7.cell? ⟨g4,n*8+4,none⟩=some (.slice none 0 0):=z_at hgb7 hsz8 htk hfl 4 rfl;have zz5:w7.cell? ⟨g4,n*8+5,none⟩=some (.slice none 0 0):=z_at hgb7 hsz8 htk hfl 5 rfl;have zz6:w7.cell? ⟨g4,n*8+6,none⟩=some (.int .i64 0):=z_at hgb7 hsz8 htk hfl 6 rfl
   have zz7:w7.cell? ⟨g4,n*8+7,none⟩=some (.int .i64 0):=z_at hgb7 hsz8 htk hfl 7 rfl;have ff0:=froz_at hgb7 (n*8);have ff1:=froz_at hgb7 (n*8+1);have ff2:=froz_at hgb7 (n*8+2);have ff3:=froz_at hgb7 (n*8+3);have ff4:=froz_at hgb7 (n*8+4);have ff5:=froz_at hgb7 (n*8+5);have ff6:=froz_at hgb7 (n*8+6);have ff7:=froz_at hgb7 (n*8+7);refine any_step [5] (by kernel_rfl) (by simp) (fun i hi=>?_);obtain rfl:i=5:=by simpa using hi
   refine⟨_,rfl,rfl,fun K hK=>?_⟩;go_simp
   refine hK.out _ _ ?_;clear hK K;refine any_step [6] (by kernel_rfl) (by simp) (fun i hi=>?_);obtain rfl:i=6:=by simpa using hi
   refine⟨_,rfl,rfl,fun K hK=>?_⟩;go_simp
   obtain⟨w8,hww8⟩:∃ q,q=w7.setCells g4 (n*8) (xc y):=⟨_,rfl⟩
   rw[show (((((((w7.setCell ⟨g4,n*8,none⟩ (.int .i64 y.k)).setCell ⟨g4,n*8+1,none⟩ (.string y.nm)).setCell ⟨g4,n*8+2,none⟩ (.string y.ot)).setCell ⟨g4,n*8+3,none⟩ (.bool y.b)).setCell ⟨g4,n*8+4,none⟩ (.slice y.ao y.n y.c)).setCell ⟨g4,n*8+5,none⟩ (.slice y.ko y.kn y.kc)).setCell ⟨g4,n*8+6,none⟩ (.int .i64 y.ln)).setCell ⟨g4,n*8+7,none⟩ (.int .i64 y.cl)=w8 from hww8.symm];have hgw8:w7.grownBy w8 (some g4):=by rw[hww8];exact setCells_grown _ _ _ _
   have hvw8:=put_same (xc y) w7 g4 (n*8) _ _ hgb7 (by rw[show (xc y).length=8 from rfl];omega);rw[<-hww8] at hvw8;clear hww8;refine hK.out _ _ ?_;clear hK K;have hvw8a:=(hgw8.block ka (lt_of_block hvw7) (fun e=>by injection e with e;exact hag e)).trans hvw7;refine⟨by kernel_rfl,?_⟩;have hoth:∀ k,k<w6.heap.size->k≠g4->k≠ka->w8.heap[k]?=w6.heap[k]?:=fun k hk h1 h2=>(hgw8.block k (by have:=hgw7.size;omega) (fun e=>by injection e with e;omega)).trans (hgw7.block k hk (fun e=>by injection e with e;omega))
   obtain⟨hz1,hz2,hz3⟩:=as_step (n0:=w.heap.size) (cs:=xc y) HBa.out (show ka<ka+2 by omega) (by obtain⟨h1,h2,h3⟩:=HKK.out;omega) HROW.out HVN.out hb hg4 hf5 hfi hbg hgb hnc hcm hcs htk rfl hvw8 (hgw8.os.trans hgw7.os) (hgw8.tape.trans hgw7.tape) (hgw8.output.trans hgw7.output) (Nat.le_trans hgw7.size hgw8.size) hoth;have hend:AsI w.heap.size ka w3 (pre++[y]) w8:=⟨HK.out.trans hz1,_,hvw8a,by rw[asx_snoc_yes _ _ HKY.out,lsa,<-HN.out,List.flatMap_append,<-HF.out];simpa using hz2,.inr (by rw[asx_snoc_yes _ _ HKY.out];simp)⟩
   exact⟨hz3.from _,hz1,hend⟩
  have hk2:(y.k==28)=false:=by simp[hk]
  have c0:=cell_at (v:=.int .i64 y.k) HBp.out 0 rfl;have e:=asx_snoc_no pre y hk;clear hk;simp only[xv]
  gi_wp2_with fail
  refine⟨KeepsFrom.refl _ _,K8.refl _ _,HK.out,.slice vo n vc,HBa.out,?_⟩;rw[e,<-HN.out,<-HF.out];exact⟨HROW.out,HVN.out⟩
 case done =>
  rintro D ys W hD hS ⟨hK,v,hva,hrow,hvn⟩ hDW;obtain⟨vo,vc,rfl,hvc⟩:=own_form hrow;have hal:Al W S (asx ys) (asu (uPre u)):=((hS.keep fun g hg=>hK.1.block g hg.2).mono fun g hg=>hg.1).asx;have hsrt:Srt W vo (asx ys):=⟨fun i hi=>own_at hrow i hi,hal.plt HP.out⟩
  have halb:Al W (fun g=>S g/\g<w.heap.size) (asx ys) (asu (uPre u)):=(hS.keep fun g hg=>hK.1.block g hg.2).asx;have HALB:=h_ halb;clear halb;have hal1:=hal.1;have hlen:(asx ys).length<=1000000:=Nat.le_trans (asx_len ys) (by rw[hS.1];exact HNN.out);have HSRT:=h_ hsrt;have HAL:=h_ hal;have HROW:=h_ hrow;have HKK2:=h_ hK;have HDW:=h_ hDW;have c0:=cell_at (v:=.slice vo (asx ys).length vc) hva 0 rfl;have HLE:=h_ hlen;have HBa:=h_ hva;have HD:=h_ hD;have HVN:=h_ hvn;clear hsrt hal hrow hK hDW hvn hvc hS hva hal1 hD hkk1 hkk2 hk0 hs3 hlen;go_wp2_with (first | (refine (sort_p W vo vc (asx ys) HSRT.out HLE.out).mono ?_;rintro e w5 ⟨rfl,hb⟩;have HB:=h_ hb;clear hb c0;have c0:=cell_at (v:=.slice vo (asx ys).length vc) ((HB.out.block ka (lt_of_block HBa.out)).trans HBa.out) 0 rfl) | fail)
  have hD5:=(HB.out.block D (lt_of_block HDW.out)).trans HDW.out;refine⟨by simp,.inl ⟨_,_,rfl,run_takeDeferred hD5,?_⟩⟩;refine⟨_,results_tmp rfl _ _ _,?_⟩;obtain⟨hkk1,hkk2,hk0⟩:=HKK.out;have hs3:=HS3.out;have hD:=HD.out;have hbp:Below w5.heap.size w5 (w5.putObj D (.deferred none))\/True:=.inr trivial;have hbf:Below w.heap.size w w5:=(HB03.out.trans HKK2.out.1).trans (HB.out.mono (by have:=HKK2.out.1.size;omega));have hK8:K8 w.heap.size w5 (w5.putObj D (.deferred none)):=K8.put (by omega) hD5 rfl;have hrow5:=(HROW.out.kept (row:=none) (below_grown HB.out none) (by cases (Value.slice vo (asx ys).length vc).ownBlock<;>simp))
  have hrow6:=ownsRow_putObj hrow5 (.deferred none) hD5 rfl;have hal6:=HALB.out.keep (w':=w5.putObj D (.deferred none)) (fun g hg=>(hK8.1.block g hg.2).trans ((HB.out.mono (show w.heap.size<=W.heap.size by have:=HKK2.out.1.size;omega)).block g hg.2));exact⟨hbf.trans hK8.1,vo,vc,asx ys,rfl,HVN.out,hal6,fun i hi=>own_at hrow6 i hi⟩
 case stop =>
  rintro D c pre W _ _ h;exact h.elim
end Go.Proofs.YtkocdbgmckdcpaaGreatDoor
namespace Go.Proofs.YtkocdbgmckdcpaaGreatDoor
open Go.RowKit
set_option maxRecDepth 100000
set_option linter.unusedVariables false
def posU2 (u:U):Nat × Nat:=(u.ln,u.cl)
def asq (u:U):List (Nat × Nat):=(asu (uPre u)).map posU2
def asqs (us:List U):List (Nat × Nat):=(asu (uPres us)).map posU2
theorem asqs_nil:asqs []=[]:=rfl
theorem asqs_cons (u:U) (us:List U):asqs (u::us)=asq u++asqs us:=by
 unfold asqs asq;rw[uPres];simp[asu,List.filter_append]
theorem asqs_app (a b:List U):asqs (a++b)=asqs a++asqs b:=by
 unfold asqs;rw[uPres_app];simp[asu,List.filter_append]
theorem asq_node (k:Nat) (nm ot:Bs) (z ln cl:Nat) (ks:List U):asq (.node k nm ot z ln cl ks)=(if k=28 then [(ln,cl)] else [])++asqs ks:=by
 unfold asq asqs;rw[uPre]
 by_cases h:k=28
 ·have e:asu (.node k nm ot z ln cl ks::uPres ks)=.node k nm ot z ln cl ks::asu (uPres ks):=by simp[asu,U.k,h]
  rw[e,if_pos h];rfl
 have e:asu (.node k nm ot z ln cl ks::uPres ks)=asu (uPres ks):=by simp[asu,U.k,h]
 rw[e,if_neg h];rfl
theorem asq_prt {k:Nat} (t:Tok) (ks:List U) (h:k≠28):asq (prt k t ks)=asqs ks:=by unfold prt;rw[asq_node,if_neg h];rfl
theorem asq_nmd {k:Nat} (t:Tok) (ks:List U) (h:k≠28):asq (nmd k t ks)=asqs ks:=by unfold nmd;rw[asq_node,if_neg h];rfl
theorem asq_u0:asq u0=[]:=by unfold u0;rw[asq_node];rfl
theorem asqs1 (a:U):asqs [a]=asq a:=by rw[asqs_cons,asqs_nil,List.append_nil]
theorem asqs2 (a b:U):asqs [a,b]=asq a++asq b:=by rw[asqs_cons,asqs1]
theorem asqs3 (a b c:U):asqs [a,b,c]=asq a++(asq b++asq c):=by rw[asqs_cons,asqs2]
def tps (l:List Tok):List (Nat × Nat):=l.map fun t=>(t.line,t.col)
def Sx (s s':St):Prop:=∃ c,s.rest=c++s'.rest
def Cov (s s':St) (a:List (Nat × Nat)):Prop:=∃ c,s.rest=c++s'.rest/\a.Sublist (tps c)
def E4 (s:St):Prop:=∀ t ∈ s.rest,t.kind=4->t.text=[]
theorem Sx.refl (s:St):Sx s s:=⟨[],rfl⟩
theorem Sx.trans {a b c:St} (h:Sx a b) (k:Sx b c):Sx a c:=by
 obtain⟨x,h⟩:=h;obtain⟨y,k⟩:=k;exact⟨x++y,by rw[h,k,List.append_assoc]⟩
theorem sx_drop (s:St) (n:Nat) (e:Option (Nat × Nat × Nat)):Sx s ⟨s.rest.drop n,e⟩:=⟨s.rest.take n,(List.take_append_drop n s.rest).symm⟩
theorem sx_tk (s:St):Sx s s.tk:=by unfold St.tk;split;exact Sx.refl s;exact sx_drop s 1 _
theorem sx_fail (s:St) (t:Tok) (c:Nat):Sx s (s.fail t c):=sx_drop s _ _
theorem sx_exp (s:St) (w:Bs):Sx s (s.exp w):=by unfold St.exp;split;exact sx_tk s;exact sx_fail s _ _
theorem sx_name (s:St):Sx s s.name:=by unfold St.name;split;exact sx_tk s;exact (sx_tk s).trans (sx_fail _ _ _)
theorem sx_counted (s:St) (a b:Nat):Sx s (s.counted a b):=by unfold St.counted;split;exact (sx_name s).trans (sx_fail _ _ _);exact sx_name s
theorem Sx.e4 {s s':St} (h:Sx s s') (k:E4 s):E4 s':=by
 obtain⟨c,h⟩:=h;exact fun t ht=>k t (by rw[h];exact List.mem_append_right _ ht)
theorem Cov.sx {s s':St} {a:List (Nat × Nat)} (h:Cov s s' a):Sx s s':=by obtain⟨c,h,-⟩:=h;exact⟨c,h⟩
theorem Sx.cov {s s':St} (h:Sx s s'):Cov s s' []:=by obtain⟨c,h⟩:=h;exact⟨c,h,List.nil_sublist _⟩
theorem Cov.trans {s t r:St} {a b:List (Nat × Nat)} (h:Cov s t a) (k:Cov t r b):Cov s r (a++b):=by
 obtain⟨x,h1,h2⟩:=h;obtain⟨y,k1,k2⟩:=k;exact⟨x++y,by rw[h1,k1,List.append_assoc],by unfold tps;rw[List.map_append];exact h2.append k2⟩
theorem Sx.then {s t r:St} {b:List (Nat × Nat)} (h:Sx s t) (k:Cov t r b):Cov s r b:=by have:=h.cov.trans k;rwa [List.nil_append] at this
theorem Cov.then {s t r:St} {b:List (Nat × Nat)} (h:Cov s t b) (k:Sx t r):Cov s r b:=by have:=h.trans k.cov;rwa [List.append_nil] at this
theorem cov_tk {s:St} (h:E4 s) {w:Bs} (hw:w ≠ []) (hi:s.is w=true):Cov s s.tk [(s.nx.line,s.nx.col)]:=by
 have ht:s.nx.text=w:=by unfold St.is at hi;simpa using hi
 cases hr:s.rest with
 | nil=>unfold St.nx at ht;rw[hr] at ht;exact absurd ht.symm hw
 | cons t l =>
  have hn:s.nx=t:=by unfold St.nx;rw[hr];rfl
  have hk:¬ s.nx.kind=4:=fun e=>hw (by rw[<-ht,hn];exact h t (by rw[hr];exact List.mem_cons_self) (by rw[<-hn];exact e))
  refine⟨[t],?_,?_⟩
  ·unfold St.tk;rw[if_neg hk,hr];rfl
  rw[hn];exact List.Sublist.refl _
theorem bop_kind {w:Bs} {op:Bop} (h:bopOf w=some op):op.kind≠28:=by
 have hm:=List.mem_of_find?_eq_some h;have:∀ op ∈ bops,op.kind≠28:=by decide
 exact this op hm
theorem un_kind {w:Bs} {k:Nat} (h:unOf w=some k):k≠28:=by
 unfold unOf at h
 repeat' split at h
 all_goals (first | (injection h with h;subst h;decide) | cases h)
def PE (n:Nat):Prop:=∀ s x,E4 s->cExpr n s=some x->Cov s x.2 (asq x.1)
theorem c_cov (n:Nat):PE n/\(∀ s x,E4 s->cLet n s=some x->Cov s x.2 (asq x.1))/\(∀ s x,E4 s->cIf n s=some x->Cov s x.2 (asq x.1))/\(∀ s x,E4 s->cMatch n s=some x->Cov s x.2 (asq x.1))/\(∀ s x,E4 s->s.is wAssert=true->cAssert n s=some x->Cov s x.2 (asq x.1)) /\
  (∀ l s x,E4 s->cBin n l s=some x->Cov s x.2 (asq x.1))/\(∀ l e v s x,E4 s->cLoop n l e v s=some x->∃ b,asq x.1=asq e++b/\Cov s x.2 b)/\(∀ s x,E4 s->cOne n s=some x->Cov s x.2 (asq x.1))/\(∀ s x,E4 s->cAtom n s=some x->Cov s x.2 (asq x.1))/\(∀ s x,E4 s->cArgs n s=some x->Cov s x.2 (asqs x.1))/\(∀ l s x,E4 s->cMore n l s=some x->∃ b,asqs x.1=asqs l++b/\Cov s x.2 b):=by
 induction n with
 | zero=>refine⟨?_,?_,?_,?_,?_,?_,?_,?_,?_,?_,?_⟩<;>intros<;>simp_all [PE,cExpr,cLet,cIf,cMatch,cAssert,cBin,cLoop,cOne,cAtom,cArgs,cMore]
 | succ n ih =>
  obtain⟨i1,i2,i3,i4,i5,i6,i7,i8,i9,i10,i11⟩:=ih;refine⟨?_,?_,?_,?_,?_,?_,?_,?_,?_,?_,?_⟩
  ·intro s x hE h;rw[cExpr] at h
   split at h
   ·exact i2 _ _ hE h
   split at h
   ·exact i3 _ _ hE h
   split at h
   ·exact i4 _ _ hE h
   split at h
   ·rename_i ha;exact i5 _ _ hE ha h
   exact i6 _ _ _ hE h
  ·intro s x hE h;rw[cLet] at h;simp only[Option.bind_eq_some_iff] at h;obtain⟨r1,h1,r2,h2,h3⟩:=h;injection h3 with h3;subst h3;have k1:=((sx_tk s).trans (sx_name _)).trans (sx_exp _ wEq);have a1:=i1 _ _ (k1.e4 hE) h1;have k2:=(k1.then a1).then (sx_exp _ wIn)
   have a2:=i1 _ _ (k2.sx.e4 hE) h2;simp only[asq_node,asqs2];exact k2.trans a2
  ·intro s x hE h;rw[cIf] at h;simp only[Option.bind_eq_some_iff] at h;obtain⟨r1,h1,r2,h2,r3,h3,h4⟩:=h;injection h4 with h4;subst h4;have k1:=sx_tk s;have a1:=i1 _ _ (k1.e4 hE) h1;have k2:=(k1.then a1).then (sx_exp _ wThen)
   have a2:=i1 _ _ (k2.sx.e4 hE) h2;have k3:=(k2.trans a2).then (sx_exp _ wElse)
   have a3:=i1 _ _ (k3.sx.e4 hE) h3;have:=k3.trans a3;rw[asq_prt _ _ (by decide),asqs3];rwa [List.append_assoc] at this
  ·intro s x hE h;rw[cMatch] at h;simp only[Option.bind_eq_some_iff] at h;obtain⟨r1,h1,r2,h2,r3,h3,h4⟩:=h;injection h4 with h4;subst h4;have k1:=sx_tk s;have a1:=i1 _ _ (k1.e4 hE) h1;have k2:=(k1.then a1).then (((sx_exp _ wWith).trans (sx_exp _ wNil)).trans (sx_exp _ wArrow))
   have a2:=i1 _ _ (k2.sx.e4 hE) h2;have k3:=(k2.trans a2).then (((((sx_exp _ wBar).trans (sx_name _)).trans (sx_exp _ wCons)).trans (sx_name _)).trans (sx_exp _ wArrow))
   have a3:=i1 _ _ (k3.sx.e4 hE) h3;have:=k3.trans a3;simp only[asq_node,asqs3];rwa [List.append_assoc] at this
  ·intro s x hE ha h;rw[cAssert] at h;simp only[Option.bind_eq_some_iff] at h;obtain⟨r1,h1,r2,h2,h3⟩:=h;injection h3 with h3;subst h3;have k1:=cov_tk hE (by decide) ha;have a1:=i1 _ _ (k1.sx.e4 hE) h1;have k2:=(k1.trans a1).then (sx_exp _ wSemi)
   have a2:=i1 _ _ (k2.sx.e4 hE) h2;have:=k2.trans a2;simp only[prt,asq_node,asqs2,if_pos];rwa [List.append_assoc] at this
  ·intro l s x hE h;rw[cBin,Option.bind_eq_some_iff] at h;obtain⟨r1,h1,h2⟩:=h;have a1:=i8 _ _ hE h1;obtain⟨b,hb,a2⟩:=i7 _ _ _ _ _ (a1.sx.e4 hE) h2;rw[hb];exact a1.trans a2
  ·intro l e v s x hE h;rw[cLoop] at h
   split at h
   ·injection h with h;subst h;exact⟨[],by simp,(Sx.refl s).cov⟩
   rename_i op hop
   split at h
   ·injection h with h;subst h;exact⟨[],by simp,(Sx.refl s).cov⟩
   rw[Option.bind_eq_some_iff] at h;obtain⟨r1,h1,h2⟩:=h;have k1:=sx_tk s;have a1:=i6 _ _ _ (k1.e4 hE) h1;have k2:=k1.then a1
   obtain⟨b,hb,a2⟩:=i7 _ _ _ _ _ (k2.sx.e4 hE) h2;refine⟨asq r1.1++b,?_,k2.trans a2⟩;rw[hb,asq_prt _ _ (bop_kind hop),asqs2,List.append_assoc]
  ·intro s x hE h;rw[cOne] at h
   split at h
   ·exact i9 _ _ hE h
   rename_i k hk
   rw[Option.bind_eq_some_iff] at h;obtain⟨r1,h1,h2⟩:=h;injection h2 with h2;subst h2;have a1:=i8 _ _ ((sx_tk s).e4 hE) h1;rw[asq_prt _ _ (un_kind hk),asqs1];exact (sx_tk s).then a1
  ·intro s x hE h;rw[cAtom] at h
   repeat' split at h
   all_goals first
    | (injection h with h;subst h;first
      | (simp only[asq_node,asqs_nil];exact (sx_tk s).cov)
      | (rw[asq_nmd _ _ (by decide),asqs_nil];exact (sx_tk s).cov)
      | (rw[asq_prt _ _ (by decide),asqs_nil];exact (sx_tk s).cov)
      | (rw[asq_u0];exact ((sx_tk s).trans (sx_fail _ _ _)).cov))
    | (
      rw[Option.bind_eq_some_iff] at h;obtain⟨r1,h1,h2⟩:=h;injection h2 with h2;subst h2
      first
       | (
         have k1:=(sx_tk s).trans (sx_tk _);have a1:=i10 _ _ (k1.e4 hE) h1
         rw[asq_nmd _ _ (by decide)];exact k1.then a1)
       | (
         have a1:=i1 _ _ ((sx_tk s).e4 hE) h1
         exact ((sx_tk s).then a1).then (sx_exp _ wClose)))
  ·intro s x hE h;rw[cArgs] at h
   split at h
   ·injection h with h;subst h;rw[asqs_nil];exact (sx_tk s).cov
   rw[Option.bind_eq_some_iff] at h;obtain⟨r1,h1,h2⟩:=h;have a1:=i1 _ _ hE h1;obtain⟨b,hb,a2⟩:=i11 _ _ _ (a1.sx.e4 hE) h2;rw[hb,asqs1];exact a1.trans a2
  intro l s x hE h;rw[cMore] at h
  split at h
  ·rw[Option.bind_eq_some_iff] at h;obtain⟨r1,h1,h2⟩:=h;have a1:=i1 _ _ ((sx_tk s).e4 hE) h1;have k2:=(sx_tk s).then a1
   obtain⟨b,hb,a2⟩:=i11 _ _ _ (k2.sx.e4 hE) h2;refine⟨asq r1.1++b,?_,k2.trans a2⟩;rw[hb,asqs_app,asqs1,List.append_assoc]
  injection h with h;subst h;exact⟨[],by simp,(sx_exp s _).cov⟩
theorem all_cov {n:Nat} {s:St} {x:U × St} (hE:E4 s) (h:cAll n s=some x):Cov s x.2 (asq x.1):=by
 unfold cAll at h;rw[Option.bind_eq_some_iff] at h;obtain⟨r,h1,h2⟩:=h;injection h2 with h2;subst h2;have:=(c_cov n).1 _ _ hE h1;simp only
 split
 ·exact this.then (sx_fail _ _ _)
 exact this
theorem base_sx (s:St):Sx s (cBase s).2:=by
 unfold cBase
 repeat' split
 all_goals first | exact sx_tk s | exact (sx_tk s).trans (sx_fail _ _ _)
theorem ref_sx {n:Nat} {p:PmU} {s:St} {x:PmU × St} (hE:E4 s) (h:cRef n p s=some x):Sx s x.2:=by
 unfold cRef at h
 split at h
 ·rw[Option.bind_eq_some_iff] at h;obtain⟨r,h1,h2⟩:=h;injection h2 with h2;subst h2;exact ((sx_tk s).trans (all_cov ((sx_tk s).e4 hE) h1).sx).trans (sx_exp _ _)
 injection h with h;subst h;exact Sx.refl s
theorem var_sx (s:St):Sx s (cVar s).2:=((sx_exp s wV).trans (sx_exp _ wColon)).trans (base_sx _)
theorem param_sx (c:Nat) (s:St):Sx s (cParam c s).2:=((sx_counted s c 6).trans (sx_exp _ wColon)).trans (base_sx _)
theorem res_sx {n:Nat} {s:St} {x:PmU × St} (hE:E4 s) (h:cRes n s=some x):Sx s x.2:=(base_sx s).trans (ref_sx ((base_sx s).e4 hE) h)
theorem qmore_sx:∀ {m:Nat} {l:List PmU} {s:St} {x:List PmU × St},cQMore m l s=some x->Sx s x.2
 | 0,_,_,_,h=>by rw[cQMore] at h;cases h
 | m+1,l,s,x,h=>by
  rw[cQMore] at h
  split at h
  ·exact ((sx_tk s).trans (param_sx _ _)).trans (qmore_sx h)
  injection h with h;subst h;exact Sx.refl s
theorem fpar_sx {n:Nat} {l:List PmU} {s:St} {x:List PmU × St} (hE:E4 s) (h:cFPar n l s=some x):Sx s x.2:=by
 unfold cFPar at h;rw[Option.bind_eq_some_iff] at h;obtain⟨r,h1,h2⟩:=h;injection h2 with h2;subst h2;exact (param_sx _ s).trans (ref_sx ((param_sx _ s).e4 hE) h1)
theorem fmore_sx {n:Nat}:∀ {m:Nat} {l:List PmU} {s:St} {x:List PmU × St},E4 s->cFMore m n l s=some x->Sx s x.2
 | 0,_,_,_,_,h=>by rw[cFMore] at h;cases h
 | m+1,l,s,x,hE,h=>by
  rw[cFMore] at h
  split at h
  ·rw[Option.bind_eq_some_iff] at h;obtain⟨r,h1,h2⟩:=h;have k1:=(sx_tk s).trans (fpar_sx ((sx_tk s).e4 hE) h1);exact k1.trans (fmore_sx (k1.e4 hE) h2)
  injection h with h;subst h;exact sx_exp s _
theorem fpars_sx {m n:Nat} {s:St} {x:List PmU × St} (hE:E4 s) (h:cFPars m n s=some x):Sx s x.2:=by
 unfold cFPars at h
 split at h
 ·injection h with h;subst h;exact sx_tk s
 rw[Option.bind_eq_some_iff] at h;obtain⟨r,h1,h2⟩:=h;have k1:=fpar_sx hE h1;exact k1.trans (fmore_sx (k1.e4 hE) h2)
theorem qual_sx {m n c:Nat} {s:St} {x:QlU × St} (hE:E4 s) (h:cQual m n c s=some x):Sx s x.2:=by
 unfold cQual at h;simp only[Option.bind_eq_some_iff] at h;obtain⟨r,h1,q,h2,h3⟩:=h;injection h3 with h3;subst h3;have k1:=(((((sx_counted s c 20).trans (sx_exp _ wOpen)).trans (var_sx _)).trans (qmore_sx h1)).trans (sx_exp _ wClose)).trans (sx_exp _ wColon);exact k1.trans (all_cov (k1.e4 hE) h2).sx
theorem fun_cov {m n c:Nat} {s:St} {x:FnU × St} (hE:E4 s) (h:cFun m n c s=some x):Cov s x.2 (asq x.1.body):=by
 unfold cFun at h;simp only[Option.bind_eq_some_iff] at h;obtain⟨r,h1,t,h2,q,h3,h4⟩:=h;injection h4 with h4;subst h4;have k0:=(sx_counted s c 20).trans (sx_exp _ wOpen);have k1:=(k0.trans (fpars_sx (k0.e4 hE) h1)).trans (sx_exp _ wColon);have k2:=(k1.trans (res_sx (k1.e4 hE) h2)).trans (sx_exp _ wEq);exact k2.then (all_cov (k2.e4 hE) h3)
def asqP (p:PgU):List (Nat × Nat):=p.fs.flatMap fun f=>asq f.body
def CovT (T:List Tok) (s:St) (a:List (Nat × Nat)):Prop:=∃ c,T=c++s.rest/\a.Sublist (tps c)
theorem CovT.next {T:List Tok} {s s':St} {a b:List (Nat × Nat)} (h:CovT T s a) (k:Cov s s' b):CovT T s' (a++b):=by
 obtain⟨c,h1,h2⟩:=h;obtain⟨d,k1,k2⟩:=k;exact⟨c++d,by rw[h1,k1,List.append_assoc],by unfold tps;rw[List.map_append];exact h2.append k2⟩
theorem CovT.sx {T:List Tok} {s s':St} {a:List (Nat × Nat)} (h:CovT T s a) (k:Sx s s'):CovT T s' a:=by have:=h.next k.cov;rwa [List.append_nil] at this
theorem prog_cov {n:Nat} {T:List Tok}:∀ {m:Nat} {p:PgU} {s:St} {x:PgU × St},E4 s->CovT T s (asqP p)->cProg m n p s=some x->(asqP x.1).Sublist (tps T)
 | 0,_,_,_,_,_,h=>by rw[cProg] at h;cases h
 | m+1,p,s,x,hE,hT,h=>by
  rw[cProg] at h
  split at h
  ·rw[Option.bind_eq_some_iff] at h;obtain⟨r,h1,h2⟩:=h;have k:=(sx_tk s).trans (qual_sx ((sx_tk s).e4 hE) h1);exact prog_cov (p:=⟨p.qs++[r.1],p.fs⟩) (k.e4 hE) (hT.sx k) h2
  split at h
  ·rw[Option.bind_eq_some_iff] at h;obtain⟨r,h1,h2⟩:=h;have c1:=fun_cov ((sx_tk s).e4 hE) h1;refine prog_cov (p:=⟨p.qs,p.fs++[r.1]⟩) (((sx_tk s).trans c1.sx).e4 hE) ?_ h2;have:=(hT.sx (sx_tk s)).next c1;unfold asqP;rw[List.flatMap_append]
   simpa [asqP] using this
  injection h with h;subst h;obtain⟨c,h1,h2⟩:=hT;rw[h1];unfold tps;rw[List.map_append];exact h2.trans (List.sublist_append_left _ _)
theorem sub_flat {α β:Type} (f:α->List β):∀ {l:List α} {a:α},a ∈ l->(f a).Sublist (l.flatMap f)
 | b::l,a,h=>by
  rw[List.flatMap_cons];rcases List.mem_cons.1 h with rfl | h
  ·exact List.sublist_append_left _ _
  exact (sub_flat f h).trans (List.sublist_append_right _ _)
theorem asq_sub {p:PgU} {f:FnU} (h:f ∈ p.fs):(asq f.body).Sublist (asqP p):=by
 unfold asqP;exact sub_flat (fun f=>asq f.body) h
theorem text_ne {t:Tok} (h:TokOk t) (hk:t.kind<4):t.text ≠ []:=by
 have:t.kind=0\/t.kind=1\/t.kind=2\/t.kind=3:=by omega
 rcases this with k | k | k | k
 ·exact (h.k0 k).2
 ·exact fun e=>by have:=(h.k1 k).2;rw[e] at this;simp[Numeral] at this
 ·exact fun e=>by have:=h.k2 k;rw[e] at this;revert this;decide
 exact fun e=>by have:=h.k3 k;rw[e] at this;revert this;decide
theorem placed_le {s:Bs} {p:Nat × Nat}:∀ {ts:List Tok} {off:Nat},Placed s p off ts->∀ t ∈ ts,∃ o,off<=o/\o<=s.length/\(t.line,t.col)=adv p (s.take o)
 | t::ts,off,⟨o,h1,h2,h3,_,_,h4⟩,u,hu=>by
  rcases List.mem_cons.1 hu with rfl | hu
  ·exact⟨o,h1,by omega,h3.symm⟩
  obtain⟨q,a,b,c⟩:=placed_le h4 u hu;exact⟨q,by omega,b,c⟩
theorem adv_ltt {s:Bs} {p:Nat × Nat} {i j:Nat} (hij:i<j) (hj:j<=s.length):lexLt (adv p (s.take i)) (adv p (s.take j)):=by
 have e:s.take j=s.take i++(s.drop i).take (j - i):=by rw[<-List.take_add];congr 1;omega
 rw[e,adv_app];refine adv_lt _ _ (fun h=>?_);have:=congrArg List.length h;rw[List.length_take,List.length_drop,lsn] at this
 omega
theorem placed_pw {s:Bs} {p:Nat × Nat}:∀ {ts:List Tok} {off:Nat},GoodL ts->Placed s p off ts->(tps ts).Pairwise lexLt
 | [],_,h,_=>h.elim
 | [t],_,_,_=>List.pairwise_singleton _ _
 | t::u::ts,off,hg,⟨o,h1,h2,h3,_,_,h4⟩=>by
  refine List.Pairwise.cons ?_ (placed_pw hg.2.2 h4);intro q hq;obtain⟨v,hv,rfl⟩:=List.mem_map.1 hq;obtain⟨r,a,b,c⟩:=placed_le h4 v hv;have hl:=List.length_pos_iff.2 (text_ne hg.2.1 hg.1);simp only;rw[<-h3,c];exact adv_ltt (by omega) b
theorem good_e4:∀ {l:List Tok},GoodL l->∀ t ∈ l,t.kind=4->t.text=[]
 | [t],h,u,hu,hk=>by
  obtain rfl:u=t:=by simpa using hu
  exact h.2.ke hk
 | t::v::ts,h,u,hu,hk=>by
  rcases List.mem_cons.1 hu with rfl | hu
  ·exact absurd hk (by have:=h.1;omega)
  exact good_e4 h.2.2 u hu hk
def sitesU (p:PgU):List U:=p.fs.flatMap fun f=>asu (uPre f.body)
theorem prog_asserts {l:Bs} {m n:Nat} {r:PgU × St} (h0:lexF l=none) (h:cProg m n ⟨[],[]⟩ (st0 l)=some r):(∀ f ∈ r.1.fs,(asu (uPre f.body)).Pairwise pltU/\∀ u ∈ asu (uPre f.body),1<=u.ln)/\(sitesU r.1).length<=(st0 l).rest.length:=by
 have hz:(lexS l (1,1)).2=0:=by
  unfold lexF at h0
  split at h0
  ·assumption
  cases hg:(lexS l (1,1)).1.getLast? with
  | none=>rw[List.getLast?_eq_none_iff] at hg;exact absurd hg (lex_ne l (1,1))
  | some t=>rw[hg] at h0;cases h0
 have hg:=lex_good l (1,1) hz;have hp:=lex_placed l (1,1) hz;have hE:E4 (st0 l):=good_e4 hg;have hc:=prog_cov (T:=(lexS l (1,1)).1) (p:=⟨[],[]⟩) hE ⟨[],rfl,List.nil_sublist _⟩ h;refine⟨fun f hf=>?_,?_⟩
 ·have hs:=(asq_sub hf).trans hc;have hpw:=(placed_pw hg hp).sublist hs;refine⟨?_,fun u hu=>?_⟩
  ·unfold asq at hpw;rw[List.pairwise_map] at hpw;exact hpw
  ·have hm:(u.ln,u.cl) ∈ tps (lexS l (1,1)).1:=hs.subset (List.mem_map.2 ⟨u,hu,rfl⟩);obtain⟨t,ht,e⟩:=List.mem_map.1 hm;obtain⟨o,-,-,e2⟩:=placed_le hp t ht;have:=(adv_pos (1,1) (l.take o) (by decide) (by decide)).1;rw[<-e2] at this;injection e with e1 e3;rw[<-e1];exact this
 have hl:=hc.length_le;unfold tps at hl;rw[List.length_map] at hl
 have e:(sitesU r.1).length=(asqP r.1).length:=by
  unfold sitesU asqP asq;simp only[List.length_flatMap,List.length_map]
 rw[e];exact hl
theorem sx_len {s s':St} (h:Sx s s'):s'.rest.length<=s.rest.length:=by obtain⟨c,h⟩:=h;rw[h,lsa];omega
theorem txt_less {s:St} (h:E4 s) (hw:s.nx.text ≠ []):s.tk.rest.length+1<=s.rest.length:=by
 obtain⟨c,h1,h2⟩:=cov_tk h hw (by unfold St.is;simp);have:=h2.length_le;unfold tps at this;rw[List.length_map,List.length_singleton] at this;rw[h1,lsa];omega
theorem is_less {s:St} (h:E4 s) {w:Bs} (hw:w ≠ []) (hi:s.is w=true):s.tk.rest.length+1<=s.rest.length:=txt_less h (by unfold St.is at hi;rw[eq_of_beq hi];exact hw)
theorem kind_less {s:St} (hk:s.nx.kind≠4):s.tk.rest.length+1<=s.rest.length:=by
 cases hr:s.rest with
 | nil=>unfold St.nx at hk;rw[hr] at hk;exact absurd rfl hk
 | cons t l=>unfold St.tk;rw[if_neg hk,hr];simp
theorem uPre_len (k:Nat) (nm ot:Bs) (z ln cl:Nat) (ks:List U):(uPre (.node k nm ot z ln cl ks)).length=1+(uPres ks).length:=by rw[uPre,lsc];omega
theorem uPre_prt (k:Nat) (t:Tok) (ks:List U):(uPre (prt k t ks)).length=1+(uPres ks).length:=uPre_len ..
theorem uPre_nmd (k:Nat) (t:Tok) (ks:List U):(uPre (nmd k t ks)).length=1+(uPres ks).length:=uPre_len ..
theorem uPres_l1 (a:U):(uPres [a]).length=(uPre a).length:=by simp[uPres]
theorem uPres_l2 (a b:U):(uPres [a,b]).length=(uPre a).length+(uPre b).length:=by simp[uPres]
theorem uPres_l3 (a b c:U):(uPres [a,b,c]).length=(uPre a).length+(uPre b).length+(uPre c).length:=by simp[uPres];omega
theorem uPre_u0:(uPre u0).length=1:=rfl
def PL (n:Nat):Prop:=∀ s x,E4 s->cExpr n s=some x->(uPre x.1).length+3*x.2.rest.length<=3*s.rest.length+1
theorem c_cnt (n:Nat):PL n/\(∀ s x,E4 s->s.is wLet=true->cLet n s=some x->(uPre x.1).length+3*x.2.rest.length<=3*s.rest.length+1)/\(∀ s x,E4 s->s.is wIf=true->cIf n s=some x->(uPre x.1).length+3*x.2.rest.length<=3*s.rest.length+1)/\(∀ s x,E4 s->s.is wMatch=true->cMatch n s=some x->(uPre x.1).length+3*x.2.rest.length<=3*s.rest.length+1)/\(∀ s x,E4 s->s.is wAssert=true->cAssert n s=some x->(uPre x.1).length+3*x.2.rest.length<=3*s.rest.length+1) /\
  (∀ l s x,E4 s->cBin n l s=some x->(uPre x.1).length+3*x.2.rest.length<=3*s.rest.length+1)/\(∀ l e v s x,E4 s->cLoop n l e v s=some x->(uPre x.1).length+3*x.2.rest.length<=(uPre e).length+3*s.rest.length)/\(∀ s x,E4 s->cOne n s=some x->(uPre x.1).length+3*x.2.rest.length<=3*s.rest.length+1)/\(∀ s x,E4 s->cAtom n s=some x->(uPre x.1).length+3*x.2.rest.length<=3*s.rest.length+1)/\(∀ s x,E4 s->cArgs n s=some x->(uPres x.1).length+3*x.2.rest.length<=3*s.rest.length+1)/\(∀ l s x,E4 s->cMore n l s=some x->(uPres x.1).length+3*x.2.rest.length<=(uPres l).length+3*s.rest.length):=by
 induction n with
 | zero=>refine⟨?_,?_,?_,?_,?_,?_,?_,?_,?_,?_,?_⟩<;>intros<;>simp_all [PL,cExpr,cLet,cIf,cMatch,cAssert,cBin,cLoop,cOne,cAtom,cArgs,cMore]
 | succ n ih =>
  obtain⟨i1,i2,i3,i4,i5,i6,i7,i8,i9,i10,i11⟩:=ih;have C:=c_cov n;obtain⟨j1,j2,j3,j4,j5,j6,j7,j8,j9,j10,j11⟩:=C;refine⟨?_,?_,?_,?_,?_,?_,?_,?_,?_,?_,?_⟩
  ·intro s x hE h;rw[cExpr] at h
   split at h
   ·rename_i ha;exact i2 _ _ hE ha h
   split at h
   ·rename_i ha;exact i3 _ _ hE ha h
   split at h
   ·rename_i ha;exact i4 _ _ hE ha h
   split at h
   ·rename_i ha;exact i5 _ _ hE ha h
   exact i6 _ _ _ hE h
  ·intro s x hE ha h;rw[cLet] at h;simp only[Option.bind_eq_some_iff] at h;obtain⟨r1,h1,r2,h2,h3⟩:=h;injection h3 with h3;subst h3;have l0:=is_less hE (by decide) ha;have k1:=(sx_name s.tk).trans (sx_exp _ wEq);have e1:=k1.e4 ((sx_tk s).e4 hE);have a1:=i1 _ _ e1 h1;have k2:=sx_exp r1.2 wIn;have a2:=i1 _ _ (k2.e4 ((j1 _ _ e1 h1).sx.e4 e1)) h2;have b1:=sx_len k1;have b2:=sx_len k2;simp only[uPre_len,uPres_l2];omega
  ·intro s x hE ha h;rw[cIf] at h;simp only[Option.bind_eq_some_iff] at h;obtain⟨r1,h1,r2,h2,r3,h3,h4⟩:=h;injection h4 with h4;subst h4;have l0:=is_less hE (by decide) ha;have e1:=(sx_tk s).e4 hE;have a1:=i1 _ _ e1 h1;have k2:=sx_exp r1.2 wThen;have e2:=k2.e4 ((j1 _ _ e1 h1).sx.e4 e1);have a2:=i1 _ _ e2 h2;have k3:=sx_exp r2.2 wElse;have a3:=i1 _ _ (k3.e4 ((j1 _ _ e2 h2).sx.e4 e2)) h3;have b2:=sx_len k2;have b3:=sx_len k3;rw[uPre_prt,uPres_l3];simp only;omega
  ·intro s x hE ha h;rw[cMatch] at h;simp only[Option.bind_eq_some_iff] at h;obtain⟨r1,h1,r2,h2,r3,h3,h4⟩:=h;injection h4 with h4;subst h4;have l0:=is_less hE (by decide) ha;have e1:=(sx_tk s).e4 hE;have a1:=i1 _ _ e1 h1;have k2:=((sx_exp r1.2 wWith).trans (sx_exp _ wNil)).trans (sx_exp _ wArrow);have e2:=k2.e4 ((j1 _ _ e1 h1).sx.e4 e1);have a2:=i1 _ _ e2 h2;have k3:=((((sx_exp r2.2 wBar).trans (sx_name _)).trans (sx_exp _ wCons)).trans (sx_name _)).trans (sx_exp _ wArrow);have a3:=i1 _ _ (k3.e4 ((j1 _ _ e2 h2).sx.e4 e2)) h3;have b2:=sx_len k2;have b3:=sx_len k3;simp only[uPre_len,uPres_l3];omega
  ·intro s x hE ha h;rw[cAssert] at h;simp only[Option.bind_eq_some_iff] at h;obtain⟨r1,h1,r2,h2,h3⟩:=h;injection h3 with h3;subst h3;have l0:=is_less hE (by decide) ha;have e1:=(sx_tk s).e4 hE;have a1:=i1 _ _ e1 h1;have k2:=sx_exp r1.2 wSemi;have a2:=i1 _ _ (k2.e4 ((j1 _ _ e1 h1).sx.e4 e1)) h2;have b2:=sx_len k2;rw[uPre_prt,uPres_l2];simp only;omega
  ·intro l s x hE h;rw[cBin,Option.bind_eq_some_iff] at h;obtain⟨r1,h1,h2⟩:=h;have a1:=i8 _ _ hE h1;have a2:=i7 _ _ _ _ _ ((j8 _ _ hE h1).sx.e4 hE) h2
   omega
  ·intro l e v s x hE h;rw[cLoop] at h
   split at h
   ·injection h with h;subst h;simp only;omega
   rename_i op hop
   split at h
   ·injection h with h;subst h;simp only;omega
   rw[Option.bind_eq_some_iff] at h;obtain⟨r1,h1,h2⟩:=h;have l0:=txt_less hE (fun e=>by rw[e,show bopOf []=none from by decide] at hop;cases hop);have e1:=(sx_tk s).e4 hE;have a1:=i6 _ _ _ e1 h1;have a2:=i7 _ _ _ _ _ ((j6 _ _ _ e1 h1).sx.e4 e1) h2;rw[uPre_prt,uPres_l2] at a2
   omega
  ·intro s x hE h;rw[cOne] at h
   split at h
   ·exact i9 _ _ hE h
   rename_i k hk
   rw[Option.bind_eq_some_iff] at h;obtain⟨r1,h1,h2⟩:=h;injection h2 with h2;subst h2;have l0:=txt_less hE (fun e=>by rw[e,show unOf []=none from by decide] at hk;cases hk);have a1:=i8 _ _ ((sx_tk s).e4 hE) h1;rw[uPre_prt,uPres_l1];simp only;omega
  ·intro s x hE h;have l1:=sx_len (sx_tk s);have l2:=sx_len (sx_tk s.tk);have l3:=sx_len ((sx_tk s).trans (sx_fail s.tk s.nx 1));rw[cAtom] at h
   split at h
   ·injection h with h;subst h;simp only[uPre_len,uPres,lsn];omega
   split at h
   ·rename_i hk1 hk0
    have l0:=kind_less (s:=s) (by omega)
    split at h
    ·rw[Option.bind_eq_some_iff] at h;obtain⟨r1,h1,h2⟩:=h;injection h2 with h2;subst h2;have a1:=i10 _ _ (((sx_tk s).trans (sx_tk _)).e4 hE) h1;rw[uPre_nmd];simp only;omega
    injection h with h;subst h;rw[uPre_nmd];simp only[uPres,lsn];omega
   split at h
   ·injection h with h;subst h;rw[uPre_nmd];simp only[uPres,lsn];omega
   split at h
   ·injection h with h;subst h;rw[uPre_prt];simp only[uPres,lsn];omega
   split at h
   ·injection h with h;subst h;rw[uPre_prt];simp only[uPres,lsn];omega
   split at h
   ·injection h with h;subst h;rw[uPre_prt];simp only[uPres,lsn];omega
   split at h
   ·rw[Option.bind_eq_some_iff] at h;obtain⟨r1,h1,h2⟩:=h;injection h2 with h2;subst h2;have a1:=i1 _ _ ((sx_tk s).e4 hE) h1;have b:=sx_len (sx_exp r1.2 wClose);simp only;omega
   injection h with h;subst h;rw[uPre_u0];simp only;omega
  ·intro s x hE h;rw[cArgs] at h
   split at h
   ·injection h with h;subst h;have:=sx_len (sx_tk s);simp only[uPres,lsn];omega
   rw[Option.bind_eq_some_iff] at h;obtain⟨r1,h1,h2⟩:=h;have a1:=i1 _ _ hE h1;have a2:=i11 _ _ _ ((j1 _ _ hE h1).sx.e4 hE) h2;rw[uPres_l1] at a2
   omega
  intro l s x hE h;rw[cMore] at h
  split at h
  ·rename_i ha
   rw[Option.bind_eq_some_iff] at h;obtain⟨r1,h1,h2⟩:=h;have l0:=is_less hE (by decide) ha;have e1:=(sx_tk s).e4 hE;have a1:=i1 _ _ e1 h1;have a2:=i11 _ _ _ ((j1 _ _ e1 h1).sx.e4 e1) h2;rw[uPres_app,lsa,uPres_l1] at a2
   omega
  injection h with h;subst h;have:=sx_len (sx_exp s wClose);simp only;omega
theorem fun_cnt {m n c:Nat} {s:St} {x:FnU × St} (hE:E4 s) (h:cFun m n c s=some x):(uPre x.1.body).length<=3*s.rest.length+1:=by
 unfold cFun at h;simp only[Option.bind_eq_some_iff] at h;obtain⟨r,h1,t,h2,q,h3,h4⟩:=h;injection h4 with h4;subst h4;have k0:=(sx_counted s c 20).trans (sx_exp _ wOpen);have k1:=(k0.trans (fpars_sx (k0.e4 hE) h1)).trans (sx_exp _ wColon);have k2:=(k1.trans (res_sx (k1.e4 hE) h2)).trans (sx_exp _ wEq);unfold cAll at h3;rw[Option.bind_eq_some_iff] at h3;obtain⟨r3,h5,h6⟩:=h3;injection h6 with h6;subst h6;have:=(c_cnt n).1 _ _ (k2.e4 hE) h5;have hl:=sx_len k2;simp only;omega
theorem prog_cnt2 {n N:Nat}:∀ {m:Nat} {p:PgU} {s:St} {x:PgU × St},E4 s->s.rest.length<=N->(∀ f ∈ p.fs,(uPre f.body).length<=3*N+1)->cProg m n p s=some x->∀ f ∈ x.1.fs,(uPre f.body).length<=3*N+1
 | 0,_,_,_,_,_,_,h=>by rw[cProg] at h;cases h
 | m+1,p,s,x,hE,hN,hp,h=>by
  have ht:=sx_len (sx_tk s);rw[cProg] at h
  split at h
  ·rw[Option.bind_eq_some_iff] at h;obtain⟨r,h1,h2⟩:=h;have k:=(sx_tk s).trans (qual_sx ((sx_tk s).e4 hE) h1);exact prog_cnt2 (p:=⟨p.qs++[r.1],p.fs⟩) (k.e4 hE) (Nat.le_trans (sx_len k) hN) hp h2
  split at h
  ·rw[Option.bind_eq_some_iff] at h;obtain⟨r,h1,h2⟩:=h;have c1:=fun_cov ((sx_tk s).e4 hE) h1;have k:=(sx_tk s).trans c1.sx;refine prog_cnt2 (p:=⟨p.qs,p.fs++[r.1]⟩) (k.e4 hE) (Nat.le_trans (sx_len k) hN) (fun f hf=>?_) h2;rcases List.mem_append.1 hf with hf | hf
   ·exact hp f hf
   obtain rfl:f=r.1:=by simpa using hf
   have:=fun_cnt ((sx_tk s).e4 hE) h1
   omega
  injection h with h;subst h;exact hp
end Go.Proofs.YtkocdbgmckdcpaaGreatDoor
namespace Go.Proofs.YtkocdbgmckdcpaaGreatDoor
open Go.RowKit Go.Maps Go.MapKept Go.ChangeMaps Go.WideShapes Go.WideMaps
open Go.WideElems (Fit rd rg pl rd_val rd_key rg_of elemAt)
set_option maxRecDepth 100000
set_option linter.unusedVariables false
def rdV (v:Value):Option (DataW Value × List MemPlace):=some (.held v,[])
def bsv (s:Bs):Value:=.string ⟨s.toArray⟩
def MapIs (P:Program) (k:TypeId) (w:World) (b:Nat) (m:Bs->Option Value):Prop:=
 ∃ n D,w.ownsMap P k rdV b n D/\∀ s:Bs,s.length<=maxLen->(m s=none->has D (.string s)=false)/\∀ v,m s=some v->has D (.string s)=true/\∀ z,D.atKey (.string s) z=.held v
def DomV (m:Bs->Option Value) (n:Nat):Prop:=∃ L:List Bs,L.length<=n/\∀ x,(m x).isSome->x ∈ L
section
variable {P:Program} {k:TypeId} {w:World} {b:Nat} {m:Bs->Option Value}
theorem key_bs (hk:P.underlying k=some .string) {s:Bs} (hs:s.length<=maxLen):keyOf P k (bsv s)=some (.string s):=by
 unfold bsv;rw[keyOf_string_mk hk (show (⟨s.toArray⟩:ByteArray).size<=maxLen from hs)]
theorem isKey_bs (s:Bs):WideAt.IsKeyLit (.string s):=trivial
theorem str_ne {s t:Bs} (h:t≠s):(Lit.string t)≠(Lit.string s):=fun e=>h (by injection e)
theorem MapIs.keep {w':World} (h:MapIs P k w b m) (hb:w'.heap[b]?=w.heap[b]?):MapIs P k w' b m:=by
 obtain⟨n,D,⟨es,clock,h1,h2⟩,h3⟩:=h;exact⟨n,D,⟨es,clock,hb.trans h1,h2⟩,h3⟩
theorem MapIs.lt (h:MapIs P k w b m):b<w.heap.size:=by obtain⟨n,D,h1,-⟩:=h;exact h1.lt
theorem MapIs.made (w:World) (P:Program) (k:TypeId):MapIs P k (w.alloc (.map #[] 0)) w.heap.size (fun _=>none):=
 ⟨0,_,World.ownsMap_made w P k rdV,fun s hs=>⟨fun _=>rfl,fun v h=>by cases h⟩⟩
theorem MapIs.look_ok {t e:TypeId} (h:MapIs P k w b m) (hk:P.underlying k=some .string) (ht:P.underlying t=some (.map k e)) {z:Value} (hz:(zeroValue e).run P w=.ok z w) {s:Bs} (hs:s.length<=maxLen) :
  (Instr.lookup t (.map (some b)) (bsv s) true).run P w=.ok (.tuple #[(m s).getD z,.bool (m s).isSome]) w:=by
 obtain⟨n,D,h1,h3⟩:=h;obtain⟨v,ps,hr,hv⟩:=h1.look_ok (string_keyed hk) ht hz (zd:=.held z) (zp:=[]) rfl (key_bs hk hs);rw[hr];obtain⟨q1,q2⟩:=h3 s hs;unfold rdV at hv;simp only[Option.some.injEq,Prod.mk.injEq] at hv
 cases hm:m s with
 | none =>
  rw[q1 hm];have e1:=atKey_of_not_has (q1 hm) (.held z);rw[e1] at hv;obtain⟨hv,-⟩:=hv;injection hv with hv;rw[hv];rfl
 | some u =>
  obtain⟨a1,a2⟩:=q2 u hm;rw[a1];rw[a2] at hv;obtain⟨hv,-⟩:=hv;injection hv with hv;rw[hv];rfl
theorem nodup_len:∀ {A B:List Bs},A.Pairwise (· ≠ ·)->(∀ x ∈ A,x ∈ B)->A.length<=B.length
 | [],B,_,_=>Nat.zero_le _
 | a::A,B,hp,hs=>by
  obtain⟨h1,h2⟩:=List.pairwise_cons.1 hp;have hB:a ∈ B:=hs a (by simp);have:=nodup_len (A:=A) (B:=B.erase a) h2 fun x hx=>(List.mem_erase_of_ne (fun e=>h1 x hx e.symm)).2 (hs x (by simp[hx]))
  rw[List.length_erase_of_mem hB] at this;have hpos:0<B.length:=List.length_pos_of_mem hB;simp only[lsc];omega
theorem map_size {es:Array MapEntry} {clock n:Nat} {D:DataW Value} (hk:P.underlying k=some .string) (F:Fit P k rdV es clock) (hD:D=.map ((es.toList.map (rg P k rdV)).foldr DataW.insert [])) (hm:∀ s:Bs,s.length<=maxLen->(m s=none->has D (.string s)=false))
  (hd:DomV m n):es.size<=n:=by
 obtain⟨L,hL,hx⟩:=hd
 have hkey:∀ x ∈ es.toList,∃ s:Bs,s.length<=maxLen/\x.key=bsv s/\(rg P k rdV x).1=.string s:=by
  intro x hx;obtain⟨y,hy⟩:=F.reads x hx;have h1:=rd_key hy;rw[keyOf_string hk] at h1;rw[rg_of hy]
  cases hv:x.key<;>simp[mapKey,hk,hv] at h1
  rename_i s
  refine⟨s.data.toList,h1.1,?_,h1.2.symm⟩;unfold bsv;rfl
 have hin:∀ x ∈ es.toList,∀ s,(rg P k rdV x).1=.string s->s.length<=maxLen->s ∈ L:=by
  intro x hxe s hs hl;refine hx s ?_
  cases hms:m s with
  | some v=>rfl
  | none =>
   have h0:=hm s hl hms;rw[hD,has_eq] at h0;have hmem:rg P k rdV x ∈ (es.toList.map (rg P k rdV)).foldr DataW.insert []:=(WideShapes.sorted_perm _).mem_iff.2 (List.mem_map_of_mem hxe);have:=List.any_eq_false.1 h0 _ hmem;rw[hs,WideAt.sameKey_self (isKey_bs s)] at this;exact absurd rfl this
 have hp:=Maps.fit_apart (string_keyed hk) F
 let g:MapEntry->Bs:=fun x=>match (rg P k rdV x).1 with | .string s=>s | _=>[]
 have h1:(es.toList.map g).Pairwise (· ≠ ·):=by
  rw[List.pairwise_map] at hp ⊢;refine List.Pairwise.imp_of_mem ?_ hp;intro a c ha hc hne e;obtain⟨s,-,-,hs⟩:=hkey a ha;obtain⟨t,-,-,ht⟩:=hkey c hc;simp only[g,hs,ht] at e;exact hne (by rw[hs,ht,e])
 have h2:∀ x ∈ es.toList.map g,x ∈ L:=by
  intro x hxm;obtain⟨y,hy,rfl⟩:=List.mem_map.1 hxm;obtain⟨s,hl,-,hs⟩:=hkey y hy;simp only[g,hs];exact hin y hy s hs hl
 have:=nodup_len h1 h2;simp only[List.length_map,Array.length_toList] at this
 omega
theorem MapIs.update {t e:TypeId} (h:MapIs P k w b m) (hk:P.underlying k=some .string) (ht:P.underlying t=some (.map k e)) {n:Nat} (hd:DomV m n) (hn:n<maxLen) {s:Bs} (hs:s.length<=maxLen) (v:Value) :
  ∃ w',(Instr.mapUpdate t (.map (some b)) (bsv s) v).run P w=.ok () w'/\MapIs P k w' b (fun x=>if x=s then some v else m x)/\w.grownBy w' (some b):=by
 obtain⟨n',D,⟨es,clock,hb,F,hsz,hD⟩,h3⟩:=h;have hle:=map_size hk F hD (fun s hs=>(h3 s hs).1) hd;have ho:w.ownsMap P k rdV b n D:=⟨es,clock,hb,F,hle,hD⟩
 obtain⟨w',h1,h2,h4⟩:=ho.update (string_keyed hk) ht hn (key_bs hk hs) (d:=.held v) (ps:=[]) rfl;refine⟨w',h1,⟨_,_,h2,fun x hx=>?_⟩,h4⟩
 dsimp only
 by_cases hxs:x=s
 ·subst hxs;rw[if_pos rfl];refine⟨fun h=>(by cases h),fun u hu=>?_⟩;injection hu with hu;subst hu;exact⟨has_put_same ho.isMap (isKey_bs _) _,fun z=>atKey_put_same ho.isMap (isKey_bs _) _ z⟩
 rw[if_neg hxs];obtain⟨q1,q2⟩:=h3 x hx;refine⟨fun h=>by rw[has_put_other (str_ne hxs)];exact q1 h,fun u hu=>?_⟩;rw[has_put_other (str_ne hxs)];exact⟨(q2 u hu).1,fun z=>by rw[atKey_put_other (str_ne hxs)];exact (q2 u hu).2 z⟩
theorem MapIs.drop {t e:TypeId} (h:MapIs P k w b m) (hk:P.underlying k=some .string) (ht:P.underlying t=some (.map k e)) {s:Bs} (hs:s.length<=maxLen) (ty:TypeId) :
  ∃ w',(Builtin.delete_ #[t,k] ty #[.map (some b),bsv s]).run P w=.ok (.tuple #[]) w'/\MapIs P k w' b (fun x=>if x=s then none else m x)/\w.grownBy w' (some b):=by
 obtain⟨n',D,ho,h3⟩:=h;obtain⟨w',h1,h2,h4⟩:=ho.drop (string_keyed hk) ht (key_bs hk hs) ty;refine⟨w',h1,⟨_,_,h2,fun x hx=>?_⟩,h4.grown⟩
 dsimp only
 by_cases hxs:x=s
 ·subst hxs;rw[if_pos rfl];exact⟨fun _=>has_del_same,fun u hu=>by cases hu⟩
 rw[if_neg hxs];obtain⟨q1,q2⟩:=h3 x hx;refine⟨fun h=>by rw[has_del_other (str_ne hxs)];exact q1 h,fun u hu=>?_⟩;rw[has_del_other (str_ne hxs)];exact⟨(q2 u hu).1,fun z=>by rw[atKey_del_other (str_ne hxs)];exact (q2 u hu).2 z⟩
theorem MapIs.clear {t e:TypeId} (h:MapIs P k w b m) (ht:P.underlying t=some (.map k e)) (ty:TypeId) :
  ∃ w',(Builtin.clear_ #[t] ty #[.map (some b)]).run P w=.ok (.tuple #[]) w'/\MapIs P k w' b (fun _=>none)/\w.grownBy w' (some b):=by
 obtain⟨n',D,⟨es,clock,hb,F,hsz,hD⟩,h3⟩:=h
 refine⟨setBlock w b (.map #[] clock),?_,⟨0,.map [],⟨#[],clock,heap_setBlock_same hb _,⟨by simp,stamped_empty clock,by simp⟩,Nat.le_refl _,rfl⟩,fun s hs=>⟨fun _=>rfl,fun v h=>by cases h⟩⟩,
  ⟨rfl,rfl,rfl,by simp[setBlock],fun i _ hi=>heap_setBlock_other hb _ (fun e=>hi (by rw[e]))⟩⟩
 simp[Builtin.clear_,run_underlying ht,MapKept.run_getObj_map hb,run_setObj_map (.map #[] clock) hb,Result.andThen,setBlock]
theorem MapIs.copy (h:MapIs P k w b m):∃ es clock,w.heap[b]?=some (.map es clock)/\∀ w',w'.heap[w.heap.size]?=some (.map es clock)->MapIs P k w' w.heap.size m:=by
 obtain⟨n',D,⟨es,clock,hb,F,hsz,hD⟩,h3⟩:=h;exact⟨es,clock,hb,fun w' hw=>⟨n',D,⟨es,clock,hw,F,hsz,hD⟩,h3⟩⟩
end
section
variable {P:Program} (w:World) {ops:Array Oper} {rest:List Oper} {o:Oper} {a:Act} {Q:Exit->Act->World->Prop}
theorem wp_look_ok (hg:o.guard=none) (m x:Operand) (t:TypeId) (hop:o.op=Op.lookup t m x true) (k e:TypeId) (hk:P.underlying k=some .string) (ht:P.underlying t=some (.map k e)) {z:Value} (hz:(zeroValue e).run P w=.ok z w) (b:Nat) (M:Bs->Option Value)
  (hm:a.eval m=.map (some b)) (h:MapIs P k w b M) (s:Bs) (hx:a.eval x=.string ⟨s.toArray⟩) (hs:s.length<=maxLen)
  (hK:wpList P ops Q rest (a.put o.dst (.tuple #[(M s).getD z,.bool (M s).isSome])) w):wpList P ops Q (o::rest) a w:=by
 refine wpList_plain hg fun K' hK'=>?_
 have hrun:=h.look_ok hk ht hz hs;unfold bsv at hrun;unfold Oper.wp
 simp[execOp,hop,hm,hx,hrun,Result.andThen]
 exact hK' _ _ hK
theorem wp_update (hg:o.guard=none) (m x v:Operand) (t:TypeId) (hop:o.op=Op.mapUpdate t m x v) (k e:TypeId) (hk:P.underlying k=some .string) (ht:P.underlying t=some (.map k e)) (b:Nat) (M:Bs->Option Value)
  (hm:a.eval m=.map (some b)) (h:MapIs P k w b M) {n:Nat} (hd:DomV M n) (hn:n<maxLen) (s:Bs) (hx:a.eval x=.string ⟨s.toArray⟩) (hs:s.length<=maxLen) (u:Value) (hv:a.eval v=u)
  (hK:∀ w',MapIs P k w' b (fun x=>if x=s then some u else M x)->w.grownBy w' (some b)->wpList P ops Q rest (a.put o.dst undef) w'):wpList P ops Q (o::rest) a w:=by
 refine wpList_plain hg fun K' hK'=>?_
 obtain⟨w',hrun,r1,r2⟩:=h.update hk ht hd hn hs u;unfold bsv at hrun;unfold Oper.wp
 simp[execOp,hop,hm,hx,hv,hrun,Result.andThen]
 exact hK' _ _ (hK w' r1 r2)
theorem wp_drop (hg:o.guard=none) (m x:Operand) (t k:TypeId) (hop:o.op=Op.call { callee:=Callee.builtin Builtin.delete,args:=#[m,x],argTypes:=#[t,k] }) (e:TypeId) (hk:P.underlying k=some .string) (ht:P.underlying t=some (.map k e)) (b:Nat) (M:Bs->Option Value)
  (hm:a.eval m=.map (some b)) (h:MapIs P k w b M) (s:Bs) (hx:a.eval x=.string ⟨s.toArray⟩) (hs:s.length<=maxLen)
  (hK:∀ w',MapIs P k w' b (fun x=>if x=s then none else M x)->w.grownBy w' (some b)->wpList P ops Q rest (a.put o.dst (.tuple #[])) w'):wpList P ops Q (o::rest) a w:=by
 refine wpList_plain hg fun K' hK'=>?_
 obtain⟨w',hrun,r1,r2⟩:=h.drop hk ht hs o.type;unfold bsv at hrun;unfold Oper.wp
 simp[execOp,hop,resolve,invoke,builtin,hm,hx,hrun,Result.andThen]
 exact hK' _ _ (hK w' r1 r2)
theorem wp_clear (hg:o.guard=none) (m:Operand) (t:TypeId) (hop:o.op=Op.call { callee:=Callee.builtin Builtin.clear,args:=#[m],argTypes:=#[t] }) (k e:TypeId) (ht:P.underlying t=some (.map k e)) (b:Nat) (M:Bs->Option Value)
  (hm:a.eval m=.map (some b)) (h:MapIs P k w b M)
  (hK:∀ w',MapIs P k w' b (fun _=>none)->w.grownBy w' (some b)->wpList P ops Q rest (a.put o.dst (.tuple #[])) w'):wpList P ops Q (o::rest) a w:=by
 refine wpList_plain hg fun K' hK'=>?_
 obtain⟨w',hrun,r1,r2⟩:=h.clear ht o.type;unfold Oper.wp
 simp[execOp,hop,resolve,invoke,builtin,hm,hrun,Result.andThen]
 exact hK' _ _ (hK w' r1 r2)
end
end Go.Proofs.YtkocdbgmckdcpaaGreatDoor
namespace Go.Proofs.YtkocdbgmckdcpaaGreatDoor
open Go.RowKit
set_option maxRecDepth 100000
def arW (k:Nat):Int:=if k=24 then -1 else (ar k:Int)
def ArT (w:World):Prop:=∀ i,i<29->w.cell? ⟨2,i,none⟩=some (.int .i64 (arW i))
theorem ArT.below {w w':World} (h:ArT w) (hb:Below w.heap.size w w'):ArT w':=fun i hi=>by rw[hb.cell (cell_lt (h i hi))];exact h i hi
theorem arityW_ok (k:Nat) (z:Int) (hk:k<29) (hz:arW k=z) (w:World) (ht:ArT w) :
  Calls Tryz.prog 104 #[.int .i64 (k:Nat)] w fun e w'=>e=.returned (.int .i64 z)/\w=w':=by
 have c:=ht k hk;rw[hz] at c;clear hz ht;go_enter Tryz.func104,Tryz.ntmps104
 go_wp2
 go_ret
 exact⟨rfl,rfl⟩
theorem isNatW (ao:Option Addr) (n c z:Nat) (w:World) (h:Sl w .u32 (.slice ao n c) (dig L32 z)) :
  Calls Tryz.prog 105 #[.agg #[.bool false,.slice ao n c]] w fun e w'=>e=.returned (.bool true)/\Below w.heap.size w w':=by
 obtain⟨ao',cap,e,h1,h2,h3,h4⟩:=h;injection e with e1 e2 e3;subst e1 e3 e2
 by_cases h0:(dig L32 z).length=0
 ·have hz:(((dig L32 z).length:Int)==0)=true:=by rw[h0];rfl
  have H0:=h_ h0;clear h0 h4;go_enter Tryz.func105,Tryz.ntmps105
  go_wp2
  go_ret
  exact⟨rfl,(Below.refl _ _).alloc (Nat.le_refl _) _⟩
 obtain⟨a,rfl,hc⟩:=h4 ((dig L32 z).length - 1) (by omega);have hl:=dig_last (B:=L32) (n:=z) (by decide) (by omega);have hd:=(Dig_dig (B:=L32) (by decide) z).getD (by decide) ((dig L32 z).length - 1);have hp:nth (dig L32 z) ((dig L32 z).length - 1)≠0:=by unfold nth;omega
 have hn:((nth (dig L32 z) ((dig L32 z).length - 1)) != 0)=true:=by simpa using hp
 have hca:(w.alloc (.cells #[.bool false,.slice (some a) (dig L32 z).length c] 44)).cell? (a.add ((dig L32 z).length - 1))=some (.int .u32 (nth (dig L32 z) ((dig L32 z).length - 1))):=by
  rw[World.cell?_alloc_lt _ _ _ (cell_lt hc)];exact hc
 have hz:(((dig L32 z).length:Int)==0)=false:=by rw[beq_eq_false_iff_ne];omega
 have hp1:1<=(dig L32 z).length:=by omega
 clear h4 hc hl hd hp h0;generalize nth (dig L32 z) ((dig L32 z).length - 1)=q at *;generalize (dig L32 z).length=n at *;go_enter Tryz.func105,Tryz.ntmps105
 go_wp2
 go_ret
 exact⟨rfl,(Below.refl _ _).alloc (Nat.le_refl _) _⟩
theorem arW_ne (n:Nat):(((n:Nat):Int) != -1)=true:=by simp
theorem right_p (d:Nat) (hd:d<=4000000000000000000) (x:X) (u:U) (w:World) (S:Nat->Prop) (ht:ArT w) (h:Um w S x u) (hB:Bnd u) (ho:ud u<=d) :
  Calls Tryz.prog 72 #[xv x] w fun e w'=>e=.returned (.bool true)/\Below w.heap.size w w':=by
 induction d generalizing x u w with
 | zero=>obtain⟨k,nm,ot,z,ln,cl,ks⟩:=u;rw[ud] at ho;omega
 | succ d ih =>
  obtain⟨k,nm,ot,z,ln,cl,ks⟩:=u;rw[Um] at h;rw[Bnd] at hB;obtain⟨⟨hk,ha⟩,-,-,hks⟩:=hB;obtain⟨⟨e1,e2,e3,e4,e5,e6⟩,⟨h2,h3⟩,⟨h4,h5,h6⟩,h7⟩:=h;obtain⟨xk,xnm,xot,xb,xao,xn,xc,xko,xkn,xkc,xln,xcl⟩:=x;simp only at e1 e2 e3 e4 e5 e6 h2 h3 h4 h5 h6 h7;have HK:=h_ (fun j (hj:j<ks.length)=>ums_get 0 j h7 hj);have HKS:=h_ (fun j (hj:j<ks.length)=>bnds_mem hks (List.getElem_mem hj));have HKD:=h_ (fun j (hj:j<ks.length)=>uds_mem (List.getElem_mem hj));clear h7 hks;subst e1 e2 e3 e4 e5 e6;subst h4;rw[ud] at ho;have hkl:ks.length<=9223372036854775807:=Nat.le_trans h5.1 h5.2;have HS:=h_ h2;have HT:=h_ ht;have IH:=h_ ih;have hdd:uds ks<=d:=by omega
  have AR:∃ r:Int,arW k=r/\((r = -1)\/r=(ks.length:Int)):=by
   refine⟨_,rfl,?_⟩;unfold arW
   split
   ·exact .inl rfl
   rcases ha with ha | ha
   ·exact absurd ha (by assumption)
   exact .inr (by rw[ha])
  obtain⟨r,hr,hr2⟩:=AR;have HR:=h_ hr;clear h2 h3 h5 h6 ih ha ht hr ho;simp only[xv]
  by_cases hk0:k=0
  ·subst hk0;have hr0:r=0:=by rw[<-HR.out];rfl
   have hl0:ks.length=0:=by
    rcases hr2 with e | e
    ·rw[hr0] at e;exact absurd e (by decide)
    rw[hr0] at e;omega
   have hks0:ks=[]:=List.eq_nil_of_length_eq_zero hl0;subst hr0;clear hr2 hl0;subst hks0;clear HK HKS HKD;simp only[lsn];go_enter Tryz.func72,Tryz.ntmps72
   go_wp2_with fail
   refine (arityW_ok 0 0 hk HR.out _ (HT.out.below ((Below.refl _ _).alloc (Nat.le_refl _) _))).mono ?_;rintro e w1 ⟨rfl,rfl⟩;go_wp2_with fail
   refine (isNatW xao xn xc z _ (HS.out.below ((Below.refl _ _).alloc (Nat.le_refl _) _))).mono ?_;rintro e w1 ⟨rfl,hb1⟩
   have hcell:w1.cell? ⟨w.heap.size,5,none⟩=some (.slice xko 0 xkc):=by
    rw[hb1.cell (by simp)];exact cell_of_row _ _ 5 _ _ (0,0) (made_at w _ _ rfl)
   have HB0:=h_ (((Below.refl w.heap.size w).alloc (Nat.le_refl _) _).trans (hb1.mono (by simp)));clear hb1;go_wp2_with fail
   go_loopw [30] (fun i wr=>i=.int .i64 0/\Below w.heap.size w wr) (fun i _=>0)
   case atStart=>exact⟨rfl,HB0.out⟩
   case round =>
    obtain⟨rfl,hb⟩:=hrel;have HB:=h_ hb;clear hb;go_wp2_with fail
    go_ret
    exact⟨rfl,HB.out⟩
  have hkz:(((k:Nat):Int)==0)=false:=by rw[beq_eq_false_iff_ne];omega
  have hne:=arW_ne ks.length;have HB0:=h_ ((Below.refl w.heap.size w).alloc (Nat.le_refl _) (.cells #[.int .i64 (k:Nat),.string ⟨nm.toArray⟩,.string ⟨ot.toArray⟩,.bool false,.slice xao xn xc,.slice xko ks.length xkc,.int .i64 (ln:Nat),.int .i64 (cl:Nat)] 46));rcases hr2 with rfl | rfl
  ·go_enter Tryz.func72,Tryz.ntmps72
   go_wp2_with fail
   refine (arityW_ok k (-1) hk HR.out _ (HT.out.below ((Below.refl _ _).alloc (Nat.le_refl _) _))).mono ?_;rintro e w1 ⟨rfl,rfl⟩;go_wp2_with fail
   go_loopw [30] (fun i wr=>∃ j:Nat,i=.int .i64 (j:Nat)/\j<=ks.length/\Below w.heap.size w wr) (fun i _=>ks.length - (intOf i).toNat)
   case atStart=>exact⟨0,rfl,Nat.zero_le _,HB0.out⟩
   case round =>
    obtain⟨j,rfl,hj,hb⟩:=hrel
    by_cases hlt:j<ks.length
    ·obtain⟨y,hA,hT⟩:=HK.out j hlt;rw[Nat.zero_add] at hA;have hT':=hT.below hb;have hTb:=HT.out.below hb;obtain⟨a,rfl,hc⟩:=hA.keep fun a ha=>hb.block _ (hA.lt a ha)
     obtain⟨c0,c1,c2,c3,c4,c5,c6,c7⟩:=cells8 hc;have HB:=h_ hb;have HTr:=h_ hT';have HTb:=h_ hTb;clear hc hA hT hT' hb hTb;go_wp2_with fail
     refine (IH.out (by omega) y _ _ (HTb.out.below ((Below.refl _ _).alloc (Nat.le_refl _) _)) (HTr.out.below ((Below.refl _ _).alloc (Nat.le_refl _) _)) (HKS.out j hlt) (Nat.le_trans (HKD.out j hlt) hdd)).mono ?_;rintro e w2 ⟨rfl,hb2⟩;have HB2:=h_ hb2;clear hb2 c0 c1 c2 c3 c4 c5 c6 c7;go_wp2_with fail
     go_roundw
     case rel=>exact⟨j+1,by go_num,by omega,(HB.out.alloc HB.out.size _).trans (HB2.out.mono (by have:=HB.out.size;simp;omega))⟩
     case measure=>simp[intOf];omega
    have e:j=ks.length:=by omega
    subst e;have HB:=h_ hb;clear hb;go_wp2_with fail
    go_ret
    exact⟨rfl,HB.out⟩
  go_enter Tryz.func72,Tryz.ntmps72
  go_wp2_with fail
  refine (arityW_ok k _ hk HR.out _ (HT.out.below ((Below.refl _ _).alloc (Nat.le_refl _) _))).mono ?_;rintro e w1 ⟨rfl,rfl⟩;go_wp2_with fail
  go_loopw [30] (fun i wr=>∃ j:Nat,i=.int .i64 (j:Nat)/\j<=ks.length/\Below w.heap.size w wr) (fun i _=>ks.length - (intOf i).toNat)
  case atStart=>exact⟨0,rfl,Nat.zero_le _,HB0.out⟩
  case round =>
   obtain⟨j,rfl,hj,hb⟩:=hrel
   by_cases hlt:j<ks.length
   ·obtain⟨y,hA,hT⟩:=HK.out j hlt;rw[Nat.zero_add] at hA;have hT':=hT.below hb;have hTb:=HT.out.below hb;obtain⟨a,rfl,hc⟩:=hA.keep fun a ha=>hb.block _ (hA.lt a ha)
    obtain⟨c0,c1,c2,c3,c4,c5,c6,c7⟩:=cells8 hc;have HB:=h_ hb;have HTr:=h_ hT';have HTb:=h_ hTb;clear hc hA hT hT' hb hTb;go_wp2_with fail
    refine (IH.out (by omega) y _ _ (HTb.out.below ((Below.refl _ _).alloc (Nat.le_refl _) _)) (HTr.out.below ((Below.refl _ _).alloc (Nat.le_refl _) _)) (HKS.out j hlt) (Nat.le_trans (HKD.out j hlt) hdd)).mono ?_;rintro e w2 ⟨rfl,hb2⟩;have HB2:=h_ hb2;clear hb2 c0 c1 c2 c3 c4 c5 c6 c7;go_wp2_with fail
    go_roundw
    case rel=>exact⟨j+1,by go_num,by omega,(HB.out.alloc HB.out.size _).trans (HB2.out.mono (by have:=HB.out.size;simp;omega))⟩
    case measure=>simp[intOf];omega
   have e:j=ks.length:=by omega
   subst e;have HB:=h_ hb;clear hb;go_wp2_with fail
   go_ret
   exact⟨rfl,HB.out⟩
end Go.Proofs.YtkocdbgmckdcpaaGreatDoor
namespace Go.Proofs.YtkocdbgmckdcpaaGreatDoor
open Go.RowKit Go.Maps
set_option maxRecDepth 100000
set_option linter.unusedVariables false
structure Fc (w w':World) (g b:Nat):Prop where
 os:w'.os=w.os
 tape:w'.tape=w.tape
 output:w'.output=w.output
 size:w.heap.size<=w'.heap.size
 block:∀ k,k<w.heap.size->k≠g->k≠b->w'.heap[k]?=w.heap[k]?
theorem Fc.refl (w:World) (g b:Nat):Fc w w g b:=⟨rfl,rfl,rfl,Nat.le_refl _,fun _ _ _ _=>rfl⟩
theorem Fc.trans {a b c:World} {g s:Nat} (h:Fc a b g s) (k:Fc b c g s):Fc a c g s:=
 ⟨k.os.trans h.os,k.tape.trans h.tape,k.output.trans h.output,Nat.le_trans h.size k.size,fun i hi h1 h2=>(k.block i (Nat.lt_of_lt_of_le hi h.size) h1 h2).trans (h.block i hi h1 h2)⟩
theorem Fc.of_below {w w':World} (h:Below w.heap.size w w') (g b:Nat):Fc w w' g b:=⟨h.os,h.tape,h.output,h.size,fun k hk _ _=>h.block k hk⟩
theorem Fc.of_g {w w':World} {g:Nat} (h:w.grownBy w' (some g)) (b:Nat):Fc w w' g b:=⟨h.os,h.tape,h.output,h.size,fun k hk h1 _=>h.block k hk (fun e=>h1 (by injection e))⟩
theorem Fc.of_b {w w':World} {b:Nat} (h:w.grownBy w' (some b)) (g:Nat):Fc w w' g b:=⟨h.os,h.tape,h.output,h.size,fun k hk _ h1=>h.block k hk (fun e=>h1 (by injection e))⟩
theorem Fc.of_new {a w w':World} {g b k:Nat} (h:Fc a w g b) (hg:w.grownBy w' (some k)) (hk:a.heap.size<=k):Fc a w' g b:=
 ⟨hg.os.trans h.os,hg.tape.trans h.tape,hg.output.trans h.output,Nat.le_trans h.size hg.size,fun i hi h1 h2=>(hg.block i (Nat.lt_of_lt_of_le hi h.size) (fun e=>by injection e with e;omega)).trans (h.block i hi h1 h2)⟩
theorem kF {w w':World} {g b k:Nat} {o:Obj} (hf:Fc w w' g b) (h:Hid (w.heap[k]?=some o)) (h1:k≠g:=by omega) (h2:k≠b:=by omega):Hid (w'.heap[k]?=some o):=h_ ((hf.block _ (lt_of_block h.out) h1 h2).trans h.out)
theorem fb_ {we w w2:World} {kg bs:Nat} (h:Hid (Fc we w kg bs)) (hb:Below w.heap.size w w2):Hid (Fc we w2 kg bs):=h_ (h.out.trans (Fc.of_below hb _ _))
def ErAt (w:World) (ev:Value):Option Flt->Prop
 | none=>ev=.nilIface
 | some f=>AtF w ev f
def iv (n:Nat):Value:=.int .i64 (n:Nat)
def scV (m:Sc):Bs->Option Value:=fun x=>(m x).map iv
theorem scV_put (m:Sc) (n:Bs) (v:Nat):scV (m.put n v)=fun x=>if x=n then some (iv v) else scV m x:=by
 funext x;unfold scV Sc.put;split<;>rfl
theorem scV_del (m:Sc) (n:Bs):scV (m.del n)=fun x=>if x=n then none else scV m x:=by
 funext x;unfold scV Sc.del;split<;>rfl
theorem scV_some (m:Sc) (n:Bs):(scV m n).isSome=(m n).isSome:=by unfold scV;cases m n<;>rfl
theorem scV_get (m:Sc) (n:Bs):(scV m n).getD (iv 0)=iv ((m n).getD 0):=by unfold scV;cases m n<;>rfl
theorem domV {m:Sc} {n:Nat} (h:Dom m n):DomV (scV m) n:=by
 obtain⟨L,h1,h2⟩:=h;exact⟨L,h1,fun x hx=>h2 x (by rw[<-scV_some];exact hx)⟩
structure Ck (w0 w:World) (g bf bs:Nat) (Gv:Bs->Option Value) (s:Ks) (rf:Bool) (ev:Value):Prop where
 bw:Below w0.heap.size w0 w
 gB:w0.heap.size<=g
 fB:w0.heap.size<=bf
 sB:w0.heap.size<=bs
 ne:bf≠bs
 blk:w.heap[g]?=some (.cells #[.map (some bf),.map (some bs),.bool rf,ev] 87 (0,0))
 fm:MapIs Tryz.prog 9 w bf Gv
 sm:MapIs Tryz.prog 9 w bs (scV s.sc)
 er:ErAt w ev s.er
section
variable {w0 w w':World} {g bf bs:Nat} {Gv:Bs->Option Value} {s:Ks} {rf:Bool} {ev:Value}
theorem Ck.gs (h:Ck w0 w g bf bs Gv s rf ev):g≠bs:=by
 rintro rfl;obtain⟨n,D,⟨es,clock,h1,-⟩,-⟩:=h.sm;rw[h.blk] at h1;cases h1
theorem Ck.gf (h:Ck w0 w g bf bs Gv s rf ev):g≠bf:=by
 rintro rfl;obtain⟨n,D,⟨es,clock,h1,-⟩,-⟩:=h.fm;rw[h.blk] at h1;cases h1
theorem ErAt.keep {e:Option Flt} (h:ErAt w ev e) (hk:∀ (q:Nat) (c:Array Value) (T:TypeId),w.heap[q]?=some (.cells c T (0,0))->T=116->w'.heap[q]?=w.heap[q]?):ErAt w' ev e:=by
 cases e with
 | none=>exact h
 | some f =>
  obtain⟨q,rfl,hq⟩:=h;unfold AtB at hq;exact⟨q,rfl,by unfold AtB;rw[hk q _ _ hq rfl];exact hq⟩
theorem Ck.below (h:Ck w0 w g bf bs Gv s rf ev) (hb:Below w.heap.size w w'):Ck w0 w' g bf bs Gv s rf ev:=
 ⟨h.bw.trans (hb.mono h.bw.size),h.gB,h.fB,h.sB,h.ne,(hb.block _ (lt_of_block h.blk)).trans h.blk,h.fm.keep (hb.block _ h.fm.lt),h.sm.keep (hb.block _ h.sm.lt),h.er.keep fun q c T hc _=>hb.block q (lt_of_block hc)⟩
theorem Ck.own (h:Ck w0 w g bf bs Gv s rf ev) {k:Nat} {c:Array Value} {T:TypeId} (hk:w.heap[k]?=some (.cells c T (0,0))) (hT:T≠116) (hg:k≠g) (hB:w0.heap.size<=k) (hgr:w.grownBy w' (some k)):Ck w0 w' g bf bs Gv s rf ev:=by
 have n1:bf≠k:=by
  rintro rfl;obtain⟨n,D,⟨es,clock,h1,-⟩,-⟩:=h.fm;rw[hk] at h1;cases h1
 have n2:bs≠k:=by
  rintro rfl;obtain⟨n,D,⟨es,clock,h1,-⟩,-⟩:=h.sm;rw[hk] at h1;cases h1
 have key:∀ q,q<w.heap.size->q≠k->w'.heap[q]?=w.heap[q]?:=fun q hq hn=>hgr.block q hq (fun e=>hn (by injection e))
 exact⟨⟨hgr.os.trans h.bw.os,hgr.tape.trans h.bw.tape,hgr.output.trans h.bw.output,Nat.le_trans h.bw.size hgr.size,fun q hq=>(key q (by have:=h.bw.size;omega) (by omega)).trans (h.bw.block q hq)⟩,h.gB,h.fB,h.sB,h.ne,(key _ (lt_of_block h.blk) (fun e=>hg e.symm)).trans h.blk,h.fm.keep (key _ h.fm.lt n1),h.sm.keep (key _ h.sm.lt n2),h.er.keep fun q c' T' hc hT'=>key q (lt_of_block hc) (fun e=>by
   subst e;rw[hc] at hk;injection hk with hk;injection hk with _ e2 _;exact hT (e2 ▸ hT'))⟩
theorem Ck.store (h:Ck w0 w g bf bs Gv s rf ev) (hgr:w.grownBy w' (some g)) {bs':Nat} {s':Ks} {rf':Bool} {ev':Value} (hblk:w'.heap[g]?=some (.cells #[.map (some bf),.map (some bs'),.bool rf',ev'] 87 (0,0)))
  (hm:MapIs Tryz.prog 9 w bs' (scV s'.sc)) (hsB:w0.heap.size<=bs') (hne:bf≠bs') (her:ErAt w' ev' s'.er):Ck w0 w' g bf bs' Gv s' rf' ev':=by
 have key:∀ q,q<w.heap.size->q≠g->w'.heap[q]?=w.heap[q]?:=fun q hq hn=>hgr.block q hq (fun e=>hn (by injection e))
 have n2:bs'≠g:=by
  rintro rfl;obtain⟨n,D,⟨es,clock,h1,-⟩,-⟩:=hm;rw[h.blk] at h1;cases h1
 exact⟨⟨hgr.os.trans h.bw.os,hgr.tape.trans h.bw.tape,hgr.output.trans h.bw.output,Nat.le_trans h.bw.size hgr.size,fun q hq=>(key q (by have:=h.bw.size;omega) (by have:=h.gB;omega)).trans (h.bw.block q hq)⟩,h.gB,h.fB,hsB,hne,hblk,h.fm.keep (key _ h.fm.lt (fun e=>h.gf e.symm)),hm.keep (key _ hm.lt n2),her⟩
theorem Ck.erG (h:Ck w0 w g bf bs Gv s rf ev) (hgr:w.grownBy w' (some g)):ErAt w' ev s.er:=h.er.keep fun q c T hc hT=>hgr.block q (lt_of_block hc) (fun e=>by
 injection e with e;subst e;have:=h.blk;rw[hc] at this;injection this with this;injection this with _ e2 _;rw[hT] at e2;exact absurd e2 (by decide))
theorem Ck.turn (h:Ck w0 w g bf bs Gv s rf ev) (hgr:w.grownBy w' (some bs)) {sc':Sc} (hm:MapIs Tryz.prog 9 w' bs (scV sc')):Ck w0 w' g bf bs Gv ⟨sc',s.er⟩ rf ev:=by
 have key:∀ q,q<w.heap.size->q≠bs->w'.heap[q]?=w.heap[q]?:=fun q hq hn=>hgr.block q hq (fun e=>hn (by injection e))
 exact⟨⟨hgr.os.trans h.bw.os,hgr.tape.trans h.bw.tape,hgr.output.trans h.bw.output,Nat.le_trans h.bw.size hgr.size,fun q hq=>(key q (by have:=h.bw.size;omega) (by have:=h.sB;omega)).trans (h.bw.block q hq)⟩,h.gB,h.fB,h.sB,h.ne,(key _ (lt_of_block h.blk) h.gs).trans h.blk,h.fm.keep (key _ h.fm.lt h.ne),hm,h.er.keep fun q c T hc _=>key q (lt_of_block hc) (fun e=>by
  subst e;obtain⟨n,D,⟨es,clock,h1,-⟩,-⟩:=h.sm
  rw[hc] at h1;cases h1)⟩
theorem Ck.turnF (h:Ck w0 w g bf bs Gv s rf ev) (hgr:w.grownBy w' (some bf)) {Gv':Bs->Option Value} (hm:MapIs Tryz.prog 9 w' bf Gv'):Ck w0 w' g bf bs Gv' s rf ev:=by
 have key:∀ q,q<w.heap.size->q≠bf->w'.heap[q]?=w.heap[q]?:=fun q hq hn=>hgr.block q hq (fun e=>hn (by injection e))
 exact⟨⟨hgr.os.trans h.bw.os,hgr.tape.trans h.bw.tape,hgr.output.trans h.bw.output,Nat.le_trans h.bw.size hgr.size,fun q hq=>(key q (by have:=h.bw.size;omega) (by have:=h.fB;omega)).trans (h.bw.block q hq)⟩,h.gB,h.fB,h.sB,h.ne,(key _ (lt_of_block h.blk) h.gf).trans h.blk,hm,h.sm.keep (key _ h.sm.lt (fun e=>h.ne e.symm)),h.er.keep fun q c T hc _=>key q (lt_of_block hc) (fun e=>by
  subst e;obtain⟨n,D,⟨es,clock,h1,-⟩,-⟩:=h.fm
  rw[hc] at h1;cases h1)⟩
end
def CkP (w0 w:World) (g bf bs:Nat) (Gv:Bs->Option Value) (s':Ks) (rf:Bool) (w':World):Prop:=(∃ ev,Ck w0 w' g bf bs Gv s' rf ev)/\Fc w w' g bs
theorem require_p {w0 w:World} {g bf bs:Nat} {Gv:Bs->Option Value} {s:Ks} {rf:Bool} {ev:Value} (h:Ck w0 w g bf bs Gv s rf ev) (ok:Bool) (ln cl c:Nat) :
  Calls Tryz.prog 53 #[.pointer (some ⟨g,0,none⟩),.bool ok,.int .i64 (ln:Nat),.int .i64 (cl:Nat),.int .i64 (c:Nat)] w fun e w'=>e=.returned (.tuple #[])/\CkP w0 w g bf bs Gv ⟨s.sc,req s.er ok ln cl c⟩ rf w':=by
 have HC:=h_ h;have q3:=cell_at (v:=ev) h.blk 3 rfl;have f3:=froz_at h.blk 3
 cases ok with
 | true =>
  clear h;go_enter Tryz.func53,Tryz.ntmps53
  go_wp2_with fail
  exact bodyPost_end (results_none Tryz.results53 _ _ _) rfl ⟨rfl,⟨_,HC.out⟩,Fc.refl _ _ _⟩
 | false =>
  obtain⟨sc,er⟩:=s
  cases er with
  | some f =>
   obtain⟨q,rfl,-⟩:=h.er;clear h;go_enter Tryz.func53,Tryz.ntmps53
   go_wp2_with fail
   exact bodyPost_end (results_none Tryz.results53 _ _ _) rfl ⟨rfl,⟨_,HC.out⟩,Fc.refl _ _ _⟩
  | none =>
   obtain rfl:=h.er;clear h;go_enter Tryz.func53,Tryz.ntmps53
   go_upto_region 1 with fail
   obtain⟨w1,k,hw,hkk,hb,hs1,HA⟩:=newb w #[.int .i64 (ln:Nat),.int .i64 (cl:Nat),.iface 77 (.int .i64 (c:Nat))] 116;have HC1:=h_ (HC.out.below hb);have HF1:=h_ (Fc.of_below hb g bs);have hkg:k≠g:=by have:=lt_of_block HC.out.blk;omega
   have HKB:=h_ HC1.out.blk;clear q3 f3 hb hs1;have q3:=cell_at (v:=.nilIface) HC1.out.blk 3 rfl;have f3:=froz_at HC1.out.blk 3;go_wp2_with fail
   rw[<-hkk];clear q3 f3 hw hkk;have hg:=grown_set w1 g 3 (.iface 111 (.pointer (some ⟨k,0,none⟩)));refine bodyPost_end (results_none Tryz.results53 _ _ _) rfl ⟨rfl,⟨.iface 111 (.pointer (some ⟨k,0,none⟩)),?_⟩,HF1.out.trans (Fc.of_g hg bs)⟩;refine HC1.out.store hg (heap_setCell_same _ g 3 _ _ _ HKB.out) HC1.out.sm HC1.out.sB HC1.out.ne ⟨k,rfl,?_⟩;unfold AtB;rw[set1_other _ _ _ _ hkg];exact HA.out
theorem need_eq (s:Ks) (ln cl:Nat) (ok:Bool) (c:Nat):s.need ln cl ok c=⟨s.sc,req s.er ok ln cl c⟩:=by unfold Ks.need req;cases ok<;>rfl
theorem need_p {w0 w:World} {g bf bs:Nat} {Gv:Bs->Option Value} {s:Ks} {rf:Bool} {ev:Value} (h:Ck w0 w g bf bs Gv s rf ev) (x:X) (ln cl:Nat) (e1:x.ln=(ln:Nat)) (e2:x.cl=(cl:Nat)) (ok:Bool) (c:Nat) :
  Calls Tryz.prog 89 #[.pointer (some ⟨g,0,none⟩),xv x,.bool ok,.int .i64 (c:Nat)] w fun e w'=>e=.returned (.tuple #[])/\CkP w0 w g bf bs Gv (s.need ln cl ok c) rf w':=by
 obtain⟨xk,xnm,xot,xb,xao,xn,xq,xko,xkn,xkc,xln,xcl⟩:=x;simp only at e1 e2;subst e1 e2;have HC:=h_ h;clear h;simp only[xv];go_enter Tryz.func89,Tryz.ntmps89
 go_upto_region 1 with fail
 obtain⟨w1,k,hw,hkk,hb,hs1,HA⟩:=newb w #[.int .i64 xk,.string xnm,.string xot,.bool xb,.slice xao xn xq,.slice xko xkn xkc,.int .i64 (ln:Nat),.int .i64 (cl:Nat)] 46;rw[hw,<-hkk];have HC1:=h_ (HC.out.below hb);have HF1:=h_ (Fc.of_below hb g bs);have q6:=cell_at (v:=.int .i64 (ln:Nat)) HA.out 6 rfl;have q7:=cell_at (v:=.int .i64 (cl:Nat)) HA.out 7 rfl;clear hw hkk hb hs1;go_wp2_with fail
 refine (require_p HC1.out ok ln cl c).mono ?_;rintro e w2 ⟨rfl,hP,hF⟩;have HP:=h_ hP;have HF:=h_ (HF1.out.trans hF);clear hP hF q6 q7;go_wp2_with fail
 exact bodyPost_end (results_none Tryz.results89 _ _ _) rfl ⟨rfl,by rw[need_eq];exact HP.out,HF.out⟩
end Go.Proofs.YtkocdbgmckdcpaaGreatDoor
namespace Go.Proofs.YtkocdbgmckdcpaaGreatDoor
open Go.RowKit
set_option maxRecDepth 100000
set_option linter.unusedVariables false
def PmsAt (w:World) (S:Nat->Prop) (v:Value) (ps:List PmU):Prop:=∃ qs:List (PmU × X),qs.map Prod.fst=ps/\pmE.At w S v qs
def qlC (q:QlU) (v:Value) (x:X):List Value:=[.string ⟨q.nm.toArray⟩,v,.int .i64 x.k,.string x.nm,.string x.ot,.bool x.b,.slice x.ao x.n x.c,.slice x.ko x.kn x.kc,.int .i64 x.ln,.int .i64 x.cl,.int .i64 (q.ln:Nat),.int .i64 (q.cl:Nat)]
theorem len_counted (s:St) (c l:Nat):(s.counted c l).rest.length<=s.rest.length:=by unfold St.counted;split;exact Nat.le_trans (len_fail _ _ _) (len_name s);exact len_name s
theorem len_base (s:St):(cBase s).2.rest.length<=s.rest.length:=by
 unfold cBase
 split;exact len_tk s
 split;exact len_tk s
 split;exact len_tk s
 exact Nat.le_trans (len_fail _ _ _) (len_tk s)
theorem len_param (s:St) (c:Nat):(cParam c s).2.rest.length<=s.rest.length:=Nat.le_trans (len_base _) (Nat.le_trans (len_exp _ _) (len_counted _ _ _))
theorem len_var (s:St):(cVar s).2.rest.length<=s.rest.length:=Nat.le_trans (len_base _) (Nat.le_trans (len_exp _ _) (len_exp _ _))
theorem qmore_len {n:Nat}:∀ {l:List PmU} {s:St} {x:List PmU × St},cQMore n l s=some x->x.2.rest.length<=s.rest.length:=by
 induction n with
 | zero=>intro l s x h;simp[cQMore] at h
 | succ n ih =>
  intro l s x h;rw[cQMore] at h
  split at h
  ·exact Nat.le_trans (ih h) (Nat.le_trans (len_param _ _) (len_tk _))
  injection h with h;subst h;exact Nat.le_refl _
theorem qual_p (m n:Nat) (hn:n<=1000000) (g count:Nat) (hcn:count<=1000000) (s:St) (r:QlU × St) (w:World) (hps:PS w g s) (hop:GOps w g) (hc:cQual m n count s=some r) :
  Calls Tryz.prog 34 #[.pointer (some ⟨g,0,none⟩),.int .i64 (count:Nat)] w fun e w'=>∃ y v,e=.returned (.agg (qlC r.1 v y).toArray)/\Um w' (fun k=>w.heap.size<=k) y r.1.body/\PmsAt w' (fun k=>w.heap.size<=k) v r.1.ps/\Did w g r.2 w':=by
 have HP:=h_ hps;have HOP:=h_ hop;have hgN:=hps.lt;have hql0:=hps.2;clear hps hop;unfold cQual at hc;simp only[Option.bind_eq_some_iff] at hc;obtain⟨ra,hm,q,hq,hc⟩:=hc;injection hc with hc;subst hc;have HM:=h_ hm;have HQ:=h_ hq;clear hm hq;go_enter Tryz.func34,Tryz.ntmps34
 go_upto_region 1 with fail
 obtain⟨w1,kr,hw,hkk,hb,hs1,HBr⟩:=newb w #[.string ⟨#[]⟩,.slice none 0 0,.int .i64 0,.string ⟨#[]⟩,.string ⟨#[]⟩,.bool false,.slice none 0 0,.slice none 0 0,.int .i64 0,.int .i64 0,.int .i64 0,.int .i64 0] 69;have hgr:g<kr:=by rw[hkk];exact HP.out.lt
 have her:w.heap.size<=kr:=by omega
 rw[hw,<-hkk];replace HP:=h_ (HP.out.below hb);replace HOP:=h_ (HOP.out.below hb);have HD:=h_ (below_grown hb (some g));clear hw hb hkk hs1;go_wp2_with fail
 refine (counted_p g count 20 s w1 HP.out hcn (by decide)).mono ?_;rintro e w2 ⟨rfl,hp,hg⟩;replace HBr:=kG hg HBr;replace HOP:=h_ (HOP.out.grown hg (by omega));replace HP:=h_ hp;replace HD:=dG HD (hg);have hsz2:=HD.out.size;clear hp hg;simp only[tokV];obtain⟨t,hnx⟩:∃ t,t=St.nx s:=⟨_,rfl⟩
 rw[<-hnx];have HNt:=h_ hnx;clear hnx;go_upto_region 2 with fail
 obtain⟨w3,kt,hw,hkk,hb,hs1,HBt⟩:=newb w2 #[.int .i64 (t.kind:Nat),.string ⟨t.text.toArray⟩,.int .i64 (t.line:Nat),.int .i64 (t.col:Nat)] 97;have hgt:g<kt:=by rw[hkk];exact HP.out.lt
 have het:w.heap.size<=kt:=by omega
 have hr_t:=lk_ hkk HBr;rw[hw,<-hkk];replace HBr:=kB hb HBr;replace HP:=h_ (HP.out.below hb);replace HOP:=h_ (HOP.out.below hb);replace HD:=dB HD hb;have hsz3:=HD.out.size;clear hw hb hkk hs1;obtain⟨c0,c1,c2,c3⟩:=cl4 HBt.out;go_upto_region 3 with fail
 clear c0 c1 c2 c3;obtain⟨w4,kq,hw,hkk,hb,hs1,HBq⟩:=newb w3 #[.string ⟨t.text.toArray⟩,.slice none 0 0,.int .i64 0,.string ⟨#[]⟩,.string ⟨#[]⟩,.bool false,.slice none 0 0,.slice none 0 0,.int .i64 0,.int .i64 0,.int .i64 (t.line:Nat),.int .i64 (t.col:Nat)] 69;have hgq:g<kq:=by rw[hkk];exact HP.out.lt
 have heq:w.heap.size<=kq:=by omega
 have hr_q:=lk_ hkk HBr;have ht_q:=lk_ hkk HBt;rw[hw,<-hkk];replace HBr:=kB hb HBr;replace HBt:=kB hb HBt;replace HP:=h_ (HP.out.below hb);replace HOP:=h_ (HOP.out.below hb);replace HD:=dB HD hb;have hsz4:=HD.out.size;clear hw hb hkk hs1;go_wp2_with fail
 obtain⟨w5,kq1,hw,hkk,hb,hs1,HBq1⟩:=newb w4 #[.string ⟨#[40]⟩] 9;have hgq1:g<kq1:=by rw[hkk];exact HP.out.lt
 have heq1:w.heap.size<=kq1:=by omega
 have hr_q1:=lk_ hkk HBr;have ht_q1:=lk_ hkk HBt;have hq_q1:=lk_ hkk HBq;rw[hw,<-hkk];replace HBr:=kB hb HBr;replace HBt:=kB hb HBt;replace HBq:=kB hb HBq;replace HP:=h_ (HP.out.below hb);replace HOP:=h_ (HOP.out.below hb);replace HD:=dB HD hb;have hsz5:=HD.out.size;clear hw hb hkk hs1;refine (expect_p g (s.counted count 20) [[40]] kq1 w5 HP.out HBq1.out (by omega) (by decide)).mono ?_;rintro e w6 ⟨⟨v,rfl⟩,hp,hg⟩;replace HBr:=kG hg HBr;replace HBt:=kG hg HBt;replace HBq:=kG hg HBq;replace HBq1:=kG hg HBq1;replace HOP:=h_ (HOP.out.grown hg (by omega));replace HP:=h_ hp;replace HD:=dG HD (hg);have hsz6:=HD.out.size;clear hp hg;obtain⟨pp,hpp⟩:∃ p,p=(cVar ((s.counted count 20).exp [40])).1:=⟨_,rfl⟩
 obtain⟨sp,hsp⟩:∃ x,x=(cVar ((s.counted count 20).exp [40])).2:=⟨_,rfl⟩
 have HPP:=h_ hpp;have HSP:=h_ hsp;have hlp:=len_var ((s.counted count 20).exp [40]);rw[<-hsp] at hlp;clear hpp hsp;have HRp:Hid (pmE.Row w6 (kq+1) (fun b=>w.heap.size<=b/\b≠kq/\b≠kr/\b≠kt) (.slice none 0 0) []):=h_ (El.Row.nil _ _ _);go_upto_region 4 with fail
 have hlt_q:=lt_of_block HBq.out;have hog:∀ q,q<1->(fun q=>g) q<w6.heap.size:=fun q _=>by show g<_;exact HP.out.lt
 refine R7.region (by kernel_rfl) [[],[0],[],[2],[2,3],[0,1,2,3,4],[0,1,2,3,4,5],[0,1,2,3,4,5,6]] [] [(3,1000)] (fun q=>g) 1 5 (by kernel_rfl) (by kernel_rfl) (by rfl) hog (fun q q' h h' hn=>absurd hn (by omega)) ?_;refine R7.cd ?_ (fun T xs wr hA=>?_) ?_
 rotate_left
 ·have e6:=hA.pq 6;simp only[gsa,gsc,gsz] at e6;clear hA;go_simp<;>(try with_reducible rfl)
 refine R7.cd ?_ (fun T xs wr hA=>?_) ?_
 rotate_left
 ·have e20:=tr_ (hA.tq 0 20) (hA.fq 0)
  (try simp (disch:=decide) only [R7.mi] at e20)
  have hBq:wr.heap[kq]?=_:=(hA.bl _ hlt_q (fun q _=>by show g≠kq;omega)).trans HBq.out;obtain⟨q0,q1,q2,q3,q4,q5,q6,q7,q8,q9,q10,q11⟩:=cl12 hBq;clear hBq;clear hA;go_simp<;>(try with_reducible rfl)
 refine R7.cd ?_ (fun T xs wr hA=>?_) ?_
 rotate_left
 ·have e0:=hA.pq 0;simp only[gsa,gsz] at e0;clear hA;go_simp<;>(try with_reducible rfl)
 refine R7.Chain.callOld 0 (fun xs v w=>v=pmV pp xZ/\PS w g sp) (fun _ _ _ _ ⟨h1,h2⟩ hb=>⟨h1,h2.below hb⟩) (fun _ _ _ _ q' _ hq hne _=>absurd rfl hne) (by rfl) (by rfl) (by decide) (R7.own_one (by rfl)) (fun T xs wr hA hold=>?_) ?_
 ·have hsw:=(hA.be 0 (Nat.zero_le _) (fun _ _=>Nat.zero_le _)).size;have e22:=tr_ (hA.tq 2 22) (hA.fq 2)
  (try simp (disch:=decide) only [R7.mi] at e22)
  have h0:=undrew (hA.be 0 (Nat.zero_le _) (fun _ _=>Nat.zero_le _))
  have hbw:Below w6.heap.size w6 wr:=⟨h0.os,h0.tape,h0.output,h0.size,fun k hk=>by
   by_cases e:k=g
   ·rw[e];exact hold
   exact hA.bl k hk (fun q _ h=>e h.symm)⟩
  clear hA;refine⟨(by rfl),fun K hK=>?_⟩;go_simp
  refine (variable_p g ((s.counted count 20).exp [40]) wr (HP.out.below hbw)).mono ?_;rintro e w' ⟨rfl,hp,hg⟩;exact hK.out _ _ ⟨by rw[HPP.out],by rw[HSP.out];exact hp⟩ (R7.Priv.of hg)
 refine R7.Chain.call (fun xs v w=>∃ k,v=.slice (some ⟨k,0,none⟩) 1 1/\w6.heap.size<=k/\w.heap[k]?=some (.cells (pmC pp xZ).toArray 48 (0,0))) (fun _ _ _ _ ⟨g,hv,hl,hg⟩ hb=>⟨g,hv,hl,by rw[hb.block g (Array.getElem?_eq_some_iff.1 hg).1];exact hg⟩) (fun _ _ _ _ _ ⟨g,hv,hl,hg⟩ ⟨q,hq,e⟩ hp=>⟨g,hv,hl,by rw[hp.block g (Array.getElem?_eq_some_iff.1 hg).1 (fun h=>by have:=hog q hq;omega)];exact hg⟩) (by rfl) (fun T xs wr hA=>?_) ?_
 ·have hsw:=(hA.be 0 (Nat.zero_le _) (fun _ _=>Nat.zero_le _)).size;have e23:=hA.tm 3 23 (by rfl) (by rfl);have hF3:(xs 3)=pmV pp xZ/\PS wr g sp:=hA.fa 3 (by rfl);have hx:=hF3;rw[hx.1] at e23;simp only[pmV,xZ] at e23;clear hx;clear hA;refine⟨(by rfl),fun K hK=>?_⟩;go_simp
  exact hK.out _ _ ⟨_,rfl,hsw,made_at wr _ _ rfl⟩ ((Below.refl _ _).alloc (Nat.le_refl _) _)
 refine R7.Chain.done (fun xs w7 hL=>?_);obtain⟨⟨hbe,hbl⟩,hf,-,-⟩:=hL;have f0:xs 0=_:=hf 0 (by decide);have f1:xs 1=_:=hf 1 (by decide);have f2:xs 2=_:=hf 2 (by decide);have F3:(xs 3)=pmV pp xZ/\PS w7 g sp:=hf 3 (by decide);have F4:∃ k,(xs 4)=.slice (some ⟨k,0,none⟩) 1 1/\w6.heap.size<=k/\w7.heap[k]?=some (.cells (pmC pp xZ).toArray 48 (0,0)):=hf 4 (by decide)
 (try simp (disch:=decide) only [R7.mi] at f0 f1 f2)
 have hb0:Below 0 w6 w7:=undrew (hbe 0 (Nat.zero_le _) (fun _ _=>Nat.zero_le _));have hgr:∀ j,j<w6.heap.size->(∀ q,q<1->(fun q=>g) q≠j)->w7.heap[j]?=w6.heap[j]?:=hbl;clear hbe hbl hf;obtain⟨hv,hp⟩:=F3;obtain⟨k4,hv4,hl4,hg4⟩:=F4;have hg:w6.grownBy w7 (some g):=⟨hb0.os,hb0.tape,hb0.output,hb0.size,fun k hk hn=>hgr k hk (fun q _ e=>hn (by rw[<-e]))⟩
 refine R7.rest_list (by decide) (by kernel_rfl) ?_;simp only[R7.fill,t1_,t2_,t3_,t4_,t5_,t6_,t7_,f0,f1,f2];simp only[hv4];clear hlt_q hog hv hv4 f0 f1 f2;replace HRp:=h_ (HRp.out.grown hg (by omega) (fun h=>by omega));replace HBr:=kG hg HBr;replace HBt:=kG hg HBt;replace HBq:=kG hg HBq;replace HOP:=h_ (HOP.out.grown hg (by omega));replace HP:=h_ hp;replace HD:=dG HD (hg);have hsz7:=HD.out.size;have HB4:=h_ hg4;clear hp hg hb0 hgr hg4;refine El.Row.append (E:=pmE) HRp.out rfl (.tmp 21) (.tmp 24) 38 rfl Tryz.underlying38 infoParam rfl (by decide) rfl (pp,xZ) k4 48 rfl HB4.out (by show Um _ _ xZ pp.ref;rw[HPP.out];exact um_zero _ _) (by simp) (Nat.succ_le_of_lt (lt_of_block HBq.out)) ?_;intro v2 w8 hrow hgw;replace HBr:=HRp.out.kR hgw (by omega) HBr;replace HBt:=HRp.out.kR hgw (by omega) HBt;replace HBq:=HRp.out.kR hgw (by omega) HBq
 replace HP:=h_ (HRp.out.ps hgw (by omega) HP.out);replace HOP:=h_ (HRp.out.ops hgw (by omega) HOP.out);replace HD:=HRp.out.dR hgw (by omega) HD;obtain⟨qs1,hqs⟩:∃ l:List (PmU × X),l=([]:List (PmU × X))++[(pp,xZ)]:=⟨_,rfl⟩
 rw[<-hqs] at hrow;have HQSqs1:=h_ hqs;have HLNqs1:Hid (qs1.length=([]:List (PmU × X)).length+1):=h_ (by rw[hqs,lsa];rfl);replace HRp:=h_ hrow;obtain⟨pko,pkc,hpv,-⟩:=hrow.form;subst hpv;clear hrow hgw HB4 hqs;obtain⟨c0,c1,c2,c3,c4,c5,c6,c7,c8,c9,c10,c11⟩:=cl12 HBq.out;obtain⟨fc0,fc1,fc2,fc3,fc4,fc5,fc6,fc7,fc8,fc9,fc10,fc11⟩:=fr12 HBq.out;go_upto_region 5 with fail
 obtain⟨w9,hw⟩:∃ x,x=w8.setCells kq 1 [.slice pko qs1.length pkc]:=⟨_,rfl⟩
 have hg:w8.grownBy w9 (some kq):=by rw[hw];exact setCells_grown _ _ _ _
 have hv:=put_same [.slice pko qs1.length pkc] w8 kq 1 _ _ HBq.out (Nat.le_of_ble_eq_true rfl);rw[<-hw] at hv;rw[show w8.setCell ⟨kq,1,none⟩ (.slice pko qs1.length pkc)=w9 from hw.symm];clear c0 fc0 c1 fc1 c2 fc2 c3 fc3 c4 fc4 c5 fc5 c6 fc6 c7 fc7 c8 fc8 c9 fc9 c10 fc10 c11 fc11;replace HP:=h_ (HP.out.store HBq.out (by decide) (by omega) hg);replace HRp:=h_ (HRp.out.grown hg (by omega) (fun h=>by omega));replace HBr:=kG hg HBr;replace HBt:=kG hg HBt;replace HOP:=h_ (HOP.out.grown hg (by omega));replace HD:=dN HD hg (by omega);have hsz9:=HD.out.size;replace HBq:Hid (w9.heap[kq]?=some (.cells #[.string ⟨t.text.toArray⟩,.slice pko qs1.length pkc,.int .i64 0,.string ⟨#[]⟩,.string ⟨#[]⟩,.bool false,.slice none 0 0,.slice none 0 0,.int .i64 0,.int .i64 0,.int .i64 (t.line:Nat),.int .i64 (t.col:Nat)] 69 (0,0))):=h_ hv;clear hw hg hv
 have HM2:Hid (cQMore m (qs1.map Prod.fst) sp=some ra):=h_ (by rw[HQSqs1.out,HSP.out];show cQMore m [pp] _=_;rw[HPP.out];exact HM.out);have hlb:(s.counted count 20).rest.length<=s.rest.length:=len_counted _ _ _;have hlb2:=len_exp (s.counted count 20) [40]
 go_loopw [27] (fun _ wr=>∃ (m':Nat) (qs:List (PmU × X)) (sj:St) (ko:Option Addr) (kc:Nat),qs.length+sj.rest.length<=30001/\Hid (cQMore m' (qs.map Prod.fst) sj=some ra)/\Hid (PS wr g sj)/\Hid (wr.heap[kq]?=some (.cells #[.string ⟨t.text.toArray⟩,.slice ko qs.length kc,.int .i64 0,.string ⟨#[]⟩,.string ⟨#[]⟩,.bool false,.slice none 0 0,.slice none 0 0,.int .i64 0,.int .i64 0,.int .i64 (t.line:Nat),.int .i64 (t.col:Nat)] 69 (0,0)))/\Hid (wr.heap[kr]?=some (.cells #[.string ⟨#[]⟩,.slice none 0 0,.int .i64 0,.string ⟨#[]⟩,.string ⟨#[]⟩,.bool false,.slice none 0 0,.slice none 0 0,.int .i64 0,.int .i64 0,.int .i64 0,.int .i64 0] 69 (0,0)))/\Hid (wr.heap[kt]?=some (.cells #[.int .i64 (t.kind:Nat),.string ⟨t.text.toArray⟩,.int .i64 (t.line:Nat),.int .i64 (t.col:Nat)] 97 (0,0)))/\Hid (pmE.Row wr (kq+1) (fun b=>w.heap.size<=b/\b≠kq/\b≠kr/\b≠kt) (.slice ko qs.length kc) qs)/\Hid (GOps wr g)/\Hid (w.grownBy wr (some g))) (fun _ wr=>pLen wr g)
 case atStart=>exact⟨m,qs1,sp,pko,pkc,by have:=HLNqs1.out;simp only[lsn] at this;omega,HM2,HP,HBq,HBr,HBt,HRp,HOP,HD⟩
 case round =>
  clear HM2 HP HBq HBr HBt HRp HOP HD HQSqs1 HLNqs1 hlb hlb2;obtain⟨m',qs,sj,ko,kc,hqj,HCM,HP,HBq,HBr,HBt,HRp,HOP,HD⟩:=hrel;have hcm:=HCM.out
  cases m' with
  | zero=>exact absurd hcm (by simp[cQMore])
  | succ m' =>
   rw[cQMore] at hcm;have HLN:=h_ HP.out.len;have HGD:=h_ HP.out.good;have hszr:=HD.out.size;go_wp2_with fail
   refine (accept_p g sj [44] wr HP.out).mono ?_;rintro e w10 ⟨rfl,hp,hg⟩;replace HRp:=h_ (HRp.out.grown hg (by omega) (fun h=>by omega));replace HBq:=kG hg HBq;replace HBr:=kG hg HBr;replace HBt:=kG hg HBt;replace HOP:=h_ (HOP.out.grown hg (by omega));replace HP:=h_ hp;replace HD:=dG HD (hg);have hsz10:=HD.out.size;clear hp hg
   by_cases hi:sj.is [44]=true
   ·have hi2:sj.is wComma=true:=hi;rw[if_pos hi2] at hcm;have hlt:=tk_less HGD.out (w:=wComma) (by decide) hi2;have HX:Hid (sj.acc [44]=sj.tk):=h_ (by unfold St.acc;rw[hi];rfl);rw[HX.out] at HP;rw[hi];clear hi hi2 HX;rw[List.length_map] at hcm;obtain⟨p2,hp2⟩:∃ p,p=(cParam qs.length sj.tk).1:=⟨_,rfl⟩
    obtain⟨s2,hs2⟩:∃ x,x=(cParam qs.length sj.tk).2:=⟨_,rfl⟩
    have hlp2:=len_param sj.tk qs.length;rw[<-hs2] at hlp2;rw[<-hp2,<-hs2] at hcm;have HP2:=h_ hp2;have HS2:=h_ hs2;have HCM2:=h_ hcm;clear hp2 hs2 hcm;go_upto_region 6 with fail
    have hlt_q:=lt_of_block HBq.out;have hog:∀ q,q<1->(fun q=>g) q<w10.heap.size:=fun q _=>by show g<_;exact HP.out.lt
    refine R7.region (by kernel_rfl) [[],[0],[],[],[3],[3,4],[2,3,4,5],[2,3,4,5,6],[0,1,2,3,4,5,6,7],[0,1,2,3,4,5,6,7,8],[0,1,2,3,4,5,6,7,8,9]] [] [(6,1000)] (fun q=>g) 1 8 (by kernel_rfl) (by kernel_rfl) (by rfl) hog (fun q q' h h' hn=>absurd hn (by omega)) ?_;refine R7.cd ?_ (fun T xs wr hA=>?_) ?_
    rotate_left
    ·have e6:=hA.pq 6;simp only[gsa,gsc,gsz] at e6;clear hA;go_simp<;>(try with_reducible rfl)
    refine R7.cd ?_ (fun T xs wr hA=>?_) ?_
    rotate_left
    ·have e29:=tr_ (hA.tq 0 29) (hA.fq 0)
     (try simp (disch:=decide) only [R7.mi] at e29)
     have hBq:wr.heap[kq]?=_:=(hA.bl _ hlt_q (fun q _=>by show g≠kq;omega)).trans HBq.out;obtain⟨q0,q1,q2,q3,q4,q5,q6,q7,q8,q9,q10,q11⟩:=cl12 hBq;clear hBq;clear hA;go_simp<;>(try with_reducible rfl)
    refine R7.cd ?_ (fun T xs wr hA=>?_) ?_
    rotate_left
    ·have e0:=hA.pq 0;simp only[gsa,gsz] at e0;clear hA;go_simp<;>(try with_reducible rfl)
    refine R7.cd ?_ (fun T xs wr hA=>?_) ?_
    rotate_left
    ·have e6:=hA.pq 6;simp only[gsa,gsc,gsz] at e6;clear hA;go_simp<;>(try with_reducible rfl)
    refine R7.cd ?_ (fun T xs wr hA=>?_) ?_
    rotate_left
    ·have e32:=tr_ (hA.tq 3 32) (hA.fq 3)
     (try simp (disch:=decide) only [R7.mi] at e32)
     have hBq:wr.heap[kq]?=_:=(hA.bl _ hlt_q (fun q _=>by show g≠kq;omega)).trans HBq.out;obtain⟨q0,q1,q2,q3,q4,q5,q6,q7,q8,q9,q10,q11⟩:=cl12 hBq;clear hBq;clear hA;go_simp<;>(try with_reducible rfl)
    refine R7.cd ?_ (fun T xs wr hA=>?_) ?_
    rotate_left
    ·have e33:=tr_ (hA.tq 4 33) (hA.fq 4)
     (try simp (disch:=decide) only [R7.mi] at e33)
     clear hA;go_simp<;>(try with_reducible rfl)
    refine R7.Chain.callOld 0 (fun xs v w=>v=pmV p2 xZ/\PS w g s2) (fun _ _ _ _ ⟨h1,h2⟩ hb=>⟨h1,h2.below hb⟩) (fun _ _ _ _ q' _ hq hne _=>absurd rfl hne) (by rfl) (by rfl) (by decide) (R7.own_one (by rfl)) (fun T xs wr hA hold=>?_) ?_
    ·have hsw:=(hA.be 0 (Nat.zero_le _) (fun _ _=>Nat.zero_le _)).size;have e31:=tr_ (hA.tq 2 31) (hA.fq 2);have e34:=tr_ (hA.tq 5 34) (hA.fq 5)
     (try simp (disch:=decide) only [R7.mi] at e31 e34)
     have h0:=undrew (hA.be 0 (Nat.zero_le _) (fun _ _=>Nat.zero_le _))
     have hbw:Below w10.heap.size w10 wr:=⟨h0.os,h0.tape,h0.output,h0.size,fun k hk=>by
      by_cases e:k=g
      ·rw[e];exact hold
      exact hA.bl k hk (fun q _ h=>e h.symm)⟩
     clear hA;refine⟨(by rfl),fun K hK=>?_⟩;go_simp
     refine (param_p g qs.length sj.tk wr (HP.out.below hbw) (by omega)).mono ?_;rintro e w' ⟨rfl,hp,hg⟩;exact hK.out _ _ ⟨by rw[HP2.out],by rw[HS2.out];exact hp⟩ (R7.Priv.of hg)
    refine R7.Chain.call (fun xs v w=>∃ k,v=.slice (some ⟨k,0,none⟩) 1 1/\w10.heap.size<=k/\w.heap[k]?=some (.cells (pmC p2 xZ).toArray 48 (0,0))) (fun _ _ _ _ ⟨g,hv,hl,hg⟩ hb=>⟨g,hv,hl,by rw[hb.block g (Array.getElem?_eq_some_iff.1 hg).1];exact hg⟩) (fun _ _ _ _ _ ⟨g,hv,hl,hg⟩ ⟨q,hq,e⟩ hp=>⟨g,hv,hl,by rw[hp.block g (Array.getElem?_eq_some_iff.1 hg).1 (fun h=>by have:=hog q hq;omega)];exact hg⟩) (by rfl) (fun T xs wr hA=>?_) ?_
    ·have hsw:=(hA.be 0 (Nat.zero_le _) (fun _ _=>Nat.zero_le _)).size;have e35:=hA.tm 6 35 (by rfl) (by rfl);have hF6:(xs 6)=pmV p2 xZ/\PS wr g s2:=hA.fa 6 (by rfl);have hx:=hF6;rw[hx.1] at e35;simp only[pmV,xZ] at e35;clear hx;clear hA;refine⟨(by rfl),fun K hK=>?_⟩;go_simp
     exact hK.out _ _ ⟨_,rfl,hsw,made_at wr _ _ rfl⟩ ((Below.refl _ _).alloc (Nat.le_refl _) _)
    refine R7.Chain.done (fun xs w11 hL=>?_);obtain⟨⟨hbe,hbl⟩,hf,-,-⟩:=hL;have f0:xs 0=_:=hf 0 (by decide);have f1:xs 1=_:=hf 1 (by decide);have f2:xs 2=_:=hf 2 (by decide);have f3:xs 3=_:=hf 3 (by decide);have f4:xs 4=_:=hf 4 (by decide);have f5:xs 5=_:=hf 5 (by decide);have F6:(xs 6)=pmV p2 xZ/\PS w11 g s2:=hf 6 (by decide);have F7:∃ k,(xs 7)=.slice (some ⟨k,0,none⟩) 1 1/\w10.heap.size<=k/\w11.heap[k]?=some (.cells (pmC p2 xZ).toArray 48 (0,0)):=hf 7 (by decide)
    (try simp (disch:=decide) only [R7.mi] at f0 f1 f2 f3 f4 f5)
    have hb0:Below 0 w10 w11:=undrew (hbe 0 (Nat.zero_le _) (fun _ _=>Nat.zero_le _));have hgr:∀ j,j<w10.heap.size->(∀ q,q<1->(fun q=>g) q≠j)->w11.heap[j]?=w10.heap[j]?:=hbl;clear hbe hbl hf;obtain⟨hv,hp⟩:=F6;obtain⟨k4,hv4,hl4,hg4⟩:=F7;have hg:w10.grownBy w11 (some g):=⟨hb0.os,hb0.tape,hb0.output,hb0.size,fun k hk hn=>hgr k hk (fun q _ e=>hn (by rw[<-e]))⟩
    refine R7.rest_list (by decide) (by kernel_rfl) ?_;simp only[R7.fill,t1_,t2_,t3_,t4_,t5_,t6_,t7_,f0,f1,f2,f3,f4,f5];simp only[hv4];clear hlt_q hog hv hv4 f0 f1 f2 f3 f4 f5;replace HRp:=h_ (HRp.out.grown hg (by omega) (fun h=>by omega));replace HBq:=kG hg HBq;replace HBr:=kG hg HBr;replace HBt:=kG hg HBt;replace HOP:=h_ (HOP.out.grown hg (by omega));replace HP:=h_ hp;replace HD:=dG HD (hg);have hsz11:=HD.out.size;have HB4:=h_ hg4;clear hp hg hb0 hgr hg4;refine El.Row.append (E:=pmE) HRp.out rfl (.tmp 30) (.tmp 36) 38 rfl Tryz.underlying38 infoParam rfl (by decide) rfl (p2,xZ) k4 48 rfl HB4.out (by show Um _ _ xZ p2.ref;rw[HP2.out];exact um_zero _ _) (by omega) (Nat.succ_le_of_lt (lt_of_block HBq.out)) ?_;intro v2 w12 hrow hgw;replace HBq:=HRp.out.kR hgw (by omega) HBq;replace HBr:=HRp.out.kR hgw (by omega) HBr
    replace HBt:=HRp.out.kR hgw (by omega) HBt;replace HP:=h_ (HRp.out.ps hgw (by omega) HP.out);replace HOP:=h_ (HRp.out.ops hgw (by omega) HOP.out);replace HD:=HRp.out.dR hgw (by omega) HD;obtain⟨qs2,hqs⟩:∃ l:List (PmU × X),l=qs++[(p2,xZ)]:=⟨_,rfl⟩
    rw[<-hqs] at hrow;have HQSqs2:=h_ hqs;have HLNqs2:Hid (qs2.length=qs.length+1):=h_ (by rw[hqs,lsa];rfl);replace HRp:=h_ hrow;obtain⟨pko,pkc,hpv,-⟩:=hrow.form;subst hpv;clear hrow hgw HB4 hqs;obtain⟨c0,c1,c2,c3,c4,c5,c6,c7,c8,c9,c10,c11⟩:=cl12 HBq.out;obtain⟨fc0,fc1,fc2,fc3,fc4,fc5,fc6,fc7,fc8,fc9,fc10,fc11⟩:=fr12 HBq.out;go_wp2_with fail
    obtain⟨w13,hw⟩:∃ x,x=w12.setCells kq 1 [.slice pko qs2.length pkc]:=⟨_,rfl⟩
    have hg:w12.grownBy w13 (some kq):=by rw[hw];exact setCells_grown _ _ _ _
    have hv:=put_same [.slice pko qs2.length pkc] w12 kq 1 _ _ HBq.out (Nat.le_of_ble_eq_true rfl);rw[<-hw] at hv;rw[show w12.setCell ⟨kq,1,none⟩ (.slice pko qs2.length pkc)=w13 from hw.symm];clear c0 fc0 c1 fc1 c2 fc2 c3 fc3 c4 fc4 c5 fc5 c6 fc6 c7 fc7 c8 fc8 c9 fc9 c10 fc10 c11 fc11;replace HP:=h_ (HP.out.store HBq.out (by decide) (by omega) hg);replace HRp:=h_ (HRp.out.grown hg (by omega) (fun h=>by omega));replace HBr:=kG hg HBr;replace HBt:=kG hg HBt;replace HOP:=h_ (HOP.out.grown hg (by omega));replace HD:=dN HD hg (by omega);have hsz13:=HD.out.size;replace HBq:Hid (w13.heap[kq]?=some (.cells #[.string ⟨t.text.toArray⟩,.slice pko qs2.length pkc,.int .i64 0,.string ⟨#[]⟩,.string ⟨#[]⟩,.bool false,.slice none 0 0,.slice none 0 0,.int .i64 0,.int .i64 0,.int .i64 (t.line:Nat),.int .i64 (t.col:Nat)] 69 (0,0))):=h_ hv;clear hw hg hv
    have HCM3:Hid (cQMore m' (qs2.map Prod.fst) s2=some ra):=h_ (by rw[HQSqs2.out,List.map_append];exact HCM2.out);go_roundw
    case rel=>exact⟨m',qs2,s2,pko,pkc,by have:=HLNqs2.out;omega,HCM3,HP,HBq,HBr,HBt,HRp,HOP,HD⟩
    case measure=>rw[HP.out.len,HLN.out];omega
   have hif:sj.is [44]=false:=by simpa using hi
   rw[if_neg (show ¬ sj.is wComma=true from hi)] at hcm;injection hcm with hcm;subst hcm;have HX:Hid (sj.acc [44]=sj):=h_ (by unfold St.acc;rw[hif];rfl);rw[HX.out] at HP;rw[hif];clear hi HX;go_wp2_with fail
   obtain⟨w11,kq2,hw,hkk,hb,hs1,HBq2⟩:=newb w10 #[.string ⟨#[41]⟩,.string ⟨#[58]⟩] 9;have hgq2:g<kq2:=by rw[hkk];exact HP.out.lt
   have heq2:w.heap.size<=kq2:=by omega
   have hq_q2:=lk_ hkk HBq;have hr_q2:=lk_ hkk HBr;have ht_q2:=lk_ hkk HBt;rw[hw,<-hkk];replace HRp:=h_ (HRp.out.below hb);replace HBq:=kB hb HBq;replace HBr:=kB hb HBr;replace HBt:=kB hb HBt;replace HP:=h_ (HP.out.below hb);replace HOP:=h_ (HOP.out.below hb);replace HD:=dB HD hb;have hsz11:=HD.out.size;clear hw hb hkk hs1;refine (expect_p g sj [[41],[58]] kq2 w11 HP.out HBq2.out (by omega) (by decide)).mono ?_;rintro e w12 ⟨⟨v,rfl⟩,hp,hg⟩;replace HRp:=h_ (HRp.out.grown hg (by omega) (fun h=>by omega));replace HBq:=kG hg HBq;replace HBr:=kG hg HBr;replace HBt:=kG hg HBt;replace HBq2:=kG hg HBq2;replace HOP:=h_ (HOP.out.grown hg (by omega));replace HP:=h_ hp;replace HD:=dG HD (hg);have hsz12:=HD.out.size;clear hp hg;go_wp2_with fail
   obtain⟨Nb,hN⟩:∃ k,k=w12.heap.size:=⟨_,rfl⟩
   have hq_Nb:kq<Nb:=by rw[hN];exact lt_of_block HBq.out
   have hr_Nb:kr<Nb:=by rw[hN];exact lt_of_block HBr.out
   have ht_Nb:kt<Nb:=by rw[hN];exact lt_of_block HBt.out
   have hg_Nb:g<Nb:=by rw[hN];exact HP.out.lt
   have he_Nb:w.heap.size<=Nb:=by omega
   refine (complete_p n hn g _ q w12 HP.out HOP.out HQ.out).mono ?_;rintro e w13 ⟨xb,rfl,hu,hp,hg⟩;replace HRp:=h_ (HRp.out.grown hg (by omega) (fun h=>by omega));replace HBq:=kG hg HBq;replace HBr:=kG hg HBr;replace HBt:=kG hg HBt;replace HOP:=h_ (HOP.out.grown hg (by omega));replace HP:=h_ hp;replace HD:=dG HD (hg);rw[<-hN] at hu;have HUb:=h_ (hu.mono (S':=fun b=>Nb<=b/\True) (fun b h=>⟨h,trivial⟩));clear hN hu;clear hp hg;obtain⟨bk,bnm,bot,bb,bao,bn,bq,bko,bkn,bkc,bln,bcl⟩:=xb;simp only[xv];obtain⟨c0,c1,c2,c3,c4,c5,c6,c7,c8,c9,c10,c11⟩:=cl12 HBq.out;obtain⟨fc0,fc1,fc2,fc3,fc4,fc5,fc6,fc7,fc8,fc9,fc10,fc11⟩:=fr12 HBq.out;go_upto_region 9 with fail
   obtain⟨w14,hw⟩:∃ x,x=w13.setCells kq 2 [.int .i64 bk,.string bnm,.string bot,.bool bb,.slice bao bn bq,.slice bko bkn bkc,.int .i64 bln,.int .i64 bcl]:=⟨_,rfl⟩
   have hg:w13.grownBy w14 (some kq):=by rw[hw];exact setCells_grown _ _ _ _
   have hv:=put_same [.int .i64 bk,.string bnm,.string bot,.bool bb,.slice bao bn bq,.slice bko bkn bkc,.int .i64 bln,.int .i64 bcl] w13 kq 2 _ _ HBq.out (Nat.le_of_ble_eq_true rfl);rw[<-hw] at hv;rw[show (((((((w13.setCell ⟨kq,2,none⟩ (.int .i64 bk)).setCell ⟨kq,3,none⟩ (.string bnm)).setCell ⟨kq,4,none⟩ (.string bot)).setCell ⟨kq,5,none⟩ (.bool bb)).setCell ⟨kq,6,none⟩ (.slice bao bn bq)).setCell ⟨kq,7,none⟩ (.slice bko bkn bkc)).setCell ⟨kq,8,none⟩ (.int .i64 bln)).setCell ⟨kq,9,none⟩ (.int .i64 bcl)=w14 from hw.symm];clear c0 fc0 c1 fc1 c2 fc2 c3 fc3 c4 fc4 c5 fc5 c6 fc6 c7 fc7 c8 fc8 c9 fc9 c10 fc10 c11 fc11;replace HP:=h_ (HP.out.store HBq.out (by decide) (by omega) hg);replace HRp:=h_ (HRp.out.grown hg (by omega) (fun h=>by omega));replace HBr:=kG hg HBr;replace HBt:=kG hg HBt;replace HUb:=h_ (HUb.out.grown hg (fun h=>by omega))
   replace HOP:=h_ (HOP.out.grown hg (by omega));replace HD:=dN HD hg (by omega);replace HBq:Hid (w14.heap[kq]?=some (.cells #[.string ⟨t.text.toArray⟩,.slice ko qs.length kc,.int .i64 bk,.string bnm,.string bot,.bool bb,.slice bao bn bq,.slice bko bkn bkc,.int .i64 bln,.int .i64 bcl,.int .i64 (t.line:Nat),.int .i64 (t.col:Nat)] 69 (0,0))):=h_ hv;clear hw hg hv;obtain⟨c0,c1,c2,c3,c4,c5,c6,c7,c8,c9,c10,c11⟩:=cl12 HBq.out;obtain⟨z0,z1,z2,z3,z4,z5,z6,z7,z8,z9,z10,z11⟩:=cl12 HBr.out;obtain⟨fz0,fz1,fz2,fz3,fz4,fz5,fz6,fz7,fz8,fz9,fz10,fz11⟩:=fr12 HBr.out;go_wp2_with fail
   refine bodyPost_ret (v:=.agg #[.string ⟨t.text.toArray⟩,.slice ko qs.length kc,.int .i64 bk,.string bnm,.string bot,.bool bb,.slice bao bn bq,.slice bko bkn bkc,.int .i64 bln,.int .i64 bcl,.int .i64 (t.line:Nat),.int .i64 (t.col:Nat)]) (by simp[results,Tryz.results34,go_sem,z0,z1,z2,z3,z4,z5,z6,z7,z8,z9,z10,z11]) rfl ?_;obtain⟨wz,hw⟩:∃ x,x=w14.setCells kr 0 [.string ⟨t.text.toArray⟩,.slice ko qs.length kc,.int .i64 bk,.string bnm,.string bot,.bool bb,.slice bao bn bq,.slice bko bkn bkc,.int .i64 bln,.int .i64 bcl,.int .i64 (t.line:Nat),.int .i64 (t.col:Nat)]:=⟨_,rfl⟩
   have hg:w14.grownBy wz (some kr):=by rw[hw];exact setCells_grown _ _ _ _
   rw[show (((((((((((w14.setCell ⟨kr,0,none⟩ (.string ⟨t.text.toArray⟩)).setCell ⟨kr,1,none⟩ (.slice ko qs.length kc)).setCell ⟨kr,2,none⟩ (.int .i64 bk)).setCell ⟨kr,3,none⟩ (.string bnm)).setCell ⟨kr,4,none⟩ (.string bot)).setCell ⟨kr,5,none⟩ (.bool bb)).setCell ⟨kr,6,none⟩ (.slice bao bn bq)).setCell ⟨kr,7,none⟩ (.slice bko bkn bkc)).setCell ⟨kr,8,none⟩ (.int .i64 bln)).setCell ⟨kr,9,none⟩ (.int .i64 bcl)).setCell ⟨kr,10,none⟩ (.int .i64 (t.line:Nat))).setCell ⟨kr,11,none⟩ (.int .i64 (t.col:Nat))=wz from hw.symm];clear c0 c1 c2 c3 c4 c5 c6 c7 c8 c9 c10 c11 z0 fz0 z1 fz1 z2 fz2 z3 fz3 z4 fz4 z5 fz5 z6 fz6 z7 fz7 z8 fz8 z9 fz9 z10 fz10 z11 fz11;replace HP:=h_ (HP.out.store HBr.out (by decide) (by omega) hg);replace HRp:=h_ (HRp.out.grown hg (by omega) (fun h=>by omega));replace HBq:=kG hg HBq;replace HBt:=kG hg HBt
   replace HUb:=h_ (HUb.out.grown hg (fun h=>by omega));replace HOP:=h_ (HOP.out.grown hg (by omega));replace HD:=dN HD hg (by omega);have hsz15:=HD.out.size;clear hw hg;exact⟨⟨bk,bnm,bot,bb,bao,bn,bq,bko,bkn,bkc,bln,bcl⟩,.slice ko qs.length kc,by have hnt:=HNt.out;subst hnt;rfl,(HUb.out.mono (fun b h=>by have h:Nb<=b/\True:=h;show _<=b;omega)),⟨qs,rfl,HRp.out.at (fun b h=>h.1) (fun b h=>by show _<=b;omega)⟩,HP.out,HD.out⟩
namespace Rel9
open R7
def upd (d:Nat->Bool) (i:Nat):Nat->Bool:=fun j=>decide (j=i) || d j
section
variable {P:Program} {ops:List Oper} {D:List (List Nat)} {m:Nat} {t0:Array Value} {ds:List Deferred} {Q:Exit->Act->World->Prop}
theorem main (hok:ok ops D m t0.size=true) (hin:inOrder ops m=true) (J:(Nat->Bool)->Array Value->World->Prop)
  (hstep:∀ d T wc i o,J d T wc->ops[i]?=some o->i<m->d i=false->(∀ j,(dep D i).contains j=true->d j=true)->(∀ j k,d j=true->(dep D j).contains k=true->d k=true)->o.guard=none/\∀ K:Act->World->Prop,Hid (∀ T' w',J (upd d i) T' w'->K ⟨T',ds⟩ w')->o.wp P ⟨T,ds⟩ wc K Q)
  (hrest:∀ T wc,J (fun j=>decide (j<m)) T wc->wpList P ops.toArray Q (ops.drop m) ⟨T,ds⟩ wc) :
  ∀ (fuel:Nat) (l:Array Bool) (T:Array Value) (w:World),l.size=ops.length->l.toList.count false=fuel->(∀ j,l.getD j false=true->j<m)->(∀ j k,l.getD j false=true->(dep D j).contains k=true->l.getD k false=true)->J (fun j=>l.getD j false) T w->wpAny P .any ops.toArray Q fuel l ⟨T,ds⟩ w:=by
 have hml:=ok_len hok
 have fin:∀ (l:Array Bool) (T:Array Value) (w:World),l.size=ops.length->(∀ j,l.getD j false=true->j<m)->(∀ j,j<m->l.getD j false=true)->J (fun j=>l.getD j false) T w->wpAny P .any ops.toArray Q (l.toList.count false) l ⟨T,ds⟩ w:=by
  intro l T w hs hlt hall hJ
  have hl:l=lst ops.length m:=by
   refine Array.ext (by simp[lst,hs];omega) fun i h1 h2=>?_
   have e1:l[i]=l.getD i false:=by simp[Array.getD_eq_getD_getElem?,h1]
   rw[e1]
   by_cases hi:i<m
   ·rw[hall i hi];simp[lst,hi]
   have:l.getD i false=false:=by
    cases h:l.getD i false with
    | false=>rfl
    | true=>exact absurd (hlt i h) hi
   rw[this];simp[lst,List.getElem_append,hi]
  have hJ2:(fun j=>l.getD j false)=fun j=>decide (j<m):=funext fun j=>by
   by_cases hj:j<m
   ·rw[hall j hj];simp[hj]
   cases h:l.getD j false with
   | false=>simp[hj]
   | true=>exact absurd (hlt j h) hj
  rw[hJ2] at hJ;have hc:l.toList.count false=ops.length - m:=by rw[hl];simp[lst,List.count_append,List.count_replicate]
  rw[hc,hl];refine rest_any (ops.length - m) m (by omega) (fun i h1 h2=>?_) _ _ (hrest T w hJ);unfold inOrder at hin;have:=List.all_eq_true.1 hin i (List.mem_range.2 h2);simp only[Bool.or_eq_true,decide_eq_true_eq,beq_iff_eq] at this;exact this.resolve_left (by omega)
 intro fuel
 induction fuel with
 | zero =>
  intro l T w hs hc hlt hcl hJ;rw[<-hc];refine fin l T w hs hlt (fun j hj=>?_) hJ;rw[Array.getD_eq_getD_getElem?,Array.getElem?_eq_getElem (by omega)];simp only[Option.getD_some];have h0:=List.count_eq_zero.1 hc
  cases h:l[j]'(by omega) with
  | true=>rfl
  | false=>exact absurd (by rw[<-h];simp) h0
 | succ fuel ih =>
  intro l T w hs hc hlt hcl hJ
  by_cases hall:∀ j,j<m->l.getD j false=true
  ·rw[<-hc];exact fin l T w hs hlt hall hJ
  have tf:∀ i,i<ops.length->(l.getD i true=false ↔ l.getD i false=false):=fun i hi=>by simp[Array.getD_eq_getD_getElem?,show i<l.size by omega]
  refine⟨fun h0=>?_,fun i hi=>?_⟩
  ·-- the first that has not come up may come up
   have:∃ j,(j<m/\l.getD j false≠true)/\∀ i,i<j->l.getD i false=true:=by
    obtain⟨j,hj⟩:=Classical.not_forall.1 hall;obtain⟨hj1,hj2⟩:=Classical.not_imp.1 hj;clear hj
    induction j using Nat.strongRecOn with
    | ind j ihj =>
     by_cases h:∀ i,i<j->l.getD i false=true
     ·exact⟨j,⟨hj1,hj2⟩,h⟩
     obtain⟨i,hi⟩:=Classical.not_forall.1 h;obtain⟨hi1,hi2⟩:=Classical.not_imp.1 hi;exact ihj i hi1 (by omega) hi2
   obtain⟨j,⟨hj1,hj2⟩,hj3⟩:=this;have hjl:j<ops.length:=by omega
   have hm:j ∈ Region.ready .any ops.toArray l:=by
    rw[mem_ready];refine⟨(tf j hjl).2 (by simpa using hj2),ops[j],by simp[hjl],fun e he hb=>hj3 _ ?_⟩;exact (ok_at hok (List.getElem?_eq_getElem hjl)).1 e he hb
   rw[h0] at hm;cases hm
  obtain⟨h1,o,ho,he⟩:=mem_ready.1 hi;have ho':ops[i]?=some o:=by simpa using ho
  have hil:i<ops.length:=(List.getElem?_eq_some_iff.1 ho').1;have h1':=(tf i hil).1 h1;have hk:=ok_at hok ho'
  have hdep:∀ j,(dep D i).contains j=true->l.getD j false=true:=fun j hj=>by
   obtain⟨⟨e,e1,e2,e3⟩,-,-⟩:=hk.2.1 j hj;have:=he e e1 e2;rcases e3 with e3 | e3
   ·rw[<-e3];exact this
   exact hcl _ _ this e3
  have him:i<m:=by
   rcases hk.2.2.1 with h | h
   ·exact h
   exact absurd (fun j hj=>hdep j (h j hj)) hall
  obtain⟨hg,hw⟩:=hstep _ T w i o hJ ho' him h1' hdep hcl;unfold wpOp;rw[ho];have hwant:Region.wanted o (yielded ops.toArray T)=true:=by unfold Region.wanted;rw[hg]
  simp only[hwant,if_true];refine Or.inl (hw _ (h_ fun T' w' hJ'=>?_));have hli:i<l.size:=by omega
  have hup:(fun j=>(l.setIfInBounds i true).getD j false)=upd (fun j=>l.getD j false) i:=funext fun j=>R7.getD_set hli
  have hget:l.toList[i]?=some false:=by
   rw[Array.getElem?_toList,Array.getElem?_eq_getElem hli];have:=h1';rw[Array.getD_eq_getD_getElem?,Array.getElem?_eq_getElem hli] at this;exact congrArg some this
  refine ih _ T' w' (by simpa using hs) ?_ (fun j hj=>?_) (fun j k hj hjk=>?_) (by rw[hup];exact hJ')
  ·rw[Array.toList_setIfInBounds];have:=count_false hget
   omega
  ·rw[R7.getD_set hli,Bool.or_eq_true,decide_eq_true_eq] at hj;rcases hj with rfl | hj
   ·exact him
   exact hlt j hj
  rw[R7.getD_set hli,Bool.or_eq_true,decide_eq_true_eq] at hj ⊢;rcases hj with rfl | hj
  ·exact .inr (hdep k hjk)
  exact .inr (hcl j k hj hjk)
theorem region {id:Nat} {w:World} (hm:P.follows .mixedOrders=true) (D:List (List Nat)) (m:Nat) (hok:ok ops D m t0.size=true) (hin:inOrder ops m=true) (J:(Nat->Bool)->Array Value->World->Prop)
  (h0:J (fun _=>false) t0 w.drew)
  (hstep:∀ d T wc i o,J d T wc->ops[i]?=some o->i<m->d i=false->(∀ j,(dep D i).contains j=true->d j=true)->(∀ j k,d j=true->(dep D j).contains k=true->d k=true)->o.guard=none/\∀ K:Act->World->Prop,Hid (∀ T' w',J (upd d i) T' w'->K ⟨T',ds⟩ w')->o.wp P ⟨T,ds⟩ wc K Q)
  (hrest:∀ T wc,J (fun j=>decide (j<m)) T wc->wpList P ops.toArray Q (ops.drop m) ⟨T,ds⟩ wc):(Code.region id ops.toArray true).wp P Q ⟨t0,ds⟩ w:=by
 refine wp_region_any hm ?_
 have hno:(fun j=>(Array.replicate ops.toArray.size false).getD j false)=fun _=>false:=funext fun j=>by
  rw[Array.getD_eq_getD_getElem?]
  by_cases h:j<ops.length<;>simp[h]
 have hnn:∀ j,(Array.replicate ops.toArray.size false).getD j false=true->False:=fun j hj=>by
  have:=congrFun hno j;rw[this] at hj;cases hj
 have hc:(Array.replicate ops.toArray.size false).toList.count false=ops.toArray.size:=by simp
 exact main hok hin J hstep hrest _ _ t0 _ (by simp) hc (fun j hj=>(hnn j hj).elim) (fun j k hj=>(hnn j hj).elim) (by rw[hno];exact h0)
end
end Rel9
end Go.Proofs.YtkocdbgmckdcpaaGreatDoor
namespace Go.Proofs.YtkocdbgmckdcpaaGreatDoor
open Go.RowKit
set_option maxRecDepth 100000
set_option linter.unusedVariables false
def FBlk (w:World) (kf:Nat) (nm:Bs) (v:Value) (ln cl:Nat):Prop:=w.heap[kf]?=some (.cells #[.string ⟨nm.toArray⟩,v,.string ⟨#[]⟩,.int .i64 0,.bool false,.int .i64 0,.string ⟨#[]⟩,.string ⟨#[]⟩,.bool false,.slice none 0 0,.slice none 0 0,.int .i64 0,.int .i64 0,.int .i64 0,.int .i64 0,.int .i64 0,.string ⟨#[]⟩,.string ⟨#[]⟩,.bool false,.slice none 0 0,.slice none 0 0,.int .i64 0,.int .i64 0,.int .i64 (ln:Nat),.int .i64 (cl:Nat)] 50 (0,0))
theorem FBlk.set {w:World} {kf:Nat} {nm:Bs} {v:Value} {ln cl:Nat} (h:FBlk w kf nm v ln cl) (v':Value):FBlk (w.setCell ⟨kf,1,none⟩ v') kf nm v' ln cl:=by
 unfold FBlk at *;rw[heap_setCell_same _ kf 1 _ _ _ h];rfl
def Slots (kf kb:Nat) (val:Nat->Value) (N:Nat) (d:Nat->Bool) (T:Array Value):Prop:=T.size=N/\T[0]?=some (.pointer (some ⟨kf,0,none⟩))/\T[1]?=some (.pointer (some ⟨kb,0,none⟩))/\∀ j,j<8->d j=true->T[j+2]?=some (val j)
theorem Slots.put {kf kb:Nat} {val:Nat->Value} {N:Nat} {d:Nat->Bool} {T:Array Value} (h:Slots kf kb val N d T) {i:Nat} {v:Value} (hi:i+2<N) (hv:i<8->v=val i):Slots kf kb val N (Rel9.upd d i) (T.setIfInBounds (i+2) v):=by
 obtain⟨h1,h2,h3,h4⟩:=h;refine⟨by simpa using h1,by rw[Array.getElem?_setIfInBounds_ne (by omega)];exact h2,by rw[Array.getElem?_setIfInBounds_ne (by omega)];exact h3,fun j hj hd=>?_⟩
 by_cases e:j=i
 ·subst e;rw[Array.getElem?_setIfInBounds_self_of_lt (by omega),hv hj]
 rw[Array.getElem?_setIfInBounds_ne (by omega)];exact h4 j hj (by unfold Rel9.upd at hd;simpa [e] using hd)
def val8 (kf g n:Nat) (v pv:Value):Nat->Value
 | 0=>.pointer (some ⟨kf,1,none⟩)
 | 1=>v
 | 2=>.pointer (some ⟨g,0,none⟩)
 | 3=>.pointer (some ⟨g,0,none⟩)
 | 4=>.pointer (some ⟨kf,1,none⟩)
 | 5=>v
 | 6=>.int .i64 (n:Nat)
 | _=>pv
def Stg (wd:World) (g:Nat) (s s2:St) (r:PmU × St) (d:Nat->Bool) (T:Array Value) (w:World):Prop:=
 (d 7=false/\d 8=false/\d 9=false/\PS w g s)\/(d 7=true/\d 8=false/\d 9=false/\PS w g s2) \/
 (d 7=true/\d 8=true/\d 9=false/\∃ y,T[10]?=some (pmV r.1 y)/\Um w (fun b=>wd.heap.size<=b) y r.1.ref/\PS w g r.2) \/
 (d 7=true/\d 8=true/\d 9=true/\∃ y k,T[11]?=some (.slice (some ⟨k,0,none⟩) 1 1)/\wd.heap.size<=k/\w.heap[k]?=some (.cells (pmC r.1 y).toArray 48 (0,0))/\Um w (fun b=>wd.heap.size<=b/\b≠k) y r.1.ref/\PS w g r.2)
theorem Stg.quiet {wd:World} {g:Nat} {s s2:St} {r:PmU × St} {d:Nat->Bool} {T:Array Value} {w:World} (h:Stg wd g s s2 r d T w) {i:Nat} (hi:i<7) (v:Value):Stg wd g s s2 r (Rel9.upd d i) (T.setIfInBounds (i+2) v) w:=by
 have e:∀ j,7<=j->Rel9.upd d i j=d j:=fun j hj=>by unfold Rel9.upd;simp[show ¬ j=i by omega]
 unfold Stg at *;rw[e 7 (by omega),e 8 (by omega),e 9 (by omega),Array.getElem?_setIfInBounds_ne (by omega),Array.getElem?_setIfInBounds_ne (by omega)];exact h
theorem array14 (T:Array Value) (h:T.size=14):∃ a0 a1 a2 a3 a4 a5 a6 a7 a8 a9 a10 a11 a12 a13,T=#[a0,a1,a2,a3,a4,a5,a6,a7,a8,a9,a10,a11,a12,a13]:=by
 obtain⟨l⟩:=T
 match l,h with
 | [a0,a1,a2,a3,a4,a5,a6,a7,a8,a9,a10,a11,a12,a13],_=>exact⟨a0,a1,a2,a3,a4,a5,a6,a7,a8,a9,a10,a11,a12,a13,rfl⟩
def Kept (w w':World) (g kf B:Nat):Prop:=w'.os=w.os/\w'.tape=w.tape/\w'.output=w.output/\w.heap.size<=w'.heap.size/\∀ k,k<w.heap.size->k<B->k≠g->k≠kf->w'.heap[k]?=w.heap[k]?
theorem Kept.refl (w:World) (g kf B:Nat):Kept w w g kf B:=⟨rfl,rfl,rfl,Nat.le_refl _,fun _ _ _ _ _=>rfl⟩
theorem Kept.trans {w w1 w2:World} {g kf B:Nat} (h:Kept w w1 g kf B) (k:Kept w1 w2 g kf B):Kept w w2 g kf B:=
 ⟨k.1.trans h.1,k.2.1.trans h.2.1,k.2.2.1.trans h.2.2.1,Nat.le_trans h.2.2.2.1 k.2.2.2.1,fun q h1 h2 h3 h4=>(k.2.2.2.2 q (Nat.lt_of_lt_of_le h1 h.2.2.2.1) h2 h3 h4).trans (h.2.2.2.2 q h1 h2 h3 h4)⟩
theorem Kept.of {w w':World} {g kf B k:Nat} (h:w.grownBy w' (some k)) (hk:k=g\/k=kf\/B<=k):Kept w w' g kf B:=⟨h.os,h.tape,h.output,h.size,fun q h1 h2 h3 h4=>h.block q h1 (fun e=>by injection e with e;omega)⟩
theorem Kept.row {w w':World} {g kf B:Nat} {S:Nat->Prop} {v:Value} {α:Type} {E:El α} {el:List α} (hr:E.Row w B S v el) (h:w.grownBy w' v.ownBlock):Kept w w' g kf B:=⟨h.os,h.tape,h.output,h.size,fun q h1 h2 h3 h4=>h.block q h1 (fun e=>by have:=(hr.ge e.symm).1;omega)⟩
def FPost (wc:World) (g kf B:Nat) (S:Nat->Prop) (nm:Bs) (ln cl:Nat) (ps:List PmU) (s:St) (w':World):Prop:=∃ (qs:List (PmU × X)) (ko:Option Addr) (kc:Nat),qs.map Prod.fst=ps/\PS w' g s/\FBlk w' kf nm (.slice ko qs.length kc) ln cl/\pmE.Row w' B S (.slice ko qs.length kc) qs/\Kept wc w' g kf B
theorem fclos_p (n:Nat) (hn:n<=1000000) (g kf kb B:Nat) (S:Nat->Prop) (s:St) (r:PmU × St) (nm:Bs) (ln cl:Nat) (qs:List (PmU × X)) (ko:Option Addr) (kc:Nat) (wc:World) (hps:PS wc g s) (hop:GOps wc g) (hgb:g<kb) (hgf:g<kf) (hB:B=kf+1) (hbf:kb<kf)
  (hF:FBlk wc kf nm (.slice ko qs.length kc) ln cl) (hbx:wc.heap[kb]?=some (.cells #[.pointer (some ⟨g,0,none⟩)] 57 (0,0))) (hrow:pmE.Row wc B S (.slice ko qs.length kc) qs) (hSg:¬ S g) (hSf:¬ S kf) (hS:∀ b,wc.heap.size<=b->S b) (hlen:qs.length<=100000)
  (hc:cRef n (cParam qs.length s).1 (cParam qs.length s).2=some r) :
  Calls Tryz.prog 68 #[.pointer (some ⟨kf,0,none⟩),.pointer (some ⟨kb,0,none⟩)] wc fun e w'=>(∃ v,e=.returned v)/\FPost wc g kf B S nm ln cl (qs.map Prod.fst++[r.1]) r.2 w':=by
 have HP:=h_ hps;have HOP:=h_ hop;have HC:=h_ hc;have HF:=h_ hF;have HBb:=h_ hbx;have HR:=h_ hrow;have HSS:=h_ hS;clear hps hop hc hF hbx hrow hS;have hlf:=lt_of_block HF.out;have hlb:=lt_of_block HBb.out;have hgB:g<B:=by omega
 have hfB:kf<B:=by omega
 have hBl:B<=wc.heap.size:=by omega
 clear hB;obtain⟨p2,hp2⟩:∃ p,p=(cParam qs.length s).1:=⟨_,rfl⟩
 obtain⟨s2,hs2⟩:∃ x,x=(cParam qs.length s).2:=⟨_,rfl⟩
 have HP2:=h_ hp2;have HS2:=h_ hs2;clear hp2 hs2;go_enter Tryz.func68,Tryz.ntmps68
 refine Rel9.region (by kernel_rfl) [[],[0],[],[],[],[4],[4,5],[3,4,5,6],[2,3,4,5,6,7],[2,3,4,5,6,7,8],[0,1,2,3,4,5,6,7,8,9],[0,1,2,3,4,5,6,7,8,9,10],[0,1,2,3,4,5,6,7,8,9,10,11]] 10 (by kernel_rfl) (by kernel_rfl)
  (fun d T w=>wc.grownBy w (some g)/\Slots kf kb (val8 kf g qs.length (.slice ko qs.length kc) (pmV p2 xZ)) 14 d T/\Stg wc g s s2 r d T w) ?_ ?_ ?_
 ·refine⟨below_grown ((Below.refl _ _).drew) _,⟨by rfl,by rfl,by rfl,fun j _ h=>by cases h⟩,.inl ⟨rfl,rfl,rfl,HP.out.below ((Below.refl _ _).drew)⟩⟩
 ·intro d T w i o hJ ho hi hd hdep hcl;obtain⟨hG,hSl,hSt⟩:=hJ;have e0:=hSl.2.1;have e1:=hSl.2.2.1;obtain rfl | rfl | rfl | rfl | rfl | rfl | rfl | rfl | rfl | rfl:i=0\/i=1\/i=2\/i=3\/i=4\/i=5\/i=6\/i=7\/i=8\/i=9:=by omega
  ·injection ho with ho;subst ho;refine⟨rfl,fun K hK=>?_⟩;go_simp
   exact hK.out _ _ ⟨hG,hSl.put (i:=0) (by decide) (fun _=>rfl),hSt.quiet (i:=0) (by decide) _⟩
  ·injection ho with ho;subst ho;have e2:T[2]?=some (.pointer (some ⟨kf,1,none⟩)):=hSl.2.2.2 0 (by decide) (hdep 0 (by rfl));have hf:=(hG.block kf hlf (fun e=>by injection e with e;omega)).trans HF.out;have c1:=cell_at (v:=.slice ko qs.length kc) hf 1 rfl;clear hf;refine⟨rfl,fun K hK=>?_⟩;go_simp
   exact hK.out _ _ ⟨hG,hSl.put (i:=1) (by decide) (fun _=>rfl),hSt.quiet (i:=1) (by decide) _⟩
  ·injection ho with ho;subst ho;have hb:=(hG.block kb hlb (fun e=>by injection e with e;omega)).trans HBb.out;have c1:=cell_at (v:=.pointer (some ⟨g,0,none⟩)) hb 0 rfl;clear hb;refine⟨rfl,fun K hK=>?_⟩;go_simp
   exact hK.out _ _ ⟨hG,hSl.put (i:=2) (by decide) (fun _=>rfl),hSt.quiet (i:=2) (by decide) _⟩
  ·injection ho with ho;subst ho;have hb:=(hG.block kb hlb (fun e=>by injection e with e;omega)).trans HBb.out;have c1:=cell_at (v:=.pointer (some ⟨g,0,none⟩)) hb 0 rfl;clear hb;refine⟨rfl,fun K hK=>?_⟩;go_simp
   exact hK.out _ _ ⟨hG,hSl.put (i:=3) (by decide) (fun _=>rfl),hSt.quiet (i:=3) (by decide) _⟩
  ·injection ho with ho;subst ho;refine⟨rfl,fun K hK=>?_⟩;go_simp
   exact hK.out _ _ ⟨hG,hSl.put (i:=4) (by decide) (fun _=>rfl),hSt.quiet (i:=4) (by decide) _⟩
  ·injection ho with ho;subst ho;have e6:T[6]?=some (.pointer (some ⟨kf,1,none⟩)):=hSl.2.2.2 4 (by decide) (hdep 4 (by rfl));have hf:=(hG.block kf hlf (fun e=>by injection e with e;omega)).trans HF.out;have c1:=cell_at (v:=.slice ko qs.length kc) hf 1 rfl;clear hf;refine⟨rfl,fun K hK=>?_⟩;go_simp
   exact hK.out _ _ ⟨hG,hSl.put (i:=5) (by decide) (fun _=>rfl),hSt.quiet (i:=5) (by decide) _⟩
  ·injection ho with ho;subst ho;have e7:T[7]?=some (.slice ko qs.length kc):=hSl.2.2.2 5 (by decide) (hdep 5 (by rfl));refine⟨rfl,fun K hK=>?_⟩;go_simp
   exact hK.out _ _ ⟨hG,hSl.put (i:=6) (by decide) (fun _=>rfl),hSt.quiet (i:=6) (by decide) _⟩
  ·injection ho with ho;subst ho;have e5:T[5]?=some (.pointer (some ⟨g,0,none⟩)):=hSl.2.2.2 3 (by decide) (hdep 3 (by rfl));have e8:T[8]?=some (.int .i64 (qs.length:Nat)):=hSl.2.2.2 6 (by decide) (hdep 6 (by rfl));obtain⟨-,h8,h9,hp⟩ | ⟨h7,-⟩ | ⟨h7,-⟩ | ⟨h7,-⟩:=hSt
   ·refine⟨rfl,fun K hK=>?_⟩;go_simp
    refine (param_p g qs.length s w hp (by omega)).mono ?_;rintro e w' ⟨rfl,hp',hg'⟩;rw[<-HP2.out];rw[<-HS2.out] at hp';refine hK.out _ _ ⟨grown_tr hG hg',hSl.put (i:=7) (by decide) (fun _=>rfl),.inr (.inl ⟨by rfl,by unfold Rel9.upd;simp[h8],by unfold Rel9.upd;simp[h9],hp'⟩)⟩
   all_goals rw[hd] at h7;cases h7
  ·injection ho with ho;subst ho;have e4:T[4]?=some (.pointer (some ⟨g,0,none⟩)):=hSl.2.2.2 2 (by decide) (hdep 2 (by rfl));have e9:T[9]?=some (pmV p2 xZ):=hSl.2.2.2 7 (by decide) (hdep 7 (by rfl));obtain⟨h7,-⟩ | ⟨h7,-,h9,hp⟩ | ⟨-,h8,-⟩ | ⟨-,h8,-⟩:=hSt
   ·rw[hdep 7 (by rfl)] at h7;cases h7
   ·refine⟨rfl,fun K hK=>?_⟩;go_simp
    have hc2:cRef n (typ s.nx.text s.nx (cBase ((s.counted qs.length 6).exp wColon)).1) s2=some r:=by rw[HS2.out];exact HC.out
    have hpv:pmV p2 xZ=pmV (typ s.nx.text s.nx (cBase ((s.counted qs.length 6).exp wColon)).1) xZ:=by rw[HP2.out];rfl
    rw[hpv];refine (refined_p n hn g s2 _ _ _ r w hp (HOP.out.grown hG (Nat.le_refl _)) hc2).mono ?_;rintro e w' ⟨y,rfl,hu,hp',hg'⟩;refine hK.out _ _ ⟨grown_tr hG hg',hSl.put (i:=8) (by decide) (fun h=>absurd h (by decide)),.inr (.inr (.inl ⟨by unfold Rel9.upd;simp[h7],by rfl,by unfold Rel9.upd;simp[h9],y,?_,hu.mono (fun b h=>Nat.le_trans hG.size h),hp'⟩))⟩;rw[Array.getElem?_setIfInBounds_self_of_lt (by rw[hSl.1];decide)]
   all_goals rw[hd] at h8;cases h8
  injection ho with ho;subst ho;obtain⟨h7,-⟩ | ⟨-,h8,-⟩ | ⟨h7,h8,-,y,e10,hu,hp⟩ | ⟨-,-,h9,-⟩:=hSt
  ·rw[hdep 7 (by rfl)] at h7;cases h7
  ·rw[hdep 8 (by rfl)] at h8;cases h8
  ·refine⟨rfl,fun K hK=>?_⟩;simp only[pmV] at e10;go_simp
   refine hK.out _ _ ⟨grown_tr hG (below_grown ((Below.refl _ _).alloc (Nat.le_refl _) _) _),hSl.put (i:=9) (by decide) (fun h=>absurd h (by decide)),.inr (.inr (.inr ⟨by unfold Rel9.upd;simp[h7],by unfold Rel9.upd;simp[h8],by rfl,y,w.heap.size,?_,hG.size,made_at w _ _ rfl,?_,hp.below ((Below.refl _ _).alloc (Nat.le_refl _) _)⟩))⟩
   ·rw[Array.getElem?_setIfInBounds_self_of_lt (by rw[hSl.1];decide)]
   exact (hu.off.below ((Below.refl _ _).alloc (Nat.le_refl _) _)).mono fun b h=>h
  rw[hd] at h9;cases h9
 intro T w hJ;obtain⟨hG,hSl,hSt⟩:=hJ;obtain⟨h7,-⟩ | ⟨-,h8,-⟩ | ⟨-,-,h9,-⟩ | ⟨-,-,-,y,k,e11,hk,hB4,hu,hp⟩:=hSt
 ·exact absurd h7 (by decide)
 ·exact absurd h8 (by decide)
 ·exact absurd h9 (by decide)
 have e0:=hSl.2.1;have e3:T[3]?=some (.slice ko qs.length kc):=hSl.2.2.2 1 (by decide) (by rfl);have hr2:=HR.out.grown hG (by omega) hSg;have hF2:FBlk w kf nm (.slice ko qs.length kc) ln cl:=(hG.block kf hlf (fun e=>by injection e with e;omega)).trans HF.out;have hlf2:=lt_of_block hF2;have hws:=hG.size;have hown:∀ b,wc.heap.size<=b->(Value.slice ko qs.length kc).ownBlock≠some b:=fun b hb e=>by have:=(HR.out.ge e).2;omega
 refine El.Row.append (E:=pmE) hr2 rfl (.tmp 3) (.tmp 11) 38 rfl Tryz.underlying38 infoParam rfl (by decide) (by show T.getD 3 undef=_;rw[Array.getD_eq_getD_getElem?,e3];rfl) (r.1,y) k 48 (by show T.getD 11 undef=_;rw[Array.getD_eq_getD_getElem?,e11];rfl) hB4 (hu.mono fun b h=>⟨HSS.out b h.1,hown b h.1⟩) (by omega) (by omega) ?_;intro v2 w2 hrow hgw;obtain⟨qs2,hqs⟩:∃ l:List (PmU × X),l=qs++[(r.1,y)]:=⟨_,rfl⟩
 rw[<-hqs] at hrow;obtain⟨ko2,kc2,hv2,-⟩:=hrow.form;subst hv2;have hF3:FBlk w2 kf nm (.slice ko qs.length kc) ln cl:=(hr2.kR hgw (by omega) (h_ hF2)).out;have hp3:=hr2.ps hgw (by omega) hp;have hKe:=(Kept.of (kf:=kf) (B:=B) hG (.inl rfl)).trans (Kept.row (g:=g) (kf:=kf) hr2 hgw);have HKe:=h_ hKe;have HP3:=h_ hp3;have HF3:=h_ hF3;have HRW:=h_ hrow;have HQS:=h_ hqs;have c1:=cell_at (v:=.slice ko qs.length kc) hF3 1 rfl;have f1:=froz_at hF3 1;obtain⟨T2,hT2⟩:∃ x,x=T.setIfInBounds 12 (.slice ko2 qs2.length kc2):=⟨_,rfl⟩
 have t0:T2[0]?=some (.pointer (some ⟨kf,0,none⟩)):=by rw[hT2,Array.getElem?_setIfInBounds_ne (by decide)];exact e0
 have t12:T2[12]?=some (.slice ko2 qs2.length kc2):=by rw[hT2,Array.getElem?_setIfInBounds_self_of_lt (by rw[hSl.1];decide)]
 have hsz:T2.size=14:=by rw[hT2];simpa using hSl.1
 change wpList Tryz.prog _ _ _ ⟨T.setIfInBounds 12 (.slice ko2 qs2.length kc2),_⟩ w2;rw[<-hT2];clear hT2 hF3 hp3 hKe hrow hqs hgw hr2 hF2 hu hB4 hSl hG hp e0 e3 e11;obtain⟨a0,a1,a2,a3,a4,a5,a6,a7,a8,a9,a10,a11,a12,a13,hT⟩:=array14 T2 hsz;subst hT;have t0':a0=_:=Option.some.inj t0;have t12':a12=_:=Option.some.inj t12;subst t0' t12';clear t0 t12 hsz;go_wp2_with fail
 go_end0
 have hg:=grown_set w2 kf 1 (.slice ko2 qs2.length kc2);refine⟨⟨_,rfl⟩,qs2,ko2,kc2,by rw[HQS.out,List.map_append];rfl,?_,HF3.out.set _,HRW.out.grown hg (by omega) hSf,HKe.out.trans (Kept.of hg (.inr (.inl rfl)))⟩;exact HP3.out.store HF3.out (by decide) hgf hg
theorem FPost.did {wc w w':World} {g kf B:Nat} {S:Nat->Prop} {nm:Bs} {ln cl:Nat} {ps:List PmU} {s s':St} (h:FPost wc g kf B S nm ln cl ps s w) (hd:Did w g s' w') (h1:g<B) (h2:g<kf) (h3:¬ S g):FPost wc g kf B S nm ln cl ps s' w':=by
 obtain⟨qs,ko,kc,a1,a2,a3,a4,a5⟩:=h;exact⟨qs,ko,kc,a1,hd.1,(hd.2.block _ (lt_of_block a3) (fun e=>by injection e with e;omega)).trans a3,a4.grown hd.2 h1 h3,a5.trans (Kept.of hd.2 (.inl rfl))⟩
theorem GOps.kept {w w':World} {g kf B:Nat} (h:GOps w g) (hk:Kept w w' g kf B) (h1:g<B) (h2:g<kf):GOps w' g:=
 ⟨fun j u hu=>by
  have hc:=h.1 j u hu
  rw[World.cell?_of_block (hk.2.2.2.2 _ (cell_lt hc) (by have:=h.2;simp only at *;omega) (by have:=h.2;simp only at *;omega) (by have:=h.2;simp only at *;omega))];exact hc,h.2⟩
theorem len_call {n:Nat} {s:St} {x:U × St} (h:cAll n s=some x):x.2.rest.length<=s.rest.length:=by
 unfold cAll at h;rw[Option.bind_eq_some_iff] at h;obtain⟨r,h1,h2⟩:=h;injection h2 with h2;subst h2;have:=(c_len n).1 _ _ h1;simp only
 split
 ·exact Nat.le_trans (len_fail _ _ _) this
 exact this
theorem len_ref {n:Nat} {p:PmU} {s:St} {x:PmU × St} (h:cRef n p s=some x):x.2.rest.length<=s.rest.length:=by
 unfold cRef at h
 split at h
 ·rw[Option.bind_eq_some_iff] at h;obtain⟨r,h1,h2⟩:=h;injection h2 with h2;subst h2;exact Nat.le_trans (len_exp _ _) (Nat.le_trans (len_call h1) (len_tk _))
 injection h with h;subst h;exact Nat.le_refl _
theorem len_fpar {n:Nat} {l:List PmU} {s:St} {x:List PmU × St} (h:cFPar n l s=some x):x.2.rest.length<=s.rest.length/\∃ q,cRef n (cParam l.length s).1 (cParam l.length s).2=some q/\x=(l++[q.1],q.2):=by
 unfold cFPar at h;rw[Option.bind_eq_some_iff] at h;obtain⟨q,h1,h2⟩:=h;injection h2 with h2;subst h2;exact⟨Nat.le_trans (len_ref h1) (len_param _ _),q,h1,rfl⟩
theorem fcl_p (n:Nat) (hn:n<=1000000) (g kf kb B:Nat) (S:Nat->Prop) (nm:Bs) (ln cl:Nat) (ps:List PmU) (s:St) (r:List PmU × St) (wc w:World) (hop:GOps wc g) (hgb:g<kb) (hgf:g<kf) (hB:B=kf+1) (hbf:kb<kf) (hbx:wc.heap[kb]?=some (.cells #[.pointer (some ⟨g,0,none⟩)] 57 (0,0))) (hSg:¬ S g) (hSf:¬ S kf) (hS:∀ b,wc.heap.size<=b->S b) (hlen:ps.length<=100000)
  (h:FPost wc g kf B S nm ln cl ps s w) (hc:cFPar n ps s=some r) :
  Calls Tryz.prog 68 #[.pointer (some ⟨kf,0,none⟩),.pointer (some ⟨kb,0,none⟩)] w fun e w'=>(∃ v,e=.returned v)/\FPost wc g kf B S nm ln cl r.1 r.2 w':=by
 obtain⟨qs,ko,kc,rfl,a2,a3,a4,a5⟩:=h;rw[List.length_map] at hlen;obtain⟨-,q,hq,rfl⟩:=len_fpar hc;rw[List.length_map] at hq;refine (fclos_p n hn g kf kb B S s q nm ln cl qs ko kc w a2 (hop.kept a5 (by omega) hgf) hgb hgf hB hbf a3 ((a5.2.2.2.2 kb (lt_of_block hbx) (by omega) (by omega) (by omega)).trans hbx) a4 hSg hSf (fun b hb=>hS b (Nat.le_trans a5.2.2.2.1 hb)) hlen hq).mono ?_;rintro e w' ⟨hv,qs',ko',kc',b1,b2,b3,b4,b5⟩;exact⟨hv,qs',ko',kc',b1,b2,b3,b4,a5.trans b5⟩
theorem flist_p (m n:Nat) (hn:n<=1000000) (g kf kb B:Nat) (S:Nat->Prop) (nm:Bs) (ln cl:Nat) (s:St) (r:List PmU × St) (wc:World) (hop:GOps wc g) (hgb:g<kb) (hgf:g<kf) (hB:B=kf+1) (hbf:kb<kf) (hbx:wc.heap[kb]?=some (.cells #[.pointer (some ⟨g,0,none⟩)] 57 (0,0))) (hSg:¬ S g) (hSf:¬ S kf) (hS:∀ b,wc.heap.size<=b->S b)
  (h0:FPost wc g kf B S nm ln cl [] s wc) (hc:cFPars m n s=some r) :
  Calls Tryz.prog 67 #[.pointer (some ⟨g,0,none⟩),.func (.func 68) #[] #[.pointer (some ⟨kf,0,none⟩),.pointer (some ⟨kb,0,none⟩)]] wc fun e w'=>(∃ v,e=.returned v)/\FPost wc g kf B S nm ln cl r.1 r.2 w':=by
 have hgB:g<B:=by omega
 have HCL:Hid (∀ (ps:List PmU) (s:St) (r:List PmU × St) (w:World),ps.length<=100000->FPost wc g kf B S nm ln cl ps s w->cFPar n ps s=some r->Calls Tryz.prog 68 #[.pointer (some ⟨kf,0,none⟩),.pointer (some ⟨kb,0,none⟩)] w fun e w'=>(∃ v,e=.returned v)/\FPost wc g kf B S nm ln cl r.1 r.2 w'):=
  h_ (fun ps s r w hl h hc=>fcl_p n hn g kf kb B S nm ln cl ps s r wc w hop hgb hgf hB hbf hbx hSg hSf hS hl h hc)
 have HL:=h_ h0;have hlen:s.rest.length<=30000:=by obtain⟨_,_,_,_,h,_⟩:=h0;exact h.2
 have HPS:Hid (∀ ps s w,FPost wc g kf B S nm ln cl ps s w->PS w g s):=h_ (fun ps s w h=>by obtain⟨_,_,_,_,h,_⟩:=h;exact h);have HDD:Hid (∀ ps s s' w w',FPost wc g kf B S nm ln cl ps s w->Did w g s' w'->FPost wc g kf B S nm ln cl ps s' w'):=h_ (fun ps s s' w w' h hd=>h.did hd hgB hgf hSg);clear h0 hop hbx hS hB;unfold cFPars at hc
 by_cases hcl:s.is wClose=true
 ·rw[if_pos hcl] at hc;injection hc with hc;subst hc;have HI:Hid (s.acc [41]=s.tk):=h_ (by unfold St.acc;rw[show s.is [41]=true from hcl];rfl);go_enter Tryz.func67,Tryz.ntmps67
  go_wp2_with fail
  refine (accept_p g s [41] wc (HPS.out _ _ _ HL.out)).mono ?_;rintro e w1 ⟨rfl,hd⟩;have HL1:=h_ (HDD.out _ _ _ _ _ HL.out hd);rw[HI.out] at HL1;rw[show s.is [41]=true from hcl];clear hd hcl;go_wp2_with fail
  exact bodyPost_ret (v:=.tuple #[]) (by simp[results,Tryz.results67,go_sem]) rfl ⟨⟨_,rfl⟩,HL1.out⟩
 rw[if_neg hcl,Option.bind_eq_some_iff] at hc;obtain⟨r1,hc1,hc2⟩:=hc;have HC1:=h_ hc1;have HC2:=h_ hc2;have hcf:s.is [41]=false:=by simpa using hcl
 have HI:Hid (s.acc [41]=s):=h_ (by unfold St.acc;rw[hcf];rfl);have hl1:=(len_fpar hc1).1;have hr1:r1.1.length=1:=by obtain⟨-,q,-,e⟩:=len_fpar hc1;rw[e];rfl
 have HR1:=h_ hr1;clear hc1 hc2 hcl hr1;go_enter Tryz.func67,Tryz.ntmps67
 go_wp2_with fail
 refine (accept_p g s [41] wc (HPS.out _ _ _ HL.out)).mono ?_;rintro e w1 ⟨rfl,hd⟩;have HL1:=h_ (HDD.out _ _ _ _ _ HL.out hd);rw[HI.out] at HL1;rw[hcf];clear hd;go_wp2_with fail
 refine (HCL.out [] s r1 w1 (by simp) HL1.out HC1.out).mono ?_;rintro e w2 ⟨⟨v,rfl⟩,hl⟩;have HL2:=h_ hl;clear hl;go_wp2_with fail
 go_loopw [8] (fun _ wr=>∃ (m':Nat) (us:List PmU) (sj:St),us.length+sj.rest.length<=30001/\Hid (cFMore m' n us sj=some r)/\Hid (FPost wc g kf B S nm ln cl us sj wr)) (fun _ wr=>pLen wr g)
 case atStart=>exact⟨m,r1.1,r1.2,by rw[HR1.out];omega,HC2,HL2⟩
 case round =>
  obtain⟨m',us,sj,hlj,HC,HLj⟩:=hrel
  cases m' with
  | zero=>exact absurd HC.out (by simp[cFMore])
  | succ m' =>
   have hcm:=HC.out;rw[cFMore] at hcm;have HLN:=h_ (HPS.out _ _ _ HLj.out).len;have HGD:=h_ (HPS.out _ _ _ HLj.out).good;go_wp2_with fail
   refine (accept_p g sj [44] wr (HPS.out _ _ _ HLj.out)).mono ?_;rintro e w3 ⟨rfl,hd⟩;have HL3:=h_ (HDD.out _ _ _ _ _ HLj.out hd);clear hd
   by_cases hi:sj.is [44]=true
   ·have hi2:sj.is wComma=true:=hi;rw[if_pos hi2,Option.bind_eq_some_iff] at hcm;obtain⟨r2,hd1,hd2⟩:=hcm;have HD1:=h_ hd1;have HD2:=h_ hd2;have hlt:=tk_less HGD.out (w:=wComma) (by decide) hi2;have hl2:=(len_fpar hd1).1;have hr2:r2.1.length=us.length+1:=by obtain⟨-,q,-,e⟩:=len_fpar hd1;rw[e,lsa];rfl
    have HR2:=h_ hr2;have HX:Hid (sj.acc [44]=sj.tk):=h_ (by unfold St.acc;rw[hi];rfl);rw[HX.out] at HL3;rw[hi];clear hi hi2 hd1 hd2 hr2;go_wp2_with fail
    refine (HCL.out us sj.tk r2 w3 (by omega) HL3.out HD1.out).mono ?_;rintro e w4 ⟨⟨v,rfl⟩,hl⟩;have HL4:=h_ hl;clear hl;go_wp2_with fail
    go_roundw
    case rel=>exact⟨m',r2.1,r2.2,by rw[HR2.out];omega,HD2,HL4⟩
    case measure=>rw[(HPS.out _ _ _ HL4.out).len,HLN.out];omega
   have hif:sj.is [44]=false:=by simpa using hi
   rw[if_neg (show ¬ sj.is wComma=true from hi)] at hcm;injection hcm with hcm;subst hcm;have HX:Hid (sj.acc [44]=sj):=h_ (by unfold St.acc;rw[hif];rfl);rw[HX.out] at HL3;rw[hif];clear hi;go_wp2_with fail
   obtain⟨w4,kq,hw,hkk,hb,hs1,HK⟩:=newb w3 #[.string ⟨#[41]⟩] 9;have hgk:g<kq:=by rw[hkk];exact (HPS.out _ _ _ HL3.out).lt
   rw[hw,<-hkk];have HL4:=h_ (HDD.out _ _ _ _ _ HL3.out (Did.of_below (HPS.out _ _ _ HL3.out) hb));clear hw hb hkk hs1;refine (expect_p g sj [[41]] kq w4 (HPS.out _ _ _ HL4.out) HK.out (by omega) (by decide)).mono ?_;rintro e w5 ⟨⟨v,rfl⟩,hd⟩;have HL5:=h_ (HDD.out _ _ _ _ _ HL4.out hd);clear hd;go_wp2_with fail
   go_end0
   exact⟨⟨_,rfl⟩,HL5.out⟩
end Go.Proofs.YtkocdbgmckdcpaaGreatDoor
