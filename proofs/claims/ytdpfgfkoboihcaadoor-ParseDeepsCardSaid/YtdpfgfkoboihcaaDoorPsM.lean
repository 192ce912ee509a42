/-
  Plain mathematics of layer 6: what package parse makes of tokens, function by function, with what it makes behind an error too; each function takes a bound of its steps and gives nothing where they do not suffice. No program, no Go stands here.
-/
import Derived.Test.YtdpfgfkoboihcaaDoorLxM
import Derived.Test.YtdpfgfkoboihcaaDoorKWhoF
namespace Go.Proofs.YtdpfgfkoboihcaaDoor
set_option maxRecDepth 100000

/-- A tree with places: its kind, its two names, its number, its place, its kids. -/
inductive U where
  | node (k : Nat) (nm ot : Bs) (z : Nat) (ln cl : Nat) (ks : List U)
def U.k : U → Nat | .node k _ _ _ _ _ _ => k
def U.ks : U → List U | .node _ _ _ _ _ _ ks => ks
def u0 : U := .node 0 [] [] 0 0 0 []
mutual
/-- How far down. -/
def ud : U → Nat
  | .node _ _ _ _ _ _ ks => uds ks + 1
def uds : List U → Nat
  | [] => 0
  | t :: ts => max (ud t) (uds ts)
end

/-- What is left of the tokens, and the first error: its number, its place. -/
structure St where
  rest : List Tok
  err : Option (Nat × Nat × Nat)
def tk0 : Tok := ⟨4, [], 0, 0⟩
def St.nx (s : St) : Tok := s.rest.headD tk0
def St.tk (s : St) : St := if s.nx.kind = 4 then s else ⟨s.rest.drop 1, s.err⟩
def St.fail (s : St) (t : Tok) (c : Nat) : St := ⟨s.rest.drop (s.rest.length - 1), s.err.or (some (c, t.line, t.col))⟩
/-- Is that text next? -/
def St.is (s : St) (w : Bs) : Bool := s.nx.text == w
def St.acc (s : St) (w : Bs) : St := if s.is w then s.tk else s
def St.exp (s : St) (w : Bs) : St := if s.is w then s.tk else s.fail s.nx 1
def St.exps (s : St) (ws : List Bs) : St := ws.foldl St.exp s
def St.name (s : St) : St := if s.nx.kind = 0 then s.tk else s.tk.fail s.nx 1
def St.counted (s : St) (count limit : Nat) : St := if limit ≤ count then s.name.fail s.nx 2 else s.name

abbrev wLet : Bs := [108, 101, 116]
abbrev wIf : Bs := [105, 102]
abbrev wMatch : Bs := [109, 97, 116, 99, 104]
abbrev wAssert : Bs := [97, 115, 115, 101, 114, 116]
abbrev wIn : Bs := [105, 110]
abbrev wThen : Bs := [116, 104, 101, 110]
abbrev wElse : Bs := [101, 108, 115, 101]
abbrev wWith : Bs := [119, 105, 116, 104]
abbrev wNil : Bs := [91, 93]
abbrev wArrow : Bs := [45, 62]
abbrev wBar : Bs := [124]
abbrev wCons : Bs := [58, 58]
abbrev wEq : Bs := [61]
abbrev wSemi : Bs := [59]
abbrev wV : Bs := [118]
abbrev wTrue : Bs := [116, 114, 117, 101]
abbrev wFalse : Bs := [102, 97, 108, 115, 101]
abbrev wOpen : Bs := [40]
abbrev wClose : Bs := [41]
abbrev wComma : Bs := [44]
abbrev wColon : Bs := [58]
abbrev wBraceO : Bs := [123]
abbrev wBraceC : Bs := [125]
abbrev wQualif : Bs := [113, 117, 97, 108, 105, 102]
abbrev wFun : Bs := [102, 117, 110]
abbrev wInt : Bs := [105, 110, 116]
abbrev wBool : Bs := [98, 111, 111, 108]
abbrev wList : Bs := [108, 105, 115, 116]

/-- A binary operator: sign, kind, level, levels of its operands. -/
structure Bop where
  sign : Bs
  kind : Nat
  level : Nat
  left : Nat
  right : Nat
def bops : List Bop := [⟨[124, 124], 22, 1, 1, 2⟩, ⟨[38, 38], 21, 2, 2, 3⟩, ⟨[61], 15, 3, 4, 4⟩, ⟨[60, 62], 16, 3, 4, 4⟩, ⟨[60], 17, 3, 4, 4⟩, ⟨[60, 61], 18, 3, 4, 4⟩, ⟨[62], 19, 3, 4, 4⟩, ⟨[62, 61], 20, 3, 4, 4⟩, ⟨[58, 58], 23, 4, 5, 4⟩, ⟨[43], 10, 5, 5, 6⟩, ⟨[45], 11, 5, 5, 6⟩, ⟨[42], 12, 6, 6, 7⟩, ⟨[47], 13, 6, 6, 7⟩, ⟨[37], 14, 6, 6, 7⟩]
def bopOf (w : Bs) : Option Bop := bops.find? (·.sign == w)
/-- The kind of a sign or word ahead of an operand. -/
def unOf (w : Bs) : Option Nat :=
  if w = [45] then some 5 else if w = [110, 111, 116] then some 6 else if w = [108, 101, 110] then some 7 else if w = [104, 100] then some 8 else if w = [116, 108] then some 9 else none

def prt (k : Nat) (t : Tok) (ks : List U) : U := .node k [] [] 0 t.line t.col ks
def nmd (k : Nat) (t : Tok) (ks : List U) : U := .node k t.text [] 0 t.line t.col ks

mutual
def cExpr : Nat → St → Option (U × St)
  | 0, _ => none
  | n + 1, s =>
    if s.is wLet then cLet n s
    else if s.is wIf then cIf n s
    else if s.is wMatch then cMatch n s
    else if s.is wAssert then cAssert n s
    else cBin n 1 s
def cLet : Nat → St → Option (U × St)
  | 0, _ => none
  | n + 1, s =>
    (cExpr n ((s.tk.name).exp wEq)).bind fun r1 =>
    (cExpr n (r1.2.exp wIn)).bind fun r2 =>
    some (.node 26 s.tk.nx.text [] 0 s.nx.line s.nx.col [r1.1, r2.1], r2.2)
def cIf : Nat → St → Option (U × St)
  | 0, _ => none
  | n + 1, s =>
    (cExpr n s.tk).bind fun r1 =>
    (cExpr n (r1.2.exp wThen)).bind fun r2 =>
    (cExpr n (r2.2.exp wElse)).bind fun r3 =>
    some (prt 25 s.nx [r1.1, r2.1, r3.1], r3.2)
def cMatch : Nat → St → Option (U × St)
  | 0, _ => none
  | n + 1, s =>
    (cExpr n s.tk).bind fun r1 =>
    (cExpr n (((r1.2.exp wWith).exp wNil).exp wArrow)).bind fun r2 =>
    (cExpr n (((((r2.2.exp wBar).name).exp wCons).name).exp wArrow)).bind fun r3 =>
    some (.node 27 (r2.2.exp wBar).nx.text (((r2.2.exp wBar).name).exp wCons).nx.text 0 s.nx.line s.nx.col [r1.1, r2.1, r3.1], r3.2)
def cAssert : Nat → St → Option (U × St)
  | 0, _ => none
  | n + 1, s =>
    (cExpr n s.tk).bind fun r1 =>
    (cExpr n (r1.2.exp wSemi)).bind fun r2 =>
    some (prt 28 s.nx [r1.1, r2.1], r2.2)
def cBin : Nat → Nat → St → Option (U × St)
  | 0, _, _ => none
  | n + 1, least, s => (cOne n s).bind fun r => cLoop n least r.1 7 r.2
def cLoop : Nat → Nat → U → Nat → St → Option (U × St)
  | 0, _, _, _, _ => none
  | n + 1, least, e, level, s =>
    match bopOf s.nx.text with
    | none => some (e, s)
    | some op =>
      if op.level < least ∨ level < op.left then some (e, s)
      else (cBin n op.right s.tk).bind fun r => cLoop n least (prt op.kind s.nx [e, r.1]) op.level r.2
def cOne : Nat → St → Option (U × St)
  | 0, _ => none
  | n + 1, s =>
    match unOf s.nx.text with
    | none => cAtom n s
    | some k => (cOne n s.tk).bind fun r => some (prt k s.nx [r.1], r.2)
def cAtom : Nat → St → Option (U × St)
  | 0, _ => none
  | n + 1, s =>
    if s.nx.kind = 1 then some (.node 0 [] [] (dn s.nx.text) s.nx.line s.nx.col [], s.tk)
    else if s.nx.kind = 0 then
      if s.tk.is wOpen then (cArgs n s.tk.tk).bind fun r => some (nmd 24 s.nx r.1, r.2)
      else some (nmd 3 s.nx [], s.tk)
    else if s.is wV then some (nmd 3 s.nx [], s.tk)
    else if s.is wTrue then some (prt 1 s.nx [], s.tk)
    else if s.is wFalse then some (prt 2 s.nx [], s.tk)
    else if s.is wNil then some (prt 4 s.nx [], s.tk)
    else if s.is wOpen then (cExpr n s.tk).bind fun r => some (r.1, r.2.exp wClose)
    else some (u0, s.tk.fail s.nx 1)
def cArgs : Nat → St → Option (List U × St)
  | 0, _ => none
  | n + 1, s => if s.is wClose then some ([], s.tk) else (cExpr n s).bind fun r => cMore n [r.1] r.2
def cMore : Nat → List U → St → Option (List U × St)
  | 0, _, _ => none
  | n + 1, l, s => if s.is wComma then (cExpr n s.tk).bind fun r => cMore n (l ++ [r.1]) r.2 else some (l, s.exp wClose)
end

/-- A parameter, a qualifier, a function, a program. -/
structure PmU where
  nm : Bs
  b : Nat
  kn : Bool
  ref : U
  ln : Nat
  cl : Nat
structure QlU where
  nm : Bs
  ps : List PmU
  body : U
  ln : Nat
  cl : Nat
structure FnU where
  nm : Bs
  ps : List PmU
  res : PmU
  body : U
  ln : Nat
  cl : Nat
structure PgU where
  qs : List QlU
  fs : List FnU

def cAll (n : Nat) (s : St) : Option (U × St) := (cExpr n s).bind fun r => some (r.1, if 60 < ud r.1 then r.2.fail s.nx 2 else r.2)
def cBase (s : St) : Nat × St :=
  if s.is wInt then (0, s.tk) else if s.is wBool then (1, s.tk) else if s.is wList then (2, s.tk) else (0, s.tk.fail s.nx 1)
def cRef (n : Nat) (p : PmU) (s : St) : Option (PmU × St) :=
  if s.is wBraceO then (cAll n s.tk).bind fun r => some ({ p with kn := true, ref := r.1 }, r.2.exp wBraceC) else some (p, s)
def typ (nm : Bs) (t : Tok) (b : Nat) : PmU := ⟨nm, b, false, u0, t.line, t.col⟩
def cVar (s : St) : PmU × St := let s2 := (s.exp wV).exp wColon; (typ s.nx.text s.nx (cBase s2).1, (cBase s2).2)
def cParam (count : Nat) (s : St) : PmU × St := let s2 := (s.counted count 6).exp wColon; (typ s.nx.text s.nx (cBase s2).1, (cBase s2).2)
def cRes (n : Nat) (s : St) : Option (PmU × St) := cRef n (typ wV s.nx (cBase s).1) (cBase s).2
def cQMore : Nat → List PmU → St → Option (List PmU × St)
  | 0, _, _ => none
  | n + 1, l, s => if s.is wComma then cQMore n (l ++ [(cParam l.length s.tk).1]) (cParam l.length s.tk).2 else some (l, s)
def cFPar (n : Nat) (l : List PmU) (s : St) : Option (List PmU × St) := (cRef n (cParam l.length s).1 (cParam l.length s).2).bind fun r => some (l ++ [r.1], r.2)
def cFMore : Nat → Nat → List PmU → St → Option (List PmU × St)
  | 0, _, _, _ => none
  | m + 1, n, l, s => if s.is wComma then (cFPar n l s.tk).bind fun r => cFMore m n r.1 r.2 else some (l, s.exp wClose)
def cFPars (m n : Nat) (s : St) : Option (List PmU × St) := if s.is wClose then some ([], s.tk) else (cFPar n [] s).bind fun r => cFMore m n r.1 r.2
def cQual (m n count : Nat) (s : St) : Option (QlU × St) :=
  let s1 := (s.counted count 20).exp wOpen
  (cQMore m [(cVar s1).1] (cVar s1).2).bind fun r =>
  (cAll n ((r.2.exp wClose).exp wColon)).bind fun q =>
  some (⟨s.nx.text, r.1, q.1, s.nx.line, s.nx.col⟩, q.2)
def cFun (m n count : Nat) (s : St) : Option (FnU × St) :=
  let s1 := (s.counted count 20).exp wOpen
  (cFPars m n s1).bind fun r =>
  (cRes n (r.2.exp wColon)).bind fun t =>
  (cAll n (t.2.exp wEq)).bind fun q =>
  some (⟨s.nx.text, r.1, t.1, q.1, s.nx.line, s.nx.col⟩, q.2)
def cProg : Nat → Nat → PgU → St → Option (PgU × St)
  | 0, _, _, _ => none
  | m + 1, n, p, s =>
    if s.is wQualif then (cQual m n p.qs.length s.tk).bind fun r => cProg m n ⟨p.qs ++ [r.1], p.fs⟩ r.2
    else if s.is wFun then (cFun m n p.fs.length s.tk).bind fun r => cProg m n ⟨p.qs, p.fs ++ [r.1]⟩ r.2
    else some (p, s)
def St.fin (s : St) : St := if s.nx.kind = 4 then s else s.fail s.nx 1
end Go.Proofs.YtdpfgfkoboihcaaDoor
