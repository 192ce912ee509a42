/-
  Plain mathematics of layer 6: what the reference makes of tokens, function by function, with a bound of its steps. No program, no Go stands here.
-/
import Derived.Test.YtdpfgfkoboihcaaDoorPsM
namespace Go.Proofs.YtdpfgfkoboihcaaDoor
set_option maxRecDepth 100000

/-- What is left of the tokens, the first error, its token. -/
structure RS where
  rest : List Tok
  bad : Nat
  pl : Tok
def RS.at' (r : RS) : Tok := r.rest.headD tk0
def RS.bd (r : RS) (t : Tok) (e : Nat) : RS := if r.bad = 0 then ⟨r.rest, e, t⟩ else r
def RS.is (r : RS) (w : Bs) : Bool := (r.bad == 0) && (r.at'.kind == 2 || r.at'.kind == 3) && (r.at'.text == w)
def RS.inc (r : RS) : RS := ⟨r.rest.drop 1, r.bad, r.pl⟩
def RS.eat (r : RS) (w : Bs) : RS := if r.is w then r.inc else r.bd r.at' 1
def RS.name (r : RS) : RS := if r.at'.kind = 0 then (if r.bad = 0 then r.inc else r) else r.bd r.at' 1

/-- A text, and how far down. -/
structure RE where
  S : Bs
  d : Nat
def plc (ln cl : Nat) : Bs := [64] ++ zText (ln : Nat) ++ [58] ++ zText (cl : Nat)
def opn (k : Nat) (ln cl : Nat) (nm : Bs) : Bs := [40] ++ zText (k : Nat) ++ plc ln cl ++ [32] ++ nm
def mk (k : Nat) (t : Tok) (nm : Bs) (ks : List RE) : RE := ⟨opn k t.line t.col nm ++ ks.flatMap RE.S ++ [41], ks.foldl (fun d e => max d e.d) 0 + 1⟩

def twoT : List (Bs × Nat) := [([43], 5), ([45], 5), ([42], 6), ([47], 6), ([37], 6), ([61], 3), ([60, 62], 3), ([60], 3), ([60, 61], 3), ([62], 3), ([62, 61], 3), ([38, 38], 2), ([124, 124], 1), ([58, 58], 4)]
def two (t : Tok) : Nat × Nat := if t.kind ≠ 2 then (0, 0) else match twoT.findIdx? (fun p => p.1 == t.text) with | some i => ((twoT.getD i ([], 0)).2, 10 + i) | none => (0, 0)
def rUn (r : RS) : Option Nat :=
  if r.is [45] then some 5 else if r.is [110, 111, 116] then some 6 else if r.is [108, 101, 110] then some 7 else if r.is [104, 100] then some 8 else if r.is [116, 108] then some 9 else none

mutual
def rExpr : Nat → RS → Option (RE × RS)
  | 0, _ => none
  | n + 1, r =>
    if r.is wLet then
      (rExpr n ((r.inc.name).eat wEq)).bind fun x1 =>
      (rExpr n (x1.2.eat wIn)).bind fun x2 =>
      some (mk 26 r.at' r.inc.at'.text [x1.1, x2.1], x2.2)
    else if r.is wIf then
      (rExpr n r.inc).bind fun x1 =>
      (rExpr n (x1.2.eat wThen)).bind fun x2 =>
      (rExpr n (x2.2.eat wElse)).bind fun x3 =>
      some (mk 25 r.at' [] [x1.1, x2.1, x3.1], x3.2)
    else if r.is wMatch then
      (rExpr n r.inc).bind fun x1 =>
      (rExpr n (((x1.2.eat wWith).eat wNil).eat wArrow)).bind fun x2 =>
      (rExpr n (((((x2.2.eat wBar).name).eat wCons).name).eat wArrow)).bind fun x3 =>
      some (mk 27 r.at' ((x2.2.eat wBar).at'.text ++ [32] ++ (((x2.2.eat wBar).name).eat wCons).at'.text) [x1.1, x2.1, x3.1], x3.2)
    else if r.is wAssert then
      (rExpr n r.inc).bind fun x1 =>
      (rExpr n (x1.2.eat wSemi)).bind fun x2 =>
      some (mk 28 r.at' [] [x1.1, x2.1], x2.2)
    else rClimb n 1 r
def rClimb : Nat → Nat → RS → Option (RE × RS)
  | 0, _, _ => none
  | n + 1, l, r => if l = 7 then rSingle n r else (rClimb n (l + 1) r).bind fun x => rLoop n l x.1 x.2
def rLoop : Nat → Nat → RE → RS → Option (RE × RS)
  | 0, _, _, _ => none
  | n + 1, l, e, r =>
    if r.bad ≠ 0 then some (e, r)
    else if (two r.at').1 ≠ l then some (e, r)
    else if l = 4 then (rClimb n 4 r.inc).bind fun x => some (mk (two r.at').2 r.at' [] [e, x.1], x.2)
    else (rClimb n (l + 1) r.inc).bind fun x => if l = 3 then some (mk (two r.at').2 r.at' [] [e, x.1], x.2) else rLoop n l (mk (two r.at').2 r.at' [] [e, x.1]) x.2
def rSingle : Nat → RS → Option (RE × RS)
  | 0, _ => none
  | n + 1, r =>
    match rUn r with
    | none => rAtom n r
    | some k => (rSingle n r.inc).bind fun x => some (mk k r.at' [] [x.1], x.2)
def rAtom : Nat → RS → Option (RE × RS)
  | 0, _ => none
  | n + 1, r =>
    if r.bad ≠ 0 then some (⟨[], 0⟩, r)
    else if r.is wTrue then some (mk 1 r.at' [] [], r.inc)
    else if r.is wFalse then some (mk 2 r.at' [] [], r.inc)
    else if r.is wV then some (mk 3 r.at' wV [], r.inc)
    else if r.is wNil then some (mk 4 r.at' [] [], r.inc)
    else if r.at'.kind = 1 then some (mk 0 r.at' r.at'.text [], r.inc)
    else if r.is wOpen then (rExpr n r.inc).bind fun x => some (x.1, x.2.eat wClose)
    else if (r.name).is wOpen then (rKids n [] (r.name).inc).bind fun x => some (mk 24 r.at' r.at'.text x.1, x.2.eat wClose)
    else some (mk 3 r.at' r.at'.text [], r.name)
def rKids : Nat → List RE → RS → Option (List RE × RS)
  | 0, _, _ => none
  | n + 1, l, r =>
    if r.bad ≠ 0 ∨ r.is wClose = true then some (l, r)
    else (rExpr n (if l.length > 0 then r.eat wComma else r)).bind fun x => rKids n (l ++ [x.1]) x.2
end
def rAll (n : Nat) (r : RS) : Option (Bs × RS) := (rExpr n r).bind fun x => some (x.1.S, if x.2.bad = 0 ∧ 60 < x.1.d then x.2.bd r.at' 2 else x.2)
end Go.Proofs.YtdpfgfkoboihcaaDoor
