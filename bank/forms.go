package bank

import (
	"litmus/logic"
	"litmus/whole"
)

// Form returns a term that always has the value of node i.
func (b *Bank) Form(i int) logic.Form {
	if b == nil || i < 0 || i >= len(b.forms) {
		return logic.Form{}
	}
	return b.forms[i]
}

// Sum returns a term that always has the value of a sum over nodes of b.
func (b *Bank) Sum(l Lin) logic.Form {
	if !b.has(l) {
		return logic.Form{}
	}
	// In a valid form, numbers are in canonical form.
	l = l.tidy()
	var all []logic.Form
	for i, n := range l.Nodes {
		f := b.Form(n)
		if whole.Cmp(l.Coefs[i], whole.Of(1)) != 0 {
			f = logic.Form{Op: logic.Scale, Num: l.Coefs[i], Kids: []logic.Form{f}}
		}
		all = append(all, f)
	}
	if len(all) == 0 || whole.Sign(l.Const) != 0 {
		all = append(all, logic.Form{Op: logic.Num, Num: l.Const})
	}
	return added(all)
}

// added returns the sum of all, of which there must be some. By halves, the terms of long
// sums are nested no deeper than need be.
func added(all []logic.Form) logic.Form {
	if len(all) == 1 {
		return all[0]
	}
	half := len(all) / 2
	return logic.Form{Op: logic.Add, Kids: []logic.Form{added(all[:half]), added(all[half:])}}
}

// termOps are the Ops of terms, by those of their nodes.
var termOps = [...]logic.Op{
	IVar: logic.IVar, Mul: logic.Mul, Quo: logic.Quo, Len: logic.Len, Hd: logic.Hd,
	LVar: logic.LVar, Nil: logic.Nil, Cons: logic.Cons, Tl: logic.Tl,
}

// form returns a term of n, whose parts are nodes of b.
func (b *Bank) form(n Node) logic.Form {
	if n.Op == Def {
		return b.Sum(n.Lin)
	}
	kids := make([]logic.Form, len(n.Args))
	for i, arg := range n.Args {
		kids[i] = b.Form(arg)
	}
	return logic.Form{Op: termOps[n.Op], Name: n.Name, Num: cloned(n.Num), Kids: kids}
}
