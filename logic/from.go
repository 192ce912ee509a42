package logic

import (
	"slices"

	"litmus/api"
	"litmus/tree"
	"litmus/whole"
)

// From returns a form that has the same value as e, whatever the names of scope (of
// duplicate ones, the last one counts) are bound to, and true; or nothing and false, if
// e has none: by a type, a name or a divisor, or because it contains more than operators.
func From(e tree.Expr, scope []tree.Param) (Form, bool) {
	// The chapter says nothing about what isn't valid; what is called here relies on the
	// number of Kids.
	if !tree.Right(e) {
		return Form{}, false
	}
	return from(e, scope)
}

// from is From for a valid e.
func from(e tree.Expr, scope []tree.Param) (Form, bool) {
	kids := make([]Form, len(e.Kids))
	for i, kid := range e.Kids {
		f, ok := from(kid, scope)
		if !ok {
			return Form{}, false
		}
		kids[i] = f
	}
	switch e.Kind {
	case tree.Num:
		return Form{Op: Num, Num: e.Num}, true
	case tree.True:
		return of(True), true
	case tree.False:
		return of(False), true
	case tree.Nil:
		return of(Nil), true
	case tree.Var:
		return named(e.Name, scope)
	}
	if !isOperation(e, kids) {
		return Form{}, false
	}
	return operation(e.Kind, kids), true
}

// named returns that name of scope, and whether there is one.
func named(name string, scope []tree.Param) (Form, bool) {
	for _, p := range slices.Backward(scope) {
		if p.Name == name {
			return Var(name, p.Base), true
		}
	}
	return Form{}, false
}

// isOperation reports whether e is an operator with operands of the right sorts, which
// have these forms.
func isOperation(e tree.Expr, operands []Form) bool {
	switch e.Kind {
	case tree.Div, tree.Mod:
		if divisor := e.Kids[1]; divisor.Kind != tree.Num || whole.Sign(divisor.Num) < 1 {
			return false
		}
		fallthrough
	case tree.Neg, tree.Add, tree.Sub, tree.Mul, tree.Lt, tree.Le, tree.Gt, tree.Ge:
		return areAll(operands, api.Int)
	case tree.Not, tree.And, tree.Or:
		return areAll(operands, api.Bool)
	case tree.Len, tree.Hd, tree.Tl:
		return areAll(operands, api.List)
	case tree.Cons:
		return are(operands, api.Int, api.List)
	case tree.Eq, tree.Ne:
		return Sort(operands[0]) == Sort(operands[1])
	}
	return false
}

// operation returns what an operator makes of its operands.
func operation(k tree.Kind, operands []Form) Form {
	switch k {
	case tree.Len:
		return of(Len, operands...)
	case tree.Hd:
		return of(Hd, operands...)
	case tree.Tl:
		return of(Tl, operands...)
	case tree.Cons:
		return of(Cons, operands...)
	case tree.Not:
		return No(operands[0])
	case tree.And:
		return Both(operands...)
	case tree.Or:
		return Either(operands...)
	case tree.Neg:
		return times(whole.Of(-1), operands[0])
	case tree.Add, tree.Sub, tree.Mul, tree.Div, tree.Mod:
		return arithmetic(k, operands[0], operands[1])
	}
	return comparison(k, operands[0], operands[1])
}

// arithmetic returns what an operator makes of two ints.
func arithmetic(k tree.Kind, a, b Form) Form {
	switch k {
	case tree.Mul:
		return product(a, b)
	case tree.Div, tree.Mod:
		quotient := folded(Form{Op: Quo, Num: b.Num, Kids: []Form{a}})
		if k == tree.Div {
			return quotient
		}
		// What remains is a without the multiple of the divisor.
		b = times(b.Num, quotient)
		fallthrough
	case tree.Sub:
		b = times(whole.Of(-1), b)
	}
	return folded(of(Add, a, b))
}

// product returns the product of a and b: a Mul only if neither is a number.
func product(a, b Form) Form {
	switch {
	case a.Op == Num:
		return times(a.Num, b)
	case b.Op == Num:
		return times(b.Num, a)
	}
	return of(Mul, a, b)
}

// times returns n times f.
func times(n whole.Int, f Form) Form {
	return folded(scaled(n, f))
}

// folded returns an Add, Scale or Quo, or the number that it is if its Kids are numbers.
// So whatever consists only of these is a number, and a product with it needs no Mul.
func folded(f Form) Form {
	for _, kid := range f.Kids {
		if kid.Op != Num {
			return f
		}
	}
	return Form{Op: Num, Num: bindings(nil).number(f)}
}

// comparison returns the formula that an operator makes of two operands.
func comparison(k tree.Kind, a, b Form) Form {
	switch k {
	case tree.Eq:
		return Same(a, b)
	case tree.Ne:
		return No(Same(a, b))
	case tree.Lt:
		return Less(a, b)
	case tree.Gt:
		return Less(b, a)
	case tree.Le:
		return of(Le, a, b)
	}
	return of(Le, b, a)
}
