package machine

import (
	"litmus/tree"
	"litmus/whole"
)

// extra returns what an operation costs beside the 1 of every expression. A unary one has
// an empty b.
func extra(k tree.Kind, a, b datum) int {
	switch k {
	case tree.Mul:
		return limbs(a.num) * limbs(b.num)
	case tree.Neg, tree.Div, tree.Mod:
		return limbs(a.num)
	case tree.Add, tree.Sub, tree.Eq, tree.Ne, tree.Lt, tree.Le, tree.Gt, tree.Ge:
		return weight(a) + weight(b)
	case tree.Len:
		return length(a.list)
	}
	return 0
}

// operation returns what an operation makes of its operands. A unary one has an empty b.
func operation(k tree.Kind, a, b datum) datum {
	switch k {
	case tree.Neg, tree.Add, tree.Sub, tree.Mul, tree.Div, tree.Mod:
		return datum{num: arithmetic(k, a.num, b.num)}
	case tree.Len:
		return datum{num: whole.Of(length(a.list))}
	case tree.Cons:
		return datum{list: &cell{a.num, b.list}}
	case tree.Not:
		return datum{yes: !a.yes}
	case tree.Eq:
		return datum{yes: same(a, b)}
	case tree.Ne:
		return datum{yes: !same(a, b)}
	}
	return datum{yes: inOrder(k, whole.Cmp(a.num, b.num))}
}

// arithmetic returns the number that an operation makes of numbers.
func arithmetic(k tree.Kind, a, b whole.Int) whole.Int {
	switch k {
	case tree.Neg:
		return whole.Neg(a)
	case tree.Add:
		return whole.Add(a, b)
	case tree.Sub:
		return whole.Sub(a, b)
	case tree.Mul:
		return whole.Mul(a, b)
	}
	quotient, remainder, _ := whole.Div(a, b)
	if k == tree.Mod {
		return remainder
	}
	return quotient
}

// inOrder reports whether a comparison holds of numbers that compare so: -1, 0 or 1.
func inOrder(k tree.Kind, order int) bool {
	switch k {
	case tree.Lt:
		return order < 0
	case tree.Le:
		return order <= 0
	case tree.Gt:
		return order > 0
	}
	return order >= 0
}
