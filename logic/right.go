package logic

import (
	"slices"

	"litmus/api"
	"litmus/whole"
)

// Right reports whether f is valid: each part has an existing Op, Kids of the sorts that
// this requires, and a Num in canonical form, which is at least 1 for a Quo.
func Right(f Form) bool {
	if !fits(f) || !isCanonical(f.Num) {
		return false
	}
	for _, kid := range f.Kids {
		if !Right(kid) {
			return false
		}
	}
	return true
}

// fits reports whether f, regardless of what is within its Kids, is as its Op requires.
func fits(f Form) bool {
	switch f.Op {
	case Num, IVar, LVar, Nil, True, False, BVar:
		return are(f.Kids)
	case Quo:
		if whole.Sign(f.Num) < 1 {
			return false
		}
		fallthrough
	case Scale:
		return are(f.Kids, api.Int)
	case Add, Mul, Le:
		return are(f.Kids, api.Int, api.Int)
	case Len, Hd, Tl:
		return are(f.Kids, api.List)
	case Cons:
		return are(f.Kids, api.Int, api.List)
	case Eq:
		return are(f.Kids, api.Int, api.Int) || are(f.Kids, api.List, api.List)
	case Not:
		return are(f.Kids, api.Bool)
	case And, Or:
		return areAll(f.Kids, api.Bool)
	case Iff:
		return are(f.Kids, api.Bool, api.Bool)
	}
	return false
}

// are reports whether l has as many forms as there are sorts, and these sorts.
func are(l []Form, sorts ...api.Base) bool {
	return slices.EqualFunc(l, sorts, func(f Form, b api.Base) bool { return Sort(f) == b })
}

// areAll reports whether all forms of l have that sort.
func areAll(l []Form, b api.Base) bool {
	return !slices.ContainsFunc(l, func(f Form) bool { return Sort(f) != b })
}

// isCanonical reports whether n is in canonical form.
func isCanonical(n whole.Int) bool {
	if len(n.Abs) == 0 {
		return !n.Neg
	}
	return n.Abs[len(n.Abs)-1] != 0
}
