package tree_test

// P5.1: Arity, Right, Depth and Size.

import (
	"math"
	"testing"

	"litmus/nat"
	"litmus/tree"
	"litmus/whole"
)

// The kinds are in the chapter's order, from 0.
func TestKinds(t *testing.T) {
	for i, k := range []tree.Kind{
		tree.Num, tree.True, tree.False, tree.Var, tree.Nil, tree.Neg, tree.Not, tree.Len, tree.Hd, tree.Tl,
		tree.Add, tree.Sub, tree.Mul, tree.Div, tree.Mod, tree.Eq, tree.Ne, tree.Lt, tree.Le, tree.Gt, tree.Ge,
		tree.And, tree.Or, tree.Cons, tree.Call, tree.If, tree.Let, tree.Match, tree.Assert,
	} {
		is(t, "kind", k, tree.Kind(i))
	}
}

func TestArity(t *testing.T) {
	for k := range lastKind + 1 {
		if k != tree.Call {
			is(t, kindName(k), tree.Arity(k), forms[k].arity)
		}
	}
	is(t, "Call", tree.Arity(tree.Call), -1)
	for _, k := range []tree.Kind{-1, -2, lastKind + 1, lastKind + 2, 1000, math.MinInt, math.MaxInt} {
		is(t, kindName(k), tree.Arity(k), -2)
	}
}

func TestRightByNumberOfKids(t *testing.T) {
	for k := range lastKind + 1 {
		for n := range 10 {
			e := of(k, make([]tree.Expr, n)...)
			is(t, kindName(k), tree.Right(e), k == tree.Call || n == forms[k].arity)
		}
	}
}

func TestRightByKind(t *testing.T) {
	for _, k := range []tree.Kind{-1, -2, lastKind + 1, 1000, math.MinInt, math.MaxInt} {
		for n := range 4 {
			is(t, kindName(k), tree.Right(of(k, make([]tree.Expr, n)...)), false)
		}
	}
}

func TestRightByNumber(t *testing.T) {
	for _, c := range []struct {
		n    whole.Int
		want bool
	}{
		{whole.Int{}, true},
		{whole.Int{Abs: nat.Nat{}}, true},
		{whole.Int{Abs: nat.Nat{5}}, true},
		{whole.Int{Abs: nat.Nat{0, 1}}, true},
		{whole.Int{Abs: nat.Nat{0, 0, 1 << 31}}, true},
		{whole.Int{Neg: true}, false},
		{whole.Int{Neg: true, Abs: nat.Nat{}}, false},
		{whole.Int{Neg: true, Abs: nat.Nat{5}}, false},
		{whole.Int{Neg: true, Abs: nat.Nat{0}}, false},
		{whole.Int{Abs: nat.Nat{0}}, false},
		{whole.Int{Abs: nat.Nat{0, 0}}, false},
		{whole.Int{Abs: nat.Nat{5, 0}}, false},
	} {
		e := tree.Expr{Kind: tree.Num, Num: c.n}
		is(t, "a number", tree.Right(e), c.want)
		is(t, "a number within", tree.Right(of(tree.Add, num(1), of(tree.Neg, e))), c.want)
		for k := range lastKind + 1 {
			if k != tree.Num {
				kids := make([]tree.Expr, forms[k].arity)
				is(t, kindName(k), tree.Right(tree.Expr{Kind: k, Num: c.n, Kids: kids}), true)
			}
		}
	}
}

// Each part counts, wherever it is.
func TestRightOfSamples(t *testing.T) {
	wrong := []tree.Expr{
		of(-1), of(lastKind + 1), of(tree.Neg), of(tree.Num, num(1)), of(tree.If, num(1), num(2)),
		{Kind: tree.Num, Num: whole.Of(-1)}, {Kind: tree.Num, Num: whole.Int{Abs: nat.Nat{1, 0}}},
	}
	samples(t, func(m maker, e tree.Expr) {
		is(t, "Right", tree.Right(e), true)
		all := parts(&e)
		*all[m.Intn(len(all))] = wrong[m.Intn(len(wrong))]
		is(t, "Right of a wrong part", tree.Right(e), false)
	})
}

// Names and positions don't matter.
func TestRightOfAnyNames(t *testing.T) {
	for _, s := range []string{"", "let", "1", "\x00", "é"} {
		e := tree.Expr{Kind: tree.Match, Name: s, Other: s, Kids: []tree.Expr{name(s), num(0), named(tree.Call, s)}, Line: -1, Col: -1}
		is(t, "Right", tree.Right(e), true)
	}
}

func TestDepthAndSize(t *testing.T) {
	x := name("x")
	for _, c := range []struct {
		e           tree.Expr
		depth, size int
	}{
		{num(7), 1, 1},
		{named(tree.Call, "f"), 1, 1},
		{of(tree.Neg, x), 2, 2},
		{of(tree.Add, x, x), 2, 3},
		{of(tree.Add, x, of(tree.Add, x, x)), 3, 5},
		{of(tree.Add, of(tree.Add, x, x), x), 3, 5},
		{of(tree.If, x, of(tree.Not, of(tree.Not, x)), x), 4, 6},
		{named(tree.Call, "f", x, of(tree.Neg, x), x, x), 3, 6},
	} {
		is(t, "Depth", tree.Depth(c.e), c.depth)
		is(t, "Size", tree.Size(c.e), c.size)
	}
}

func TestDepthAndSizeOfSamples(t *testing.T) {
	var depth func(e tree.Expr) int
	depth = func(e tree.Expr) int {
		d := 1
		for _, kid := range e.Kids {
			d = max(d, 1+depth(kid))
		}
		return d
	}
	samples(t, func(m maker, e tree.Expr) {
		is(t, "Depth", tree.Depth(e), depth(e))
		is(t, "Size", tree.Size(e), len(parts(&e)))
	})
}
