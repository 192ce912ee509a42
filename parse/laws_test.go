package parse_test

// P6.2: what is printed is parsed as the same program.

import (
	"testing"

	"litmus/tree"
	"litmus/whole"
)

// printed fails unless the text of e is parsed as the same expression.
func printed(t *testing.T, e tree.Expr) {
	t.Helper()
	text := tree.Text(e)
	if got := expr(t, text); !tree.Same(got, e) {
		t.Errorf("%q: got %s, want %s", text, shape(got), shape(e))
	}
}

// Each Kind within each other one, at each place.
func TestPrintedPairs(t *testing.T) {
	sample := func(k tree.Kind) tree.Expr {
		e := tree.Expr{Kind: k}
		switch k {
		case tree.Num:
			e.Num = whole.Of(7)
		case tree.Match:
			e.Other = "t"
			fallthrough
		case tree.Var, tree.Call, tree.Let:
			e.Name = "x"
		}
		n := arity(k)
		if k == tree.Call {
			n = 2
		}
		for i := range n {
			e.Kids = append(e.Kids, tree.Expr{Kind: tree.Var, Name: string(rune('a' + i))})
		}
		return e
	}
	for outer := range lastKind + 1 {
		for inner := range lastKind + 1 {
			for i := range sample(outer).Kids {
				e := sample(outer)
				e.Kids[i] = sample(inner)
				printed(t, e)
			}
		}
	}
}

func TestPrintedSamples(t *testing.T) {
	samples(t, func(m maker, e tree.Expr) { printed(t, e) })
	programs(t, func(m maker, p tree.Program) {
		text := tree.Print(p)
		got := program(t, text)
		if !tree.SamePrograms(got, p) {
			t.Errorf("%q: got %s, want %s", text, dumpProgram(got), dumpProgram(p))
		}
		is(t, "printed again", tree.Print(got), text)
	})
}

// A program that is printed may be as large as the limits allow.
func TestPrintedLimits(t *testing.T) {
	for _, s := range largest() {
		p := program(t, s)
		text := tree.Print(p)
		if !tree.SamePrograms(program(t, text), p) {
			t.Errorf("%q isn't the same program when printed", s)
		}
	}
}
