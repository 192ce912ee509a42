package tree_test

// P0 and DOC.md's rules: each call ends, doesn't panic, doesn't modify its arguments,
// has the same result again, and gives out memory of its own.

import (
	"math"
	"strings"
	"testing"
	"unsafe"

	"litmus/api"
	"litmus/nat"
	"litmus/tree"
	"litmus/whole"
)

// results returns what all calls return for e.
func results(e tree.Expr) []any {
	p := tree.Program{
		Quals: []tree.Qual{{Name: "q", Params: []tree.Param{{Name: "v", Known: true, Ref: e}}, Body: e}},
		Funs:  []tree.Fun{{Name: "f", Result: tree.Param{Known: true, Ref: e}, Body: e}},
	}
	return []any{
		tree.Arity(e.Kind), tree.Right(e), tree.Depth(e), tree.Size(e), tree.Text(e), tree.Same(e, e),
		tree.Print(p), tree.SamePrograms(p, p),
	}
}

// What isn't valid has no promised result, but a call ends with one.
func TestInvalidExpressionsEnd(t *testing.T) {
	kinds := []tree.Kind{-1, -2, lastKind + 1, math.MinInt, math.MaxInt}
	for k := range lastKind + 1 {
		kinds = append(kinds, k)
	}
	numbers := []whole.Int{{}, {Neg: true}, {Neg: true, Abs: nat.Nat{3, 0, 0}}, {Abs: make(nat.Nat, 9)}}
	for _, k := range kinds {
		for _, n := range numbers {
			for kids := range 5 {
				e := tree.Expr{Kind: k, Num: n, Kids: make([]tree.Expr, kids), Line: math.MinInt, Col: math.MaxInt}
				is(t, kindName(k), results(of(tree.Neg, e)), results(of(tree.Neg, e)))
				is(t, kindName(k), results(e), results(e))
			}
		}
	}
}

func TestOtherBasesEnd(t *testing.T) {
	for _, b := range []api.Base{-1, 3, math.MinInt, math.MaxInt} {
		p := tree.Program{Funs: []tree.Fun{{Params: []tree.Param{{Base: b}}, Result: tree.Param{Base: b}}}}
		is(t, "Print", tree.Print(p), tree.Print(p))
		is(t, "SamePrograms", tree.SamePrograms(p, p), true)
	}
}

// Nesting may have as many levels as DOC.md's limits allow.
func TestDeepExpressions(t *testing.T) {
	const levels = 1 << 16
	e, want := name("x"), "x"
	for range levels - 1 {
		e = of(tree.Neg, e)
	}
	want = strings.Repeat("-", levels-1) + want
	is(t, "Right", tree.Right(e), true)
	is(t, "Depth", tree.Depth(e), levels)
	is(t, "Size", tree.Size(e), levels)
	is(t, "Same", tree.Same(e, e), true)
	is(t, "Text", tree.Text(e) == want, true)
}

func TestWideExpressions(t *testing.T) {
	const args = 100000
	e := named(tree.Call, "f", make([]tree.Expr, args)...)
	is(t, "Right", tree.Right(e), true)
	is(t, "Depth", tree.Depth(e), 2)
	is(t, "Size", tree.Size(e), args+1)
	is(t, "Same", tree.Same(e, e), true)
	is(t, "Text", tree.Text(e) == "f("+strings.Repeat("0, ", args-1)+"0)", true)
}

func TestArgumentsStay(t *testing.T) {
	samples(t, func(m maker, e tree.Expr) {
		before := cloned(e)
		is(t, "the same results", results(e), results(e))
		is(t, "the argument", e, before)
	})
	programs(t, func(m maker, p tree.Program) {
		before := clonedProgram(p)
		is(t, "the same text", tree.Print(p), tree.Print(p))
		is(t, "the same comparison", tree.SamePrograms(p, before), true)
		is(t, "the argument", p, before)
	})
}

// A text that is kept doesn't keep the names of its tree.
func TestTextsAreCopies(t *testing.T) {
	s := strings.Clone("a_name")
	from := uintptr(unsafe.Pointer(unsafe.StringData(s)))
	for _, text := range []string{tree.Text(name(s)), tree.Text(named(tree.Call, s))} {
		if p := uintptr(unsafe.Pointer(unsafe.StringData(text))); p >= from && p < from+uintptr(len(s)) {
			t.Errorf("%q shares memory with a name", text)
		}
	}
}
