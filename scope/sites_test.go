package scope_test

// P7.1: Sites.

import (
	"testing"

	"litmus/scope"
	"litmus/tree"
)

// places returns the positions of all, as text.
func places(all []tree.Expr) string {
	s := ""
	for _, e := range all {
		s += place(e.Line, e.Col) + " "
	}
	return s
}

func TestSites(t *testing.T) {
	for s, want := range map[string]string{
		"":                    "",
		"fun main(): int = 1": "",
		"fun main(x: int): int = assert x > 0; x":                                                                 "1:25 ",
		"fun main(x: int): int = (assert x > 0; x) + (assert x > 1; 1)\nfun g(): int = assert true; 1":            "1:26 1:46 2:16 ",
		"fun f(): int = assert assert true; true; assert (assert false; true); 1":                                 "1:16 1:23 1:42 1:50 ",
		"fun f(): int = -\n(assert true;\n assert true; 1)\n + (assert true; 1)":                                  "2:2 3:2 4:5 ",
		"fun f(): int = let x = assert b; 1 in if assert b; c then assert b; 1 else g(1, assert b; 1)":            "1:24 1:42 1:59 1:81 ",
		"fun f(): int = match assert b; l with [] -> assert b; 1 | h :: t -> assert b; 1":                         "1:22 1:45 1:69 ",
		"fun f(): int = not -len hd tl (assert b; l)":                                                             "1:32 ",
		"fun f(x: int{assert true; true}): int{assert true; true} = 1 qualif Q(v: int): assert true; true":        "",
		"fun f(x: int{assert true; true}): int{assert true; true} = assert x; 1 qualif Q(v: int): assert true; 1": "1:60 ",
		"fun f(): int = 1 fun g(): int = assert true; 1 fun g(): int = assert true; 1":                            "1:33 1:63 ",
	} {
		p := program(t, s)
		sites := scope.Sites(p)
		is(t, s, places(sites), want)
		for _, e := range sites {
			is(t, s, e.Kind, tree.Assert)
		}
	}
}

// All of each Assert is returned.
func TestSitesAreWhole(t *testing.T) {
	p := program(t, "fun main(x: int): int = 1 + (assert x > 0; assert x > 1; x)")
	outer := p.Funs[0].Body.Kids[1]
	is(t, "Sites", scope.Sites(p), []tree.Expr{outer, outer.Kids[1]})
}

// at is an Assert at that position, and of that condition and rest.
func at(line, col int, kids ...tree.Expr) tree.Expr {
	return tree.Expr{Kind: tree.Assert, Kids: kids, Line: line, Col: col}
}

// What counts is the position, the line first, but not from function to function.
func TestSitesInOtherOrders(t *testing.T) {
	yes := tree.Expr{Kind: tree.True}
	fun := func(body tree.Expr) tree.Fun { return tree.Fun{Name: "f", Body: body} }
	for _, c := range []struct {
		funs []tree.Fun
		want string
	}{
		{[]tree.Fun{fun(at(2, 1, yes, at(1, 2, yes, yes)))}, "1:2 2:1 "},
		{[]tree.Fun{fun(at(1, 9, yes, at(1, 10, yes, at(1, 2, yes, yes))))}, "1:2 1:9 1:10 "},
		{[]tree.Fun{fun(at(3, 1, at(2, 2, yes, yes), at(1, 3, yes, yes)))}, "1:3 2:2 3:1 "},
		{[]tree.Fun{fun(at(9, 9, yes, yes)), fun(at(1, 1, yes, at(0, 5, yes, yes))), fun(at(5, 5, yes, yes))}, "9:9 0:5 1:1 5:5 "},
		{[]tree.Fun{fun(at(-1, 0, yes, at(-1, -2, yes, at(-3, 7, yes, yes))))}, "-3:7 -1:-2 -1:0 "},
	} {
		is(t, "Sites", places(scope.Sites(tree.Program{Funs: c.funs})), c.want)
	}
}

// Of random bodies, each Assert is there, once, and in order.
func TestSitesOfSamples(t *testing.T) {
	programs(t, 30, func(m *maker, p tree.Program) {
		var want []tree.Expr
		for _, f := range p.Funs {
			from := len(want)
			each(f.Body, func(e tree.Expr) {
				if e.Kind != tree.Assert {
					return
				}
				i := len(want)
				for i > from && (want[i-1].Line > e.Line || want[i-1].Line == e.Line && want[i-1].Col > e.Col) {
					i--
				}
				want = append(want[:i], append([]tree.Expr{e}, want[i:]...)...)
			})
		}
		got := scope.Sites(p)
		is(t, tree.Print(p), places(got), places(want))
		if len(got) > 0 {
			is(t, tree.Print(p), got, want)
		}
	})
}

// each calls f with e and all that is within it.
func each(e tree.Expr, f func(e tree.Expr)) {
	f(e)
	for _, kid := range e.Kids {
		each(kid, f)
	}
}
