package tree_test

// P5.1: Text and Print.

import (
	"strings"
	"testing"

	"litmus/api"
	"litmus/tree"
	"litmus/whole"
)

func TestTextOfEachKind(t *testing.T) {
	a, b, c := name("a"), name("b"), name("c")
	for _, x := range []struct {
		e    tree.Expr
		want string
	}{
		{num(0), "0"},
		{num(42), "42"},
		{of(tree.True), "true"},
		{of(tree.False), "false"},
		{name("long_name1"), "long_name1"},
		{name("v"), "v"},
		{of(tree.Nil), "[]"},
		{of(tree.Neg, a), "-a"},
		{of(tree.Not, a), "not a"},
		{of(tree.Len, a), "len a"},
		{of(tree.Hd, a), "hd a"},
		{of(tree.Tl, a), "tl a"},
		{of(tree.Add, a, b), "a + b"},
		{of(tree.Sub, a, b), "a - b"},
		{of(tree.Mul, a, b), "a * b"},
		{of(tree.Div, a, b), "a / b"},
		{of(tree.Mod, a, b), "a % b"},
		{of(tree.Eq, a, b), "a = b"},
		{of(tree.Ne, a, b), "a <> b"},
		{of(tree.Lt, a, b), "a < b"},
		{of(tree.Le, a, b), "a <= b"},
		{of(tree.Gt, a, b), "a > b"},
		{of(tree.Ge, a, b), "a >= b"},
		{of(tree.And, a, b), "a && b"},
		{of(tree.Or, a, b), "a || b"},
		{of(tree.Cons, a, b), "a :: b"},
		{named(tree.Call, "f"), "f()"},
		{named(tree.Call, "f", a), "f(a)"},
		{named(tree.Call, "f", a, b, c, a, b, c, a), "f(a, b, c, a, b, c, a)"},
		{of(tree.If, a, b, c), "if a then b else c"},
		{named(tree.Let, "x", a, b), "let x = a in b"},
		{tree.Expr{Kind: tree.Match, Name: "h", Other: "t", Kids: []tree.Expr{a, b, c}}, "match a with [] -> b | h :: t -> c"},
		{of(tree.Assert, a, b), "assert a; b"},
	} {
		prints(t, x.e, x.want)
	}
	big, _ := whole.Parse("340282366920938463463374607431768211456")
	prints(t, tree.Expr{Kind: tree.Num, Num: big}, "340282366920938463463374607431768211456")
}

func TestTextOfNestedParts(t *testing.T) {
	a, b, c := name("a"), name("b"), name("c")
	for _, x := range []struct {
		e    tree.Expr
		want string
	}{
		{of(tree.Sub, num(1), of(tree.Add, num(2), num(3))), "1 - (2 + 3)"},
		{of(tree.Sub, of(tree.Add, num(1), num(2)), num(3)), "1 + 2 - 3"},
		{of(tree.Neg, of(tree.Neg, a)), "--a"},
		{of(tree.Sub, a, of(tree.Neg, b)), "a - -b"},
		{of(tree.Neg, of(tree.Sub, a, b)), "-(a - b)"},
		{of(tree.Not, of(tree.Hd, of(tree.Tl, a))), "not hd tl a"},
		{of(tree.Eq, of(tree.Eq, a, b), c), "(a = b) = c"},
		{of(tree.Eq, a, of(tree.Eq, b, c)), "a = (b = c)"},
		{of(tree.Cons, a, of(tree.Cons, b, c)), "a :: b :: c"},
		{of(tree.Cons, of(tree.Cons, a, b), c), "(a :: b) :: c"},
		{of(tree.Eq, of(tree.Cons, a, b), of(tree.Cons, b, c)), "a :: b = b :: c"},
		{of(tree.Or, of(tree.Or, a, b), c), "a || b || c"},
		{of(tree.Or, a, of(tree.Or, b, c)), "a || (b || c)"},
		{of(tree.And, a, of(tree.And, b, c)), "a && (b && c)"},
		{of(tree.Or, a, of(tree.And, b, c)), "a || b && c"},
		{of(tree.And, a, of(tree.Or, b, c)), "a && (b || c)"},
		{of(tree.Mul, a, of(tree.Div, b, c)), "a * (b / c)"},
		{of(tree.Mod, of(tree.Mul, a, b), c), "a * b % c"},
		{of(tree.Add, a, of(tree.If, a, b, c)), "a + (if a then b else c)"},
		{of(tree.If, of(tree.If, a, b, c), of(tree.Assert, a, b), named(tree.Let, "x", a, b)), "if if a then b else c then assert a; b else let x = a in b"},
		{of(tree.Assert, of(tree.Assert, a, b), of(tree.Assert, b, c)), "assert assert a; b; assert b; c"},
		{named(tree.Call, "f", of(tree.Assert, a, b), of(tree.Or, a, b)), "f(assert a; b, a || b)"},
		{of(tree.Neg, named(tree.Call, "f")), "-f()"},
	} {
		prints(t, x.e, x.want)
	}
}

// Each Kind within each other one, at each place.
func TestTextOfPairs(t *testing.T) {
	sample := func(k tree.Kind) tree.Expr {
		e := tree.Expr{Kind: k, Name: "x", Other: "y", Num: whole.Of(7)}
		n := forms[k].arity
		if k == tree.Call {
			n = 2
		}
		for i := range n {
			e.Kids = append(e.Kids, name(string(rune('a'+i))))
		}
		return e
	}
	for outer := range lastKind + 1 {
		for inner := range lastKind + 1 {
			for i := range sample(outer).Kids {
				e := sample(outer)
				e.Kids[i] = sample(inner)
				prints(t, e, expected(e, 0))
			}
		}
	}
}

func TestTextOfSamples(t *testing.T) {
	samples(t, func(m maker, e tree.Expr) { prints(t, e, expected(e, 0)) })
}

// What a Kind doesn't use doesn't show.
func TestTextIgnoresUnusedFields(t *testing.T) {
	samples(t, func(m maker, e tree.Expr) {
		want := tree.Text(e)
		scribble(&e)
		prints(t, e, want)
	})
}

func TestPrint(t *testing.T) {
	x, small := name("x"), of(tree.Lt, name("v"), num(5))
	is(t, "Print", tree.Print(tree.Program{}), "")
	p := tree.Program{
		Quals: []tree.Qual{
			{Name: "Small", Params: []tree.Param{{Name: "v", Base: api.Int}}, Body: small},
			{Name: "Q", Params: []tree.Param{{Name: "v", Base: api.List}, {Name: "b", Base: api.Bool, Known: true, Ref: of(tree.Or, x, x)}, {Name: "c"}}, Body: of(tree.Assert, x, x)},
		},
		Funs: []tree.Fun{
			{Name: "none", Result: tree.Param{Name: "v"}, Body: num(1)},
			{Name: "one", Params: []tree.Param{{Name: "x", Known: true, Ref: small}}, Result: tree.Param{Name: "v", Base: api.List, Known: true, Ref: of(tree.True)}, Body: of(tree.Nil)},
			{Name: "main", Params: []tree.Param{{Name: "x"}, {Name: "y", Base: api.Bool}}, Result: tree.Param{Name: "v", Base: api.Bool}, Body: named(tree.Let, "z", x, name("y"))},
		},
	}
	is(t, "Print", tree.Print(p), strings.Join([]string{
		"qualif Small(v: int): v < 5",
		"qualif Q(v: list, b: bool{x || x}, c: int): assert x; x",
		"fun none(): int = 1",
		"fun one(x: int{v < 5}): list{true} = []",
		"fun main(x: int, y: bool): bool = let z = x in y",
		"",
	}, "\n"))
}

// Quals come before Funs, and a Ref that isn't Known, a result's name and positions
// don't show.
func TestPrintOfSamples(t *testing.T) {
	programs(t, func(m maker, p tree.Program) {
		want := expectedProgram(p)
		is(t, "Print", tree.Print(p), want)
		unseen(m, &p)
		is(t, "Print", tree.Print(p), want)
	})
}
