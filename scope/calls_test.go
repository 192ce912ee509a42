package scope_test

// P0 and DOC.md's rules: each call ends, doesn't panic, doesn't modify its arguments, has
// the same result again, and gives out lists of its own.

import (
	"math"
	"slices"
	"strconv"
	"strings"
	"testing"

	"litmus/api"
	"litmus/nat"
	"litmus/scope"
	"litmus/tree"
	"litmus/whole"
)

// results returns what all calls return for p.
func results(p tree.Program) []any {
	main, ok := scope.Main(p)
	all := []any{found(scope.Check(p)), main, ok, scope.Sites(p)}
	for _, f := range p.Funs {
		b, err := scope.Base(f.Body, f.Params, p.Funs)
		all = append(all, b, found(err))
	}
	return all
}

// everywhere returns programs with e as a body and as each refinement.
func everywhere(e tree.Expr) []tree.Program {
	yes := tree.Expr{Kind: tree.True}
	v := tree.Param{Name: "v"}
	known := tree.Param{Name: "x", Known: true, Ref: e}
	result := tree.Param{Name: "v", Known: true, Ref: e}
	return []tree.Program{
		{Quals: []tree.Qual{{Name: "Q", Params: []tree.Param{v}, Body: e}}},
		{Funs: []tree.Fun{{Name: "main", Params: []tree.Param{known}, Result: v, Body: yes}}},
		{Funs: []tree.Fun{{Name: "main", Result: result, Body: yes}}},
		{Funs: []tree.Fun{{Name: "main", Result: v, Body: e}}},
	}
}

// What isn't valid has no promised result, but a call ends with one.
func TestInvalidExpressionsEnd(t *testing.T) {
	kinds := []tree.Kind{-1, -2, lastKind + 1, math.MinInt, math.MaxInt}
	for k := range lastKind + 1 {
		kinds = append(kinds, k)
	}
	numbers := []whole.Int{{}, {Neg: true}, {Neg: true, Abs: nat.Nat{3, 0, 0}}, {Abs: make(nat.Nat, 9)}}
	for _, k := range kinds {
		for _, n := range numbers {
			for kids := range 5 {
				e := tree.Expr{Kind: k, Num: n, Kids: make([]tree.Expr, kids), Line: math.MinInt, Col: math.MaxInt}
				for i := range e.Kids {
					e.Kids[i].Kind = k
				}
				inner := tree.Expr{Kind: tree.Div, Kids: []tree.Expr{{Kind: tree.Num}, e}}
				for _, p := range append(everywhere(e), everywhere(inner)...) {
					is(t, "the same results", results(p), results(p))
				}
			}
		}
	}
}

func TestOtherBasesEnd(t *testing.T) {
	for _, b := range []api.Base{-1, 3, math.MinInt, math.MaxInt} {
		x := tree.Param{Name: "x", Base: b}
		for _, s := range []string{"x", "x = x", "f(x)", "x + 1", "x :: x", "len x", "if x then x else x", "let y = x in y", "match x with [] -> x | h :: t -> h", "assert x; x"} {
			for _, p := range everywhere(expr(t, s)) {
				f := tree.Fun{Name: "f", Params: []tree.Param{x}, Result: tree.Param{Base: b}, Body: expr(t, s)}
				p.Funs = append([]tree.Fun{f}, p.Funs...)
				is(t, "the same results", results(p), results(p))
			}
		}
	}
}

// A tree may name anything anyhow.
func TestOtherNamesEnd(t *testing.T) {
	for _, name := range []string{"", "v", "main", "let", "\x00", "é", strings.Repeat("x", 1<<20)} {
		x := tree.Param{Name: name}
		body := tree.Expr{Kind: tree.Var, Name: name}
		p := tree.Program{
			Quals: []tree.Qual{{Name: name}, {Name: name, Params: []tree.Param{x, x}}},
			Funs:  []tree.Fun{{Name: name, Params: []tree.Param{x, {Name: name, Known: true, Ref: body}}, Body: body}, {Name: name}},
		}
		is(t, "the same results", results(p), results(p))
		b, err := scope.Base(body, []tree.Param{x}, nil)
		is(t, "Base", b, api.Int)
		is(t, "Base", found(err), none)
	}
}

// nested returns inner within as many levels.
func nested(levels int, inner tree.Expr, around func(i int, inner tree.Expr) tree.Expr) tree.Expr {
	for i := range levels {
		inner = around(i, inner)
	}
	return inner
}

// Nesting may have as many levels as DOC.md's limits allow.
func TestDeepExpressions(t *testing.T) {
	const levels = 1<<16 - 1
	x, yes := tree.Expr{Kind: tree.Var, Name: "x"}, tree.Expr{Kind: tree.True}
	check := func(e tree.Expr, want string) {
		t.Helper()
		b, err := scope.Base(e, []tree.Param{{Name: "x"}}, nil)
		is(t, "Base", letter(b), "i")
		is(t, "Base", found(err), want)
	}
	negs := func(inner tree.Expr) tree.Expr {
		return nested(levels, inner, func(i int, inner tree.Expr) tree.Expr {
			return tree.Expr{Kind: tree.Neg, Kids: []tree.Expr{inner}, Line: i, Col: 1}
		})
	}
	check(negs(x), none)
	check(negs(yes), fault(api.ErrType, 0, 1))
	lets := func(inner tree.Expr) tree.Expr {
		return nested(levels, inner, func(i int, inner tree.Expr) tree.Expr {
			return tree.Expr{Kind: tree.Let, Name: "x" + strconv.Itoa(i), Kids: []tree.Expr{x, inner}}
		})
	}
	check(lets(tree.Expr{Kind: tree.Var, Name: "x7"}), none)
	check(lets(tree.Expr{Kind: tree.Var, Name: "y", Line: 5}), fault(api.ErrName, 5, 0))
	asserts := nested(levels, x, func(i int, inner tree.Expr) tree.Expr {
		return at(i/1000, i%1000, yes, inner)
	})
	check(asserts, none)
	sites := scope.Sites(tree.Program{Funs: []tree.Fun{{Body: asserts}}})
	is(t, "the number of Sites", len(sites), levels)
	for i, e := range sites {
		if e.Line != i/1000 || e.Col != i%1000 {
			t.Fatalf("Site %d is at %s", i, place(e.Line, e.Col))
		}
	}
}

func TestWideExpressions(t *testing.T) {
	const args = 100000
	e := tree.Expr{Kind: tree.Call, Name: "f", Kids: make([]tree.Expr, args)}
	var scopes []tree.Param
	for i := range args {
		scopes = append(scopes, tree.Param{Name: "x" + strconv.Itoa(i)})
	}
	f := tree.Fun{Name: "f", Params: scopes, Result: tree.Param{Base: api.List}}
	b, err := scope.Base(e, scopes, []tree.Fun{f})
	is(t, "Base", b, api.List)
	is(t, "Base", found(err), none)
	f.Params = slices.Clone(scopes)
	f.Params[args-1].Base = api.Bool
	b, err = scope.Base(e, scopes, []tree.Fun{f})
	is(t, "Base", b, 0)
	is(t, "Base", found(err), fault(api.ErrType, 0, 0))
}

func TestManyFunctions(t *testing.T) {
	var p tree.Program
	for i := range 100000 {
		name := "f" + strconv.Itoa(i)
		p.Quals = append(p.Quals, tree.Qual{Name: name, Body: tree.Expr{Kind: tree.True}})
		p.Funs = append(p.Funs, tree.Fun{Name: name, Body: tree.Expr{Kind: tree.Call, Name: "main"}})
	}
	is(t, "Check", found(scope.Check(p)), fault(api.ErrNone, 1, 1))
	p.Funs = append(p.Funs, tree.Fun{Name: "main"})
	is(t, "Check", found(scope.Check(p)), none)
	p.Funs = append(p.Funs, tree.Fun{Name: "f99999", Line: 2, Col: 3})
	is(t, "Check", found(scope.Check(p)), fault(api.ErrName, 2, 3))
}

// clonedExpr returns e in memory of its own.
func clonedExpr(e tree.Expr) tree.Expr {
	e.Num.Abs = slices.Clone(e.Num.Abs)
	e.Kids = slices.Clone(e.Kids)
	for i := range e.Kids {
		e.Kids[i] = clonedExpr(e.Kids[i])
	}
	return e
}

// clonedParams returns the Params in memory of their own.
func clonedParams(all []tree.Param) []tree.Param {
	all = slices.Clone(all)
	for i := range all {
		all[i].Ref = clonedExpr(all[i].Ref)
	}
	return all
}

// cloned returns p in memory of its own.
func cloned(p tree.Program) tree.Program {
	p.Quals, p.Funs = slices.Clone(p.Quals), slices.Clone(p.Funs)
	for i, q := range p.Quals {
		p.Quals[i].Params, p.Quals[i].Body = clonedParams(q.Params), clonedExpr(q.Body)
	}
	for i, f := range p.Funs {
		p.Funs[i].Params, p.Funs[i].Body, p.Funs[i].Result.Ref = clonedParams(f.Params), clonedExpr(f.Body), clonedExpr(f.Result.Ref)
	}
	return p
}

func TestArgumentsStay(t *testing.T) {
	programs(t, 50, func(m *maker, p tree.Program) {
		before := cloned(p)
		first := results(p)
		is(t, "the argument", p, before)
		is(t, "the same results", results(before), first)
	})
}

// What is behind the end of a slice isn't touched either.
func TestCapacitiesStay(t *testing.T) {
	scopes := make([]tree.Param, 1, 9)
	scopes[0] = tree.Param{Name: "x", Base: api.List}
	_, err := scope.Base(expr(t, "match x with [] -> 0 | h :: t -> let y = h in y"), scopes, make([]tree.Fun, 0, 9))
	is(t, "Base", found(err), none)
	p := program(t, "fun main(l: list{v = v}): list = match l with [] -> l | h :: t -> let y = h in t")
	p.Funs[0].Params = append(make([]tree.Param, 0, 9), p.Funs[0].Params...)
	is(t, "Check", found(scope.Check(p)), none)
	is(t, "behind the end", append(scopes[1:9], p.Funs[0].Params[1:9]...), make([]tree.Param, 16))
}

// A list of Sites may be changed: no later one shows it.
func TestSitesAreNewLists(t *testing.T) {
	p := program(t, "fun main(x: int): int = assert x > 0; assert x > 1; x")
	first := scope.Sites(p)
	want := slices.Clone(first)
	clear(first)
	is(t, "Sites", scope.Sites(p), want)
	is(t, "Sites", p, program(t, "fun main(x: int): int = assert x > 0; assert x > 1; x"))
}
