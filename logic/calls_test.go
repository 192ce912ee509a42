package logic_test

// P0 and DOC.md's rules: each call ends, doesn't panic, doesn't modify its arguments, and
// has the same result again.

import (
	"math"
	"slices"
	"strings"
	"testing"

	"litmus/api"
	"litmus/logic"
	"litmus/nat"
	"litmus/tree"
	"litmus/value"
	"litmus/whole"
)

// results returns what all calls return for f, where names are bound as env says.
func results(f logic.Form, env []logic.Bind) []any {
	return []any{
		logic.Sort(f), logic.Right(f), logic.Eval(f, env), logic.Holds(f, env), logic.Both(f, f), logic.Both(f), logic.Either(f, f), logic.Either(f), logic.No(f), logic.No(logic.No(f)), logic.Same(f, f), logic.Less(f, f), logic.Sub(f, f),
		logic.Put(f, []string{"x", "l", "b"}, []logic.Form{f, f, f}), logic.Put(f, nil, nil), logic.Text(f), logic.Size(f),
	}
}

// oddNums are numbers in canonical form, and others.
func oddNums() []whole.Int {
	return []whole.Int{{}, whole.Of(1), whole.Of(-1), {Neg: true}, {Abs: make(nat.Nat, 9)}, {Neg: true, Abs: nat.Nat{3, 0, 0}}}
}

// What isn't valid has no promised results, but calls end with some.
func TestInvalidFormsEnd(t *testing.T) {
	ops := []logic.Op{-1, -2, logic.Iff + 1, math.MinInt, math.MaxInt}
	for _, r := range rules {
		ops = append(ops, r.op)
	}
	env := binds(t, "x=5;x=true;l=[1];b=true")
	for _, op := range ops {
		for _, inner := range ops {
			for kids := range 4 {
				for _, n := range oddNums() {
					f := logic.Form{Op: op, Num: n, Name: "x"}
					for i := range kids {
						f.Kids = append(f.Kids, logic.Form{Op: inner, Num: n, Name: "l", Kids: make([]logic.Form, (kids+i)%3)})
					}
					is(t, logic.Text(f), results(f, env), results(f, env))
				}
			}
		}
	}
}

func TestNamesAndFormsOfOtherNumberEnd(t *testing.T) {
	f := of(logic.Add, x, of(logic.Add, y, iv("z")))
	for _, c := range []struct {
		names []string
		by    []logic.Form
	}{{nil, []logic.Form{x}}, {[]string{"x"}, nil}, {[]string{"x", "y", "z"}, []logic.Form{num(1)}}, {[]string{"w", "z", "x"}, []logic.Form{num(1), num(2)}}, {[]string{"x"}, []logic.Form{b}}, {[]string{"x"}, []logic.Form{{Op: -1}}}} {
		is(t, "Put", logic.Put(f, c.names, c.by), logic.Put(f, c.names, c.by))
	}
}

func TestOtherBasesEnd(t *testing.T) {
	for _, base := range []api.Base{-1, 3, math.MinInt, math.MaxInt} {
		f := logic.Var("x", base)
		is(t, "Var", slices.Contains([]logic.Op{logic.IVar, logic.BVar, logic.LVar}, f.Op) && f.Name == "x", true)
		is(t, "Var", logic.Var("x", base), f)
		e := tree.Expr{Kind: tree.Neg, Kids: []tree.Expr{{Kind: tree.Var, Name: "x"}}}
		for _, e := range []tree.Expr{e, e.Kids[0]} {
			g, ok := logic.From(e, []tree.Param{{Name: "x", Base: base}})
			again, _ := logic.From(e, []tree.Param{{Name: "x", Base: base}})
			is(t, "From", g, again)
			is(t, "Right", !ok || logic.Right(g), true)
		}
	}
}

func TestInvalidExpressionsEnd(t *testing.T) {
	kinds := []tree.Kind{-1, -2, tree.Assert + 1, math.MinInt, math.MaxInt}
	for k := range tree.Assert + 1 {
		kinds = append(kinds, k)
	}
	for _, k := range kinds {
		for _, inner := range kinds {
			for kids := range 5 {
				for _, n := range oddNums() {
					e := tree.Expr{Kind: k, Num: n, Name: "x"}
					for i := range kids {
						e.Kids = append(e.Kids, tree.Expr{Kind: inner, Num: n, Name: "l", Kids: make([]tree.Expr, (kids+i)%4)})
					}
					f, ok := logic.From(e, params())
					again, _ := logic.From(e, params())
					is(t, "From", f, again)
					if !tree.Right(e) {
						is(t, "From", ok, false)
						isForm(t, "From", f, logic.Form{})
					}
				}
			}
		}
	}
}

// nested returns inner within as many levels.
func nested[T any](levels int, inner T, around func(inner T) T) T {
	for range levels {
		inner = around(inner)
	}
	return inner
}

// levels is how many DOC.md's limits allow.
const levels = 1<<16 - 1

// Nesting may have as many levels as DOC.md's limits allow.
func TestDeepForms(t *testing.T) {
	for _, c := range []struct {
		inner  logic.Form
		around func(f logic.Form) logic.Form
		parts  int // that each level adds
		want   string
	}{
		{b, func(f logic.Form) logic.Form { return of(logic.Not, f) }, 1, "false"},
		{b, func(f logic.Form) logic.Form { return of(logic.And, b, f) }, 2, "true"},
		{b, func(f logic.Form) logic.Form { return of(logic.Or, f) }, 1, "true"},
		{b, func(f logic.Form) logic.Form { return of(logic.Iff, f, b) }, 2, "true"},
		{x, func(f logic.Form) logic.Form { return of(logic.Add, f, x) }, 2, "131072"},
		{x, func(f logic.Form) logic.Form { return of(logic.Add, num(1), f) }, 2, "65537"},
		{x, func(f logic.Form) logic.Form { return scale(-1, f) }, 1, "-2"},
		{x, func(f logic.Form) logic.Form { return quo(f, 1) }, 1, "2"},
		{l, func(f logic.Form) logic.Form { return of(logic.Tl, f) }, 1, "[]"},
		{l, func(f logic.Form) logic.Form { return of(logic.Cons, x, f) }, 2, "[" + strings.Repeat("2, ", levels) + "8, 9]"},
	} {
		f := nested(levels, c.inner, c.around)
		is(t, "Right", logic.Right(f), true)
		is(t, "Size", logic.Size(f), 1+c.parts*levels)
		got := value.Text(logic.Eval(f, binds(t, "x=2;b=true;l=[8, 9]")))
		if got != c.want {
			t.Errorf("Eval of many %d: got %.40s, want %.40s", f.Op, got, c.want)
		}
		text := logic.Text(f)
		is(t, "Text", len(text) > levels && logic.Text(logic.Put(f, []string{"y"}, []logic.Form{x})) == text, true)
		is(t, "Put", same(logic.Put(f, []string{"x", "b", "l"}, []logic.Form{x, b, l}), f), true)
		is(t, "Sort", logic.Sort(logic.No(logic.Same(f, f))), api.Bool)
	}
}

func TestDeepExpressions(t *testing.T) {
	name := func(s string) tree.Expr { return tree.Expr{Kind: tree.Var, Name: s} }
	two := tree.Expr{Kind: tree.Num, Num: whole.Of(2)}
	with := func(k tree.Kind, other tree.Expr, left bool) func(e tree.Expr) tree.Expr {
		return func(e tree.Expr) tree.Expr {
			if left {
				return tree.Expr{Kind: k, Kids: []tree.Expr{e, other}}
			}
			return tree.Expr{Kind: k, Kids: []tree.Expr{other, e}}
		}
	}
	alone := func(k tree.Kind) func(e tree.Expr) tree.Expr {
		return func(e tree.Expr) tree.Expr { return tree.Expr{Kind: k, Kids: []tree.Expr{e}} }
	}
	for _, c := range []struct {
		inner  tree.Expr
		around func(e tree.Expr) tree.Expr
		want   string
	}{
		{name("x"), alone(tree.Neg), "-1"}, {name("b"), alone(tree.Not), "false"}, {name("l"), alone(tree.Tl), "[]"},
		{name("x"), with(tree.Add, name("x"), true), "65536"}, {name("x"), with(tree.Sub, name("x"), false), "0"}, {name("x"), with(tree.Mul, name("x"), true), "1"}, {two, with(tree.Div, two, true), "0"}, {name("x"), with(tree.Div, two, true), "0"},
		{two, with(tree.Mod, two, true), "0"}, {two, with(tree.Add, two, false), "131072"},
		{name("b"), with(tree.And, name("b"), true), "true"}, {name("b"), with(tree.Or, name("b"), false), "true"}, {name("b"), with(tree.Eq, name("b"), false), "true"},
		{tree.Expr{Kind: tree.Nil}, with(tree.Cons, name("x"), false), "[1" + strings.Repeat(", 1", levels-1) + "]"},
	} {
		e := nested(levels, c.inner, c.around)
		f, ok := logic.From(e, params())
		got := value.Text(logic.Eval(f, binds(t, "x=1;b=true")))
		if !ok || got != c.want {
			t.Errorf("many %d: got %.40s, %v, want %.40s", e.Kind, got, ok, c.want)
		}
	}
}

// A remainder's form has that of the operand twice, but it is made once.
func TestNestedRemainders(t *testing.T) {
	two := tree.Expr{Kind: tree.Num, Num: whole.Of(2)}
	e := nested(levels, tree.Expr{Kind: tree.Var, Name: "x"}, func(e tree.Expr) tree.Expr {
		return tree.Expr{Kind: tree.Mod, Kids: []tree.Expr{e, two}}
	})
	f, ok := logic.From(e, params())
	is(t, "From", ok, true)
	is(t, "Sort", logic.Sort(f), api.Int)
}

func TestWideForms(t *testing.T) {
	const many = 200000
	all := slices.Repeat([]logic.Form{yes, b, no}, many)
	is(t, "Both", logic.Both(all...).Op, logic.False)
	is(t, "Either", logic.Either(all...).Op, logic.True)
	f := logic.Both(slices.Repeat([]logic.Form{b, yes}, many)...)
	is(t, "Size", logic.Size(f), many+1)
	is(t, "Right", logic.Right(f), true)
	is(t, "Holds", logic.Holds(f, binds(t, "b=true")), true)
	is(t, "Text", len(logic.Text(f)) > many, true)
	f = logic.Put(f, []string{"b"}, []logic.Form{c})
	is(t, "Holds", logic.Holds(f, binds(t, "b=true")), false)
}

func TestManyBindings(t *testing.T) {
	env := slices.Repeat(binds(t, "x=5;x=6;y=1"), 100000)
	isValue(t, "Eval", logic.Eval(of(logic.Add, x, iv("z")), env), "6")
	names, by := slices.Repeat([]string{"y", "x"}, 100000), slices.Repeat([]logic.Form{num(3), num(4)}, 100000)
	isForm(t, "Put", logic.Put(of(logic.Add, x, iv("z")), names, by), of(logic.Add, num(4), iv("z")))
}

func TestBigNums(t *testing.T) {
	n := whole.Big(true, slices.Repeat(nat.Nat{0xFFFFFFFF}, 2000))
	f := logic.Form{Op: logic.Scale, Num: n, Kids: []logic.Form{of(logic.Mul, x, x)}}
	env := []logic.Bind{{Name: "x", Value: value.OfInt(n)}}
	is(t, "Eval", toBig(logic.Eval(f, env).Int).String() == shown(meaning(f, env)), true)
	is(t, "Text", strings.Contains(logic.Text(f), whole.Text(n)), true)
}

// clonedEnv returns env in memory of its own.
func clonedEnv(env []logic.Bind) []logic.Bind {
	env = slices.Clone(env)
	for i, bind := range env {
		env[i].Value.Int.Abs, env[i].Value.List = slices.Clone(bind.Value.Int.Abs), slices.Clone(bind.Value.List)
		for k, n := range bind.Value.List {
			env[i].Value.List[k].Abs = slices.Clone(n.Abs)
		}
	}
	return env
}

func TestArgumentsStay(t *testing.T) {
	samples(t, 3000, "", func(m *maker, f logic.Form) {
		env := m.env()
		env0, f0 := clonedEnv(env), cloned(f)
		want := results(f, env)
		is(t, "the same results", results(f, env), want)
		is(t, "the argument", f, f0)
		is(t, "the bindings", env, env0)
		is(t, "the results of copies", results(f0, env0), want)
	})
	exprs(t, 2000, func(m exprMaker, e tree.Expr) {
		before, scope := withCopies(e), params()
		f, _ := logic.From(e, scope)
		again, _ := logic.From(e, scope)
		is(t, "the same result", again, f)
		is(t, "the expression", e, before)
		is(t, "the scope", scope, params())
	})
}

// withCopies returns e in memory of its own.
func withCopies(e tree.Expr) tree.Expr {
	e.Num.Abs = slices.Clone(e.Num.Abs)
	e.Kids = slices.Clone(e.Kids)
	for i := range e.Kids {
		e.Kids[i] = withCopies(e.Kids[i])
	}
	return e
}

// Neither the slices that are passed nor what is behind their ends is touched or kept:
// only forms may share parts.
func TestSlicesOfFormsAreNotKept(t *testing.T) {
	for _, join := range []func(l ...logic.Form) logic.Form{logic.Both, logic.Either} {
		all := []logic.Form{b, c, of(logic.Le, x, y), bv("d"), bv("e")}
		before := clonedAll(all)
		f := join(all[:3]...)
		want := cloned(f)
		is(t, "the slice", all, before)
		clear(all)
		isForm(t, "the form when the slice is gone", f, want)
	}
	names, by := []string{"x", "y", "z"}, []logic.Form{num(1), of(logic.Add, x, num(2)), num(3)}
	f := logic.Put(of(logic.Mul, y, of(logic.Mul, x, iv("z"))), names[:2], by[:2])
	want := of(logic.Mul, of(logic.Add, x, num(2)), of(logic.Mul, num(1), iv("z")))
	isForm(t, "Put", f, want)
	is(t, "the names", names, []string{"x", "y", "z"})
	is(t, "the forms", by, []logic.Form{num(1), of(logic.Add, x, num(2)), num(3)})
	clear(names)
	clear(by)
	isForm(t, "the form when the slices are gone", f, want)
}

// Appending to the Kids of a form changes no other one.
func TestKidsEndWithTheirSlice(t *testing.T) {
	f := logic.Both(b, yes, yes, c, yes)
	first, second := append(f.Kids, yes), append(f.Kids, no)
	isForm(t, "the first one", of(logic.And, first...), of(logic.And, b, c, yes))
	isForm(t, "the second one", of(logic.And, second...), of(logic.And, b, c, no))
	samples(t, 2000, "", func(m *maker, f logic.Form) {
		made := []logic.Form{logic.Both(f, yes, f), logic.Either(f, no, f, no), logic.Same(f, f), logic.Less(f, f), logic.Sub(f, f), logic.Put(f, []string{"x"}, []logic.Form{x})}
		for _, g := range made {
			is(t, "the capacity", cap(g.Kids), len(g.Kids))
		}
	})
}

// Values are in memory of their own: neither the form nor the bindings share it.
func TestValuesAreApart(t *testing.T) {
	spoil := func(v value.Value) {
		for _, n := range append(slices.Clone(v.List), v.Int) {
			for i := range n.Abs {
				n.Abs[i] = 0xDEADBEEF
			}
		}
		for i := range v.List {
			v.List[i] = whole.Of(-77)
		}
	}
	samples(t, 3000, "", func(m *maker, f logic.Form) {
		env := m.env()
		env0, f0 := clonedEnv(env), cloned(f)
		v := logic.Eval(f, env)
		want := value.Text(v)
		spoil(v)
		is(t, "the argument", f, f0)
		is(t, "the bindings", env, env0)
		v = logic.Eval(f, env)
		is(t, "the same value", value.Text(v), want)
		for _, bind := range env {
			spoil(bind.Value)
		}
		is(t, "the value when the bindings are gone", value.Text(v), want)
	})
	huge := []logic.Form{num(math.MaxInt), of(logic.Hd, of(logic.Cons, num(math.MaxInt), void)), scale(1, num(math.MaxInt))}
	for _, f := range huge {
		want := value.Text(logic.Eval(f, nil))
		spoil(logic.Eval(f, nil))
		is(t, "the same value", value.Text(logic.Eval(f, nil)), want)
	}
	twice := logic.Eval(of(logic.Cons, x, of(logic.Cons, x, void)), binds(t, "x=7"))
	twice.List[0].Abs[0] = 8
	is(t, "numbers of one list", value.Text(twice), "[8, 7]")
}
