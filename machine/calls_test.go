package machine_test

// P0 and DOC.md's rules: each call ends, doesn't panic, doesn't modify its arguments, has
// the same result again, and gives out memory of its own.

import (
	"math"
	"slices"
	"strconv"
	"strings"
	"testing"

	"litmus/api"
	"litmus/machine"
	"litmus/nat"
	"litmus/tree"
	"litmus/value"
	"litmus/whole"
)

// listOf returns the list of the numbers from n - 1 down to 0.
func listOf(n int) value.Value {
	all := make([]whole.Int, n)
	for i := range all {
		all[i] = whole.Of(n - 1 - i)
	}
	return value.OfList(all...)
}

// As many calls may be active as the fuel allows.
func TestDeepCalls(t *testing.T) {
	for _, s := range []string{
		"fun main(): int = main()",
		"fun main(): int = 1 + main()",
		"fun main(): list = 1 :: main()",
		"fun main(): bool = not main()",
		"fun main(): int = if main() > 0 then 1 else 2",
		"fun main(): int = let x = main() in x",
		"fun f(x: int): int = x fun main(): int = f(main())",
		"fun f(x: int, y: list): int = f(x, x :: y) fun main(): int = f(1, [])",
	} {
		runs(t, s, "", plenty, "spent 1000000")
	}
	const down = "fun main(n: int): int = if n <= 0 then (assert false; 0) else "
	o := machine.Run(program(t, down+"main(n - 1)"), vals(t, "90000"), plenty)
	is(t, "Kind", o.Kind, machine.Failed)
	is(t, "the number of calls", len(o.Path), 90001)
	for i, c := range o.Path {
		want := machine.Call{Name: "main", Line: 1, Col: 63}
		if i == 0 {
			want = machine.Call{Name: "main"}
		}
		if c != want {
			t.Fatalf("call %d: got %v, want %v", i, c, want)
		}
	}
	const sum = "fun main(n: int): int = if n <= 0 then 0 else 1 + main(n - 1)"
	runs(t, sum, "60000", plenty, "60000 after "+strconv.Itoa(60000*15+4))
}

// nested returns inner within as many levels.
func nested(levels int, inner tree.Expr, around func(inner tree.Expr) tree.Expr) tree.Expr {
	for range levels {
		inner = around(inner)
	}
	return inner
}

// Nesting may have as many levels as DOC.md's limits allow.
func TestDeepExpressions(t *testing.T) {
	const levels = 1<<16 - 1
	one := tree.Expr{Kind: tree.Num, Num: whole.Of(1)}
	for _, c := range []struct {
		around func(inner tree.Expr) tree.Expr
		want   string
	}{
		{func(e tree.Expr) tree.Expr { return tree.Expr{Kind: tree.Neg, Kids: []tree.Expr{e}} }, "-1 after 131071"},
		{func(e tree.Expr) tree.Expr { return tree.Expr{Kind: tree.Add, Kids: []tree.Expr{one, e}} }, "65536 after 262141"},
		{func(e tree.Expr) tree.Expr { return tree.Expr{Kind: tree.Add, Kids: []tree.Expr{e, one}} }, "65536 after 262141"},
		{func(e tree.Expr) tree.Expr { return tree.Expr{Kind: tree.Let, Name: "x", Kids: []tree.Expr{e, one}} }, "1 after 131071"},
		{func(e tree.Expr) tree.Expr { return tree.Expr{Kind: tree.Let, Name: "x", Kids: []tree.Expr{one, e}} }, "1 after 131071"},
		{func(e tree.Expr) tree.Expr { return tree.Expr{Kind: tree.Call, Name: "f", Kids: []tree.Expr{e}} }, "1 after 131071"},
	} {
		f := tree.Fun{Name: "f", Params: []tree.Param{{Name: "x"}}, Body: tree.Expr{Kind: tree.Var, Name: "x"}}
		p := tree.Program{Funs: []tree.Fun{f, {Name: "main", Body: nested(levels, one, c.around)}}}
		is(t, "Run", told(machine.Run(p, nil, plenty)), c.want)
		is(t, "Run", told(machine.Run(p, nil, 100000)), "spent 100000")
	}
}

// Neither a Cons nor a Match takes longer for a long list, nor does any operation whose
// cost the fuel doesn't suffice for.
func TestLongLists(t *testing.T) {
	build := "fun f(n: int, l: list): list = if n <= 0 then l else f(n - 1, n :: l) fun main(n: int): int = len f(n, [])"
	runs(t, build, "50000", plenty, "50000 after "+strconv.Itoa(50000*14+9+50000))
	walk := "fun f(l: list): int = match l with [] -> 0 | h :: t -> f(t) fun main(l: list): int = f(l)"
	is(t, walk, told(machine.Run(program(t, walk), []value.Value{listOf(200000)}, plenty)), "0 after 800005")
	same := program(t, "fun main(l: list, m: list): bool = l = m")
	is(t, "equality", told(machine.Run(same, []value.Value{listOf(200000), listOf(200000)}, plenty)), "true after 800001")
	is(t, "equality", told(machine.Run(same, []value.Value{listOf(200001), listOf(200000)}, plenty)), "false after 800003")
	is(t, "equality", told(machine.Run(same, []value.Value{listOf(500000), listOf(500000)}, plenty)), "spent 1000000")
	big := value.OfInt(whole.Int{Abs: slices.Repeat(nat.Nat{7}, 1<<20)})
	square := program(t, "fun main(x: int): bool = x * x = x * x")
	is(t, "a product", told(machine.Run(square, []value.Value{big}, plenty)), "spent 1000000")
}

// Fields that the Base doesn't use don't count, nor in which form a number is.
func TestArgumentsOfAnyForm(t *testing.T) {
	needless := func(neg bool, limbs ...uint32) whole.Int { return whole.Int{Neg: neg, Abs: append(limbs, 0, 0)} }
	args := []value.Value{
		{Base: api.Int, Int: needless(true), Bool: true, List: []whole.Int{whole.Of(1)}},
		{Base: api.Int, Int: needless(true, 5)},
		{Base: api.Bool, Int: needless(false, 1), List: []whole.Int{whole.Of(1)}},
		{Base: api.List, Int: needless(false, 1), Bool: true, List: []whole.Int{needless(true), needless(false, 9)}},
	}
	for s, want := range map[string]string{
		"int = x": "0 after 1", "int = y": "-5 after 1", "bool = b": "false after 1", "list = l": "[0, 9] after 1",
		"int = -x": "0 after 2", "int = x + y": "-5 after 4", "int = x * y": "0 after 3", "bool = x = 0": "true after 3", "bool = x < 0": "false after 3",
		"int = y / 2": "-3 after 4", "int = x / 2": "0 after 3", "bool = b = false": "true after 3", "int = len l": "2 after 4", "bool = l = []": "false after 6", "bool = l = x :: 9 :: []": "true after 13",
		"int = match l with [] -> 1 | h :: t -> h": "0 after 3", "list = match l with [] -> l | h :: t -> h :: t": "[0, 9] after 5",
	} {
		p := program(t, "fun main(x: int, y: int, b: bool, l: list): "+s)
		is(t, s, told(machine.Run(p, args, plenty)), want)
	}
}

// What has faults has no promised outcome, but a call ends with one.
func TestProgramsWithFaultsEnd(t *testing.T) {
	again := func(p tree.Program, args ...value.Value) {
		t.Helper()
		is(t, "the same outcome", machine.Run(p, args, 1000), machine.Run(p, args, 1000))
	}
	again(tree.Program{})
	again(tree.Program{Funs: []tree.Fun{{Name: "f"}}})
	again(tree.Program{Funs: []tree.Fun{{Name: "main"}}})
	params := []tree.Param{{Name: "x"}, {Name: "x", Base: api.Bool}, {Name: "", Base: api.List}}
	args := []value.Value{value.OfInt(whole.Of(3)), value.OfBool(true), value.OfList(whole.Of(4))}
	kinds := []tree.Kind{-1, -2, tree.Assert + 1, math.MinInt, math.MaxInt}
	for k := range tree.Assert + 1 {
		kinds = append(kinds, k)
	}
	for _, k := range kinds {
		for _, inner := range kinds {
			for kids := range 5 {
				for _, name := range []string{"x", "", "none", "main", "f"} {
					e := tree.Expr{Kind: k, Name: name, Num: whole.Int{Neg: true, Abs: nat.Nat{0, 0}}}
					for i := range kids {
						e.Kids = append(e.Kids, tree.Expr{Kind: inner, Name: "x", Kids: make([]tree.Expr, (kids+i)%4)})
					}
					p := tree.Program{Funs: []tree.Fun{{Name: "main", Params: params, Body: e}, {Name: "f", Body: e}, {Name: "f", Params: params, Body: e}, {Name: "main"}}}
					again(p, args...)
					for b := range api.Base(4) {
						p.Funs[0].Result.Base = b - 1
						again(p, args...)
					}
				}
			}
		}
	}
}

// Types that don't fit have no promised outcome, either.
func TestOtherTypesEnd(t *testing.T) {
	for _, s := range []string{"x + b", "b * l", "l - x", "-b", "-l", "not x", "not l", "len x", "len b", "b / 2", "l % 2", "x / 0", "x % 0", "x / x", "l < b", "x = l", "l <> b", "x && l", "l || x", "x :: x", "l :: l", "b :: b", "hd l", "tl l", "hd x", "tl b", "if x then l else b", "if l then x else l", "match x with [] -> b | h :: t -> h", "match b with [] -> b | x :: x -> x", "assert x; l", "assert l; x", "let x = b in x + l", "f(b, x)", "f(1)", "f()", "f(1, 2, 3)", "g()", "z", "v"} {
		for _, types := range []string{"int", "bool", "list"} {
			p := parsed(t, "fun f(x: int, y: int): int = x fun main(x: int, b: bool, l: list): "+types+" = "+s)
			args := vals(t, "0;true;[5]")
			is(t, "the same outcome", machine.Run(p, args, 1000), machine.Run(p, args, 1000))
		}
	}
}

func TestOtherBasesEnd(t *testing.T) {
	p := program(t, "fun main(x: int): int = x")
	for _, b := range []api.Base{-1, 3, math.MinInt, math.MaxInt} {
		v := value.Value{Base: b, Int: whole.Of(1), Bool: true, List: []whole.Int{whole.Of(2)}}
		is(t, "Run", told(machine.Run(p, []value.Value{v}, plenty)), "wrong")
		p.Funs[0].Params[0].Base, p.Funs[0].Result.Base = b, b
		is(t, "the same outcome", machine.Run(p, []value.Value{v}, 9), machine.Run(p, []value.Value{v}, 9))
		p.Funs[0].Params[0].Base = 0
	}
}

// Slices can be part of themselves.
func TestEndlessExpressionsEnd(t *testing.T) {
	for k := range tree.Assert + 1 {
		kids := make([]tree.Expr, max(0, tree.Arity(k)))
		for i := range kids {
			kids[i] = tree.Expr{Kind: k, Kids: kids}
		}
		p := tree.Program{Funs: []tree.Fun{{Name: "main", Body: tree.Expr{Kind: k, Kids: kids}}}}
		is(t, "the same outcome", machine.Run(p, nil, 100000), machine.Run(p, nil, 100000))
	}
}

func TestManyFunctions(t *testing.T) {
	const many = 100000
	var p tree.Program
	for i := range many {
		f := tree.Fun{Name: "f" + strconv.Itoa(i), Body: tree.Expr{Kind: tree.Call, Name: "f" + strconv.Itoa(i+1)}}
		p.Funs = append(p.Funs, f)
	}
	p.Funs = append(p.Funs, tree.Fun{Name: "main", Body: tree.Expr{Kind: tree.Call, Name: "f0"}})
	p.Funs[many-1].Body = tree.Expr{Kind: tree.Num, Num: whole.Of(8)}
	is(t, "Run", told(machine.Run(p, nil, plenty)), "8 after "+strconv.Itoa(many+1))
}

func TestManyArguments(t *testing.T) {
	const many = 100000
	f := tree.Fun{Name: "main", Body: tree.Expr{Kind: tree.Var, Name: "x0"}}
	args := make([]value.Value, many)
	for i := range many {
		f.Params = append(f.Params, tree.Param{Name: "x" + strconv.Itoa(i)})
		args[i] = value.OfInt(whole.Of(i + 7))
	}
	is(t, "Run", told(machine.Run(tree.Program{Funs: []tree.Fun{f}}, args, plenty)), "7 after 1")
	is(t, "Run", told(machine.Run(tree.Program{Funs: []tree.Fun{f}}, args[1:], plenty)), "wrong")
}

// clonedExpr returns e in memory of its own.
func clonedExpr(e tree.Expr) tree.Expr {
	e.Num.Abs = slices.Clone(e.Num.Abs)
	e.Kids = slices.Clone(e.Kids)
	for i := range e.Kids {
		e.Kids[i] = clonedExpr(e.Kids[i])
	}
	return e
}

// cloned returns p in memory of its own.
func cloned(p tree.Program) tree.Program {
	p.Funs = slices.Clone(p.Funs)
	for i, f := range p.Funs {
		p.Funs[i].Params, p.Funs[i].Body = slices.Clone(f.Params), clonedExpr(f.Body)
	}
	return p
}

// clonedValues returns the values in memory of their own, with all their fields as they are.
func clonedValues(l []value.Value) []value.Value {
	l = slices.Clone(l)
	for i := range l {
		l[i].Int.Abs, l[i].List = slices.Clone(l[i].Int.Abs), slices.Clone(l[i].List)
		for k := range l[i].List {
			l[i].List[k].Abs = slices.Clone(l[i].List[k].Abs)
		}
	}
	return l
}

// spoil overwrites all memory of v, so that whatever shares it shows.
func spoil(v value.Value) {
	spoilInt(v.Int)
	for i, n := range v.List {
		spoilInt(n)
		v.List[i] = whole.Of(-77)
	}
}

func spoilInt(n whole.Int) {
	for i := range n.Abs {
		n.Abs[i] = 0xDEADBEEF
	}
}

func TestArgumentsAndResultsAreApart(t *testing.T) {
	samples(t, 3000, func(m *maker, p tree.Program, args []value.Value) {
		p0, args0 := cloned(p), clonedValues(args)
		o := machine.Run(p, args, 2000)
		want := told(o)
		is(t, "the program", p, p0)
		is(t, "the arguments", args, args0)
		is(t, "the same outcome", machine.Run(p, args, 2000), o)
		spoil(o.Value)
		clear(o.Path)
		is(t, "the program", p, p0)
		is(t, "the arguments", args, args0)
		o = machine.Run(p, args, 2000)
		for _, v := range args {
			spoil(v)
		}
		is(t, "the outcome when the arguments are gone", told(o), want)
	})
}

// A result shares nothing with the program, nor any two numbers of it.
func TestResultsHaveMemoryOfTheirOwn(t *testing.T) {
	p := program(t, "fun main(l: list): list = let x = 5 in match l with [] -> x :: x :: l | h :: t -> h :: h :: x :: x :: l")
	for _, c := range []struct{ args, want string }{{"[]", "[5, 5]"}, {"[9, 8]", "[9, 9, 5, 5, 9, 8]"}} {
		args := vals(t, c.args)
		o := machine.Run(p, args, plenty)
		for i := range o.Value.List {
			is(t, "the next numbers", value.Text(value.OfList(o.Value.List[i:]...)), "["+strings.Join(strings.Split(c.want[1:len(c.want)-1], ", ")[i:], ", ")+"]")
			spoilInt(o.Value.List[i])
		}
		is(t, "the argument", value.Text(args[0]), c.args)
		is(t, "the same value", value.Text(machine.Run(p, args, plenty).Value), c.want)
	}
	p = program(t, "fun main(): int = 5")
	spoil(machine.Run(p, nil, plenty).Value)
	is(t, "the program's number", told(machine.Run(p, nil, plenty)), "5 after 1")
}

// What is behind the end of a slice isn't touched either.
func TestCapacitiesStay(t *testing.T) {
	args := append(make([]value.Value, 0, 9), vals(t, "[2, 3]")...)
	args[0].List = append(make([]whole.Int, 0, 9), args[0].List...)
	p := program(t, "fun main(l: list): list = match l with [] -> l | h :: t -> let x = h + 1 in x :: l")
	p.Funs = append(make([]tree.Fun, 0, 9), p.Funs...)
	is(t, "Run", told(machine.Run(p, args, plenty)), "[3, 2, 3] after 11")
	is(t, "behind the arguments", args[1:9], make([]value.Value, 8))
	is(t, "behind the list", args[0].List[2:9], make([]whole.Int, 7))
	is(t, "behind the functions", p.Funs[1:9], make([]tree.Fun, 8))
}
