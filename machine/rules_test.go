package machine_test

// P9.1 and P9.2: random programs, compared with the chapter's rules written apart from the
// code: by recursion, with numbers of math/big, and lists as slices.

import (
	"math/big"
	"strconv"
	"strings"
	"testing"

	"litmus/api"
	"litmus/machine"
	"litmus/scope"
	"litmus/tree"
	"litmus/value"
)

// A run follows the rules.
type run struct {
	p          tree.Program
	fuel, cost int
	path       []string
}

// A stop is what ends a run before it is Done: its text, like that of told.
type stop string

// numbers is a list.
type numbers []*big.Int

// expected returns what is told of the outcome of a run.
func expected(p tree.Program, args []value.Value, fuel int) (s string) {
	fuel = min(max(fuel, 0), 1000000)
	r := &run{p: p, fuel: fuel, path: []string{"main 0:0"}}
	defer func() {
		if ended, ok := recover().(stop); ok {
			s = string(ended)
		}
	}()
	main, _ := scope.Main(p)
	scope := map[string]any{}
	for i, param := range main.Params {
		scope[param.Name] = contentOf(args[i])
	}
	return textOf(r.eval(main.Body, scope)) + " after " + strconv.Itoa(r.cost)
}

// contentOf returns what v is, as the rules have it.
func contentOf(v value.Value) any {
	switch v.Base {
	case api.Int:
		return toBig(v.Int)
	case api.Bool:
		return v.Bool
	}
	var l numbers
	for _, n := range v.List {
		l = append(l, toBig(n))
	}
	return l
}

// textOf returns the text of a number, a bool or a list.
func textOf(v any) string {
	switch v := v.(type) {
	case *big.Int:
		return v.String()
	case bool:
		return strconv.FormatBool(v)
	}
	var all []string
	for _, n := range v.(numbers) {
		all = append(all, n.String())
	}
	return "[" + strings.Join(all, ", ") + "]"
}

// plus adds to the cost.
func (r *run) plus(n int) {
	r.cost += n
	if r.cost > r.fuel {
		panic(stop("spent " + strconv.Itoa(r.fuel)))
	}
}

// limbs returns the number of limbs of all numbers.
func limbs(all ...*big.Int) int {
	sum := 0
	for _, n := range all {
		sum += (n.BitLen() + 31) / 32
	}
	return sum
}

// with returns the scope with one more name.
func with(scope map[string]any, name string, v any) map[string]any {
	other := map[string]any{name: v}
	for k, x := range scope {
		if k != name {
			other[k] = x
		}
	}
	return other
}

// eval returns the value of e.
func (r *run) eval(e tree.Expr, scope map[string]any) any {
	r.plus(1)
	part := func(i int) any { return r.eval(e.Kids[i], scope) }
	switch e.Kind {
	case tree.Num:
		return toBig(e.Num)
	case tree.True, tree.False:
		return e.Kind == tree.True
	case tree.Nil:
		return numbers(nil)
	case tree.Var:
		return scope[e.Name]
	case tree.And:
		if !part(0).(bool) {
			return false
		}
		return part(1)
	case tree.Or:
		if part(0).(bool) {
			return true
		}
		return part(1)
	case tree.If:
		if part(0).(bool) {
			return part(1)
		}
		return part(2)
	case tree.Let:
		return r.eval(e.Kids[1], with(scope, e.Name, part(0)))
	case tree.Match:
		l := part(0).(numbers)
		if len(l) == 0 {
			return part(1)
		}
		return r.eval(e.Kids[2], with(with(scope, e.Name, l[0]), e.Other, l[1:]))
	case tree.Assert:
		if !part(0).(bool) {
			panic(stop("failed at " + place(e.Line, e.Col) + " in " + strings.Join(r.path, ", ") + " after " + strconv.Itoa(r.cost)))
		}
		return part(1)
	}
	var parts []any
	for i := range e.Kids {
		parts = append(parts, part(i))
	}
	if e.Kind == tree.Call {
		return r.call(e, parts)
	}
	return r.operation(e.Kind, parts)
}

// call returns the value of a Call with these arguments.
func (r *run) call(e tree.Expr, args []any) any {
	for _, f := range r.p.Funs {
		if f.Name == e.Name {
			scope := map[string]any{}
			for i, p := range f.Params {
				scope[p.Name] = args[i]
			}
			r.path = append(r.path, e.Name+" "+place(e.Line, e.Col))
			v := r.eval(f.Body, scope)
			r.path = r.path[:len(r.path)-1]
			return v
		}
	}
	panic("no function " + e.Name)
}

// operation returns the value of an operation with these operands.
func (r *run) operation(k tree.Kind, parts []any) any {
	switch first := parts[0].(type) {
	case bool:
		if k == tree.Not {
			return !first
		}
		return (first == parts[1].(bool)) == (k == tree.Eq)
	case numbers:
		if k == tree.Len {
			r.plus(len(first))
			return big.NewInt(int64(len(first)))
		}
		second := parts[1].(numbers)
		r.plus(len(first) + limbs(first...) + len(second) + limbs(second...))
		return (textOf(first) == textOf(second)) == (k == tree.Eq)
	}
	a := parts[0].(*big.Int)
	switch k {
	case tree.Cons:
		return append(numbers{a}, parts[1].(numbers)...)
	case tree.Neg:
		r.plus(limbs(a))
		return new(big.Int).Neg(a)
	}
	return r.binary(k, a, parts[1].(*big.Int))
}

// binary returns the value of a binary operation of numbers.
func (r *run) binary(k tree.Kind, a, b *big.Int) any {
	switch k {
	case tree.Mul:
		r.plus(limbs(a) * limbs(b))
		return new(big.Int).Mul(a, b)
	case tree.Div: // of a b that is positive, this one rounds down
		r.plus(limbs(a))
		return new(big.Int).Div(a, b)
	case tree.Mod:
		r.plus(limbs(a))
		return new(big.Int).Mod(a, b)
	}
	r.plus(limbs(a, b))
	switch k {
	case tree.Add:
		return new(big.Int).Add(a, b)
	case tree.Sub:
		return new(big.Int).Sub(a, b)
	}
	order := a.Cmp(b)
	return map[tree.Kind]bool{
		tree.Eq: order == 0, tree.Ne: order != 0, tree.Lt: order < 0,
		tree.Le: order <= 0, tree.Gt: order > 0, tree.Ge: order >= 0,
	}[k]
}

// count counts the kind of outcome that s tells of.
func count(kinds map[string]int, s string) {
	word, _, _ := strings.Cut(s, " ")
	if word != "failed" && word != "spent" {
		word = "done"
	}
	kinds[word]++
}

func TestRandomPrograms(t *testing.T) {
	kinds, deep := map[string]int{}, 0
	samples(t, 20000, func(m *maker, p tree.Program, args []value.Value) {
		want := expected(p, args, 2000)
		is(t, "Run", told(machine.Run(p, args, 2000)), want)
		count(kinds, want)
		if strings.Count(want, ",") > 1 && strings.HasPrefix(want, "failed") {
			deep++
		}
	})
	for _, word := range []string{"done", "failed", "spent"} {
		if kinds[word] < 1000 {
			t.Errorf("only %d of the samples are %s", kinds[word], word)
		}
	}
	if deep < 150 {
		t.Errorf("only %d of the samples fail with two calls active", deep)
	}
}

// P9.2, and what a run with less fuel comes to.
func TestEachFuel(t *testing.T) {
	samples(t, 3000, func(m *maker, p tree.Program, args []value.Value) {
		o := machine.Run(p, args, 2000)
		for range 20 {
			fuel := m.Intn(o.Steps + 3)
			is(t, "Run with "+strconv.Itoa(fuel), told(machine.Run(p, args, fuel)), expected(p, args, fuel))
		}
		if o.Kind == machine.Spent {
			return
		}
		for _, more := range []int{0, 1, 2, 1000, 998000, 1 << 40} {
			is(t, "Run with more", told(machine.Run(p, args, o.Steps+more)), told(o))
		}
		for _, less := range []int{1, 2, o.Steps/2 + 1, o.Steps} {
			fuel := max(0, o.Steps-less)
			is(t, "Run with less", told(machine.Run(p, args, fuel)), "spent "+strconv.Itoa(fuel))
		}
	})
}
