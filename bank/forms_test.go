package bank_test

// P12.1: terms of nodes and sums; P12.2: terms with the same one have the same value.

import (
	"strconv"
	"testing"

	"litmus/api"
	"litmus/bank"
	"litmus/logic"
	"litmus/nat"
	"litmus/value"
	"litmus/whole"
)

// valuesOf returns the values of all nodes, where names are bound, by what nodes are.
func valuesOf(b *bank.Bank, env []logic.Bind) []value.Value {
	var all []value.Value
	for _, n := range b.Nodes {
		all = append(all, nodeValue(n, all, env))
	}
	return all
}

// nodeValue returns the value of a node whose parts have values.
func nodeValue(n bank.Node, all []value.Value, env []logic.Bind) value.Value {
	if n.Op == bank.Def {
		return value.OfInt(linValue(n.Lin, all))
	}
	var args []value.Value
	for _, arg := range n.Args {
		args = append(args, all[arg])
	}
	switch n.Op {
	case bank.IVar:
		return logic.Eval(logic.Var(n.Name, api.Int), env)
	case bank.LVar:
		return logic.Eval(logic.Var(n.Name, api.List), env)
	case bank.Mul:
		return value.OfInt(whole.Mul(args[0].Int, args[1].Int))
	case bank.Quo:
		q, _, _ := whole.Div(args[0].Int, n.Num)
		return value.OfInt(q)
	case bank.Len:
		return value.OfInt(whole.Of(len(args[0].List)))
	case bank.Hd:
		return value.OfInt(append(args[0].List, whole.Int{})[0])
	case bank.Cons:
		return value.OfList(append([]whole.Int{args[0].Int}, args[1].List...)...)
	case bank.Tl:
		return value.OfList(args[0].List[min(1, len(args[0].List)):]...)
	}
	return value.OfList()
}

// linValue returns the value of a sum of nodes that have values.
func linValue(l bank.Lin, all []value.Value) whole.Int {
	v := l.Const
	for i, n := range l.Nodes {
		v = whole.Add(v, whole.Mul(l.Coefs[i], all[n].Int))
	}
	return v
}

// hasValue fails unless f is valid, and has that value where names are bound.
func hasValue(t *testing.T, what string, f logic.Form, env []logic.Bind, want value.Value) {
	t.Helper()
	is(t, what+" is valid", logic.Right(f), true)
	is(t, "the value of "+what, value.Text(logic.Eval(f, env)), value.Text(want))
}

func TestFormsOfExamples(t *testing.T) {
	b := bank.New()
	b.List(read(t, "2 * x - 3 * y + 7 :: tl (hd l * (x + 1) :: (x - x) / 5 :: len [] :: -hd m :: m)"))
	for _, env := range []string{"", "0 0 [] []", "5 -2 [3, 4] [8]", "-7 1 [-1] [0, 0]"} {
		var binds []logic.Bind
		if env != "" {
			binds = bindings(t, env)
		}
		for i, v := range valuesOf(b, binds) {
			hasValue(t, "Form "+strconv.Itoa(i), b.Form(i), binds, v)
		}
	}
}

// bindings binds x, y, l and m to these.
func bindings(t *testing.T, s string) []logic.Bind {
	t.Helper()
	var all []logic.Bind
	rest := s
	for _, name := range []string{"x", "y", "l", "m"} {
		end := len(rest)
		for i := range rest {
			if v, ok := value.Parse(rest[:i]); ok && rest[i] == ' ' {
				all, end = append(all, logic.Bind{Name: name, Value: v}), i+1
				break
			}
		}
		if end == len(rest) {
			v, ok := value.Parse(rest)
			is(t, "a value in "+s, ok, true)
			all = append(all, logic.Bind{Name: name, Value: v})
		}
		rest = rest[end:]
	}
	return all
}

func TestSumsOfExamples(t *testing.T) {
	b := bank.New()
	b.Int(read(t, "x + y + hd l + (x + 1) / 2"))
	haveNodes(t, "the bank", b, `IVar "x", IVar "y", LVar "l", Hd n2, Def = 1 1*n0, Quo 2 n4`)
	env := bindings(t, "10 -3 [7] []")
	for _, c := range []struct {
		l    bank.Lin
		want int
	}{
		{sum(0), 0}, {sum(-4), -4}, {sum(0, 0, 1), 10}, {sum(0, 0, -1), -10}, {sum(0, 1, 5), -15}, {sum(1, 0, 1), 11}, {sum(-1, 3, 2), 13}, {sum(0, 4, 1), 11}, {sum(0, 4, 3, 5, -1), 28}, {sum(100, 0, 1, 1, 1, 3, 1, 4, 1, 5, 1), 130}, {sum(0, 0, 1, 1, -1, 3, 2), 27},
	} {
		f := b.Sum(c.l)
		hasValue(t, "Sum of "+shownLin(c.l), f, env, value.OfInt(whole.Of(c.want)))
		b.Int(f)
	}
	is(t, "no other node", len(b.Nodes), 6)
}

// Numbers in any form may be passed, but a valid form has canonical ones only.
func TestSumOfOtherNumbers(t *testing.T) {
	b := bank.New()
	b.Int(x)
	env := bindings(t, "10 0 [] []")
	hasValue(t, "-6 + 4 x", b.Sum(bank.Lin{Const: whole.Int{Neg: true, Abs: nat.Nat{6, 0}}, Nodes: []int{0}, Coefs: []whole.Int{{Abs: nat.Nat{4, 0, 0}}}}), env, value.OfInt(whole.Of(34)))
	hasValue(t, "x", b.Sum(bank.Lin{Const: whole.Int{Neg: true, Abs: nat.Nat{0}}, Nodes: []int{0}, Coefs: []whole.Int{{Abs: nat.Nat{1, 0, 0}}}}), env, value.OfInt(whole.Of(10)))
	hasValue(t, "0", b.Sum(bank.Lin{Const: whole.Int{Neg: true, Abs: nat.Nat{0}}}), env, value.OfInt(whole.Int{}))
}

// The values of terms, of their nodes and sums, and of the terms of these are the same.
func TestValuesOfRandomTerms(t *testing.T) {
	b := bank.New()
	samples(t, 3000, func(m maker, f logic.Form) {
		if len(b.Nodes) > 100 {
			b = bank.New()
		}
		i := add(b, f)
		count := len(b.Nodes)
		for range 4 {
			env := m.env()
			want := logic.Eval(f, env)
			all := valuesOf(b, env)
			is(t, "the value of the node", value.Text(all[i]), value.Text(want))
			hasValue(t, "Form", b.Form(i), env, want)
			for i := range b.Nodes {
				hasValue(t, "Form", b.Form(i), env, all[i])
			}
			if logic.Sort(f) == api.Int {
				sum := b.Int(f)
				is(t, "the value of the sum", value.Text(value.OfInt(linValue(sum, all))), value.Text(want))
				hasValue(t, "Sum", b.Sum(sum), env, want)
			}
		}
		is(t, "no other node", len(b.Nodes), count)
		is(t, "the node of its Form", add(b, b.Form(i)), i)
		is(t, "no other node", len(b.Nodes), count)
	})
}

// Many small terms have the same sum or node: all those have the same value.
func TestSameSumsSameValues(t *testing.T) {
	m, b := newMaker(), bank.New()
	var envs [][]logic.Bind
	for range 6 {
		envs = append(envs, m.env())
	}
	values := func(f logic.Form) string {
		s := ""
		for _, env := range envs {
			s += value.Text(logic.Eval(f, env)) + ";"
		}
		return s
	}
	first := map[string]logic.Form{}
	shared := 0
	for range 20000 {
		f := m.term(pick(m, api.Int, api.List), 1+m.Intn(3))
		var key string
		if logic.Sort(f) == api.List {
			key = "node " + strconv.Itoa(b.List(f))
		} else {
			key = bank.Text(b.Int(f))
		}
		old, ok := first[key]
		if !ok {
			first[key] = f
			continue
		}
		if logic.Text(old) != logic.Text(f) {
			shared++
		}
		if values(old) != values(f) {
			t.Fatalf("%s and %s have the same sum or node, %s", logic.Text(old), logic.Text(f), key)
		}
	}
	if shared < 1000 {
		t.Errorf("too few different terms with the same sum or node: %d", shared)
	}
}
