package bank_test

// P0 and DOC.md's rules: each call ends, doesn't panic, doesn't modify or keep its
// arguments, and has the same result again.

import (
	"math"
	"slices"
	"strconv"
	"testing"

	"litmus/api"
	"litmus/bank"
	"litmus/logic"
	"litmus/nat"
	"litmus/value"
	"litmus/whole"
)

// oddNums are numbers in canonical form, and others.
func oddNums() []whole.Int {
	return []whole.Int{{}, whole.Of(1), whole.Of(-1), {Neg: true}, {Abs: make(nat.Nat, 9)}, {Neg: true, Abs: nat.Nat{3, 0, 0}}}
}

// What isn't a valid term has no promised results, but calls end with some, and leave the
// bank as it is.
func TestInvalidTermsEnd(t *testing.T) {
	b := bank.New()
	ops := []logic.Op{-1, -2, logic.Iff + 1, math.MinInt, math.MaxInt}
	for op := range logic.Iff + 1 {
		ops = append(ops, op)
	}
	for _, op := range ops {
		for _, inner := range ops {
			for kids := range 4 {
				for _, n := range oddNums() {
					f := logic.Form{Op: op, Num: n, Name: "x"}
					for i := range kids {
						f.Kids = append(f.Kids, logic.Form{Op: inner, Num: n, Name: "l", Kids: make([]logic.Form, (kids+i)%3)})
					}
					before := len(b.Nodes)
					if isInt := logic.Right(f) && logic.Sort(f) == api.Int; !isInt {
						is(t, "Int", b.Int(f), bank.Lin{})
						is(t, "the nodes", len(b.Nodes), before)
					}
					if isList := logic.Right(f) && logic.Sort(f) == api.List; !isList {
						is(t, "List", b.List(f), 0)
						is(t, "the nodes", len(b.Nodes), before)
					}
				}
			}
		}
	}
}

// oddSums are slices that aren't sums, or aren't of a bank with the nodes x, l and hd l.
func oddSums() []bank.Lin {
	one := whole.Of(1)
	all := []bank.Lin{
		sum(0, 3, 1), sum(0, -1, 1), sum(5, 0, 1, 3, 2), sum(0, math.MaxInt, 1), sum(0, math.MinInt, 1), sum(0, 1, 1), sum(4, 0, 1, 1, 2),
		{Nodes: []int{0}}, {Coefs: []whole.Int{one}}, {Nodes: []int{0, 2}, Coefs: []whole.Int{one}}, {Nodes: []int{0}, Coefs: []whole.Int{one, one}}, {Nodes: []int{}, Coefs: []whole.Int{}},
		sum(0, 2, 1, 0, 1), sum(0, 0, 1, 0, 1), sum(0, 0, 1, 0, -1), sum(0, 0, 0), sum(1, 0, 0, 2, 1),
	}
	for _, n := range oddNums() {
		all = append(all, bank.Lin{Const: n, Nodes: []int{0}, Coefs: []whole.Int{n}})
	}
	return all
}

func TestInvalidSumsEnd(t *testing.T) {
	for _, a := range oddSums() {
		is(t, "Times", bank.Times(whole.Of(3), a), bank.Times(whole.Of(3), a))
		is(t, "Tight", bank.Tight(a), bank.Tight(a))
		is(t, "Text", bank.Text(a), bank.Text(a))
		for _, c := range oddSums() {
			is(t, "Plus", bank.Plus(a, c), bank.Plus(a, c))
		}
		b := bank.New()
		b.Int(read(t, "x + hd l"))
		is(t, "Sum", logic.Right(b.Sum(a)), true)
		i := b.Node(a)
		is(t, "a node", 0 <= i && i < len(b.Nodes), true)
		is(t, "Node again", b.Node(a), i)
		for i := range b.Nodes {
			is(t, "Form", logic.Right(b.Form(i)), true)
		}
	}
}

func TestNodesThatDoNotExist(t *testing.T) {
	b := bank.New()
	for range 2 {
		for _, i := range []int{-1, len(b.Nodes), math.MinInt, math.MaxInt} {
			is(t, "Form", b.Form(i), logic.Form{})
		}
		b.Int(read(t, "hd l + x"))
	}
}

func TestNodesThatAreOdd(t *testing.T) {
	for _, op := range []bank.Op{-1, bank.Tl + 1, math.MinInt, math.MaxInt} {
		is(t, "IsList", bank.Node{Op: op}.IsList(), false)
	}
}

// Banks must come from New or Copy, but calls on others end, too.
func TestOtherBanksEnd(t *testing.T) {
	var none *bank.Bank
	for _, b := range []*bank.Bank{none, none.Copy(), {}, {Nodes: make([]bank.Node, 3)}, {Nodes: []bank.Node{{Op: 99}, {Op: bank.Def, Args: []int{7}}}}} {
		for range 2 {
			f := read(t, "(x + 1) * hd (2 :: l)")
			b.Int(f)
			b.List(l)
			b.Sum(sum(1, 0, 2))
			b.Node(sum(1, 0, 2))
			for i := range 9 {
				b.Form(i)
			}
			b = b.Copy()
		}
	}
}

// nested returns inner within as many levels.
func nested(levels int, inner logic.Form, around func(inner logic.Form) logic.Form) logic.Form {
	for range levels {
		inner = around(inner)
	}
	return inner
}

// levels is how many DOC.md's limits allow.
const levels = 1<<16 - 1

// Nesting may have as many levels as DOC.md's limits allow.
func TestDeepTerms(t *testing.T) {
	next := 0
	other := func() logic.Form {
		next++
		return logic.Var(strconv.Itoa(next), api.Int)
	}
	for _, c := range []struct {
		inner  logic.Form
		around func(f logic.Form) logic.Form
		nodes  int
		want   string // where x is 2 and l is [8, 9]
	}{
		{x, func(f logic.Form) logic.Form { return of(logic.Add, f, x) }, 1, "131072"},
		{x, func(f logic.Form) logic.Form { return of(logic.Add, num(1), f) }, 1, "65537"},
		{x, func(f logic.Form) logic.Form { return of(logic.Add, f, other()) }, levels + 1, "2"},
		{x, func(f logic.Form) logic.Form { return of(logic.Add, other(), f) }, levels + 1, "2"},
		{x, func(f logic.Form) logic.Form { return with(logic.Scale, -1, f) }, 1, "-2"},
		{x, func(f logic.Form) logic.Form { return with(logic.Quo, 1, f) }, 1 + levels, "2"},
		{x, func(f logic.Form) logic.Form { return with(logic.Quo, 1, of(logic.Add, f, num(1))) }, 1 + 2*levels, "65537"},
		{num(1), func(f logic.Form) logic.Form { return of(logic.Mul, f, num(-1)) }, 2 + levels, "-1"},
		{l, func(f logic.Form) logic.Form { return of(logic.Tl, f) }, 1 + levels, "[]"},
	} {
		f := nested(levels, c.inner, c.around)
		b := bank.New()
		i := add(b, f)
		nodes := c.nodes
		if i == len(b.Nodes)-1 && b.Nodes[i].Op == bank.Def {
			nodes++
		}
		is(t, "the number of nodes", len(b.Nodes), nodes)
		got := value.Text(logic.Eval(b.Form(i), bindings(t, "2 0 [8, 9] []")))
		is(t, "the value of the node", got, c.want)
		is(t, "Copy", len(b.Copy().Nodes), nodes)
	}
	list := nested(levels, l, func(f logic.Form) logic.Form { return of(logic.Cons, x, f) })
	b := bank.New()
	is(t, "List", b.List(list), levels+1)
	v := logic.Eval(b.Form(levels+1), bindings(t, "2 0 [8, 9] []"))
	is(t, "the value of the list", len(v.List), levels+2)
}

// Neither nodes nor their terms take up more room the more ways there are to their parts.
func TestSharedNodes(t *testing.T) {
	b := bank.New()
	last := b.Node(b.Int(of(logic.Add, x, of(logic.Mul, x, y))))
	for range 200 {
		last = b.Node(sum(0, last-1, 1, last, 1))
	}
	is(t, "the last node", last, len(b.Nodes)-1)
	is(t, "the sort of its term", logic.Sort(b.Form(last)), api.Int)
	is(t, "the sort of its sum", logic.Sort(b.Sum(sum(1, last, 2))), api.Int)
	b = bank.New()
	f := x
	for range 14 {
		f = of(logic.Mul, f, of(logic.Add, f, num(1)))
	}
	b.Int(f)
	is(t, "the number of nodes", len(b.Nodes), 1+2*14)
}

// The term of a long sum isn't nested deeply.
func TestWideSums(t *testing.T) {
	const many = 200000
	b := bank.New()
	var l bank.Lin
	for i := range many {
		n := b.Node(b.Int(logic.Var(strconv.Itoa(i), api.Int)))
		l.Nodes, l.Coefs = append(l.Nodes, n), append(l.Coefs, whole.Of(i+1))
	}
	f := b.Sum(l)
	is(t, "Size", logic.Size(f), many+many-1+many-1)
	is(t, "not many levels", depth(f) < 30, true)
	again := b.Int(f)
	is(t, "Int", again, l)
	is(t, "Plus", bank.Plus(l, l), bank.Times(whole.Of(2), l))
	is(t, "Tight", bank.Tight(bank.Plus(l, l)), bank.Times(whole.Of(1), l))
	is(t, "Node", b.Node(l), many)
	is(t, "Node", b.Node(again), many)
}

// depth returns the number of levels of f.
func depth(f logic.Form) int {
	most := 0
	for _, kid := range f.Kids {
		most = max(most, depth(kid))
	}
	return most + 1
}

// cloned returns f in memory of its own.
func cloned(f logic.Form) logic.Form {
	f.Num.Abs = slices.Clone(f.Num.Abs)
	f.Kids = slices.Clone(f.Kids)
	for i := range f.Kids {
		f.Kids[i] = cloned(f.Kids[i])
	}
	return f
}

// clonedLin returns l in memory of its own.
func clonedLin(l bank.Lin) bank.Lin {
	l.Const.Abs, l.Nodes, l.Coefs = slices.Clone(l.Const.Abs), slices.Clone(l.Nodes), slices.Clone(l.Coefs)
	for i := range l.Coefs {
		l.Coefs[i].Abs = slices.Clone(l.Coefs[i].Abs)
	}
	return l
}

func TestArgumentsStay(t *testing.T) {
	samples(t, 1500, func(m maker, f logic.Form) {
		before := cloned(f)
		b := bank.New()
		i := add(b, f)
		is(t, "the argument", f, before)
		again := bank.New()
		is(t, "the same node", add(again, before), i)
		is(t, "the same bank", again, b)
		is(t, "Form", b.Form(i), again.Form(i))
		for range 3 {
			l, r := m.lin(len(b.Nodes)), m.lin(4)
			l0, r0 := clonedLin(l), clonedLin(r)
			b.Sum(l)
			b.Node(l)
			bank.Plus(l, r)
			bank.Times(whole.Of(3), l)
			bank.Tight(l)
			bank.Text(l)
			is(t, "the first sum", l, l0)
			is(t, "the second sum", r, r0)
		}
	})
}

// spoilLin overwrites a sum.
func spoilLin(l bank.Lin) {
	for _, n := range append(slices.Clone(l.Coefs), l.Const) {
		for k := range n.Abs {
			n.Abs[k] = 0xDEADBEEF
		}
	}
	for k := range l.Coefs {
		l.Coefs[k], l.Nodes[k] = whole.Of(77), 99
	}
}

// Sums are the caller's: neither those that are passed nor those that are returned are kept.
func TestSumsAreNotKept(t *testing.T) {
	samples(t, 1000, func(m maker, f logic.Form) {
		if logic.Sort(f) != api.Int {
			return
		}
		b := bank.New()
		l := b.Int(f)
		i := b.Node(l)
		form, sum := b.Form(i), b.Sum(l)
		nodes, texts := shownNodes(b), logic.Text(form)+logic.Text(sum)
		spoilLin(l)
		is(t, "the nodes", shownNodes(b), nodes)
		is(t, "the terms", logic.Text(form)+logic.Text(sum), texts)
		is(t, "the node", b.Node(b.Int(f)), i)
	})
	m := newMaker()
	for range 1000 {
		a, b := m.lin(4), m.lin(4)
		all := []bank.Lin{bank.Plus(a, b), bank.Plus(a, sum(0)), bank.Times(whole.Of(1), a), bank.Tight(a), bank.Plus(sum(0), b)}
		a0, b0, want := shownLin(a), shownLin(b), ""
		for _, l := range all[1:] {
			want += shownLin(l) + ";"
		}
		spoilLin(all[0])
		got := ""
		for _, l := range all[1:] {
			got += shownLin(l) + ";"
		}
		is(t, "other results", got, want)
		for _, l := range all {
			spoilLin(l)
		}
		is(t, "the arguments", shownLin(a)+" "+shownLin(b), a0+" "+b0)
	}
}

// Forms may share parts, but appending to the Kids of one changes no other.
func TestKidsEndWithTheirSlice(t *testing.T) {
	var check func(t *testing.T, f logic.Form)
	check = func(t *testing.T, f logic.Form) {
		is(t, "the capacity", cap(f.Kids), len(f.Kids))
		for _, kid := range f.Kids {
			check(t, kid)
		}
	}
	samples(t, 500, func(m maker, f logic.Form) {
		b := bank.New()
		add(b, f)
		for i := range b.Nodes {
			check(t, b.Form(i))
		}
	})
}
