package bank_test

// P12.1: the nodes and the sums of terms.

import (
	"slices"
	"strconv"
	"strings"
	"testing"

	"litmus/api"
	"litmus/bank"
	"litmus/logic"
	"litmus/nat"
	"litmus/whole"
)

func TestOpsInOrder(t *testing.T) {
	is(t, "the ops", []bank.Op{bank.IVar, bank.Mul, bank.Quo, bank.Len, bank.Hd, bank.Def, bank.LVar, bank.Nil, bank.Cons, bank.Tl}, []bank.Op{0, 1, 2, 3, 4, 5, 6, 7, 8, 9})
}

func TestNewHasNoNodes(t *testing.T) {
	is(t, "the nodes", len(bank.New().Nodes), 0)
	b := bank.New()
	b.Int(x)
	is(t, "the nodes of another one", len(bank.New().Nodes), 0)
	is(t, "the nodes", len(b.Nodes), 1)
}

// Each term in a bank of its own.
func TestSumsOfInts(t *testing.T) {
	for _, c := range []struct{ term, sum, nodes string }{
		{"7", "7", ""}, {"0", "0", ""}, {"-5", "-5", ""}, {"2 + 3", "5", ""}, {"2 * (3 - 7)", "-8", ""},
		{"x", "0 1*n0", `IVar "x"`}, {"x + 1", "1 1*n0", `IVar "x"`}, {"2 * x + 3 * x + 1", "1 5*n0", `IVar "x"`}, {"-x", "0 -1*n0", `IVar "x"`},
		{"x + y", "0 1*n0 1*n1", `IVar "x", IVar "y"`}, {"y + x", "0 1*n0 1*n1", `IVar "y", IVar "x"`}, {"x - y", "0 1*n0 -1*n1", `IVar "x", IVar "y"`}, {"y - 3 * (x - y) - 4", "-4 4*n0 -3*n1", `IVar "y", IVar "x"`},
		{"x - x", "0", `IVar "x"`}, {"x - y + (y - x) + 3", "3", `IVar "x", IVar "y"`}, {"x + y - x", "0 1*n1", `IVar "x", IVar "y"`}, {"0 * x", "0", `IVar "x"`}, {"0 * (x * y + 1) + y", "0 1*n1", `IVar "x", IVar "y", Mul n0 n1`},
		{"x * y", "0 1*n2", `IVar "x", IVar "y", Mul n0 n1`}, {"x * x", "0 1*n1", `IVar "x", Mul n0 n0`}, {"3 * (x * y) - x", "0 -1*n0 3*n2", `IVar "x", IVar "y", Mul n0 n1`}, {"y * x + x * y", "0 1*n2 1*n3", `IVar "y", IVar "x", Mul n0 n1, Mul n1 n0`},
		{"x / 2", "0 1*n1", `IVar "x", Quo 2 n0`}, {"x / 1", "0 1*n1", `IVar "x", Quo 1 n0`}, {"x / 2 + x / 3 + x / 2", "0 2*n1 1*n2", `IVar "x", Quo 2 n0, Quo 3 n0`},
		{"len l", "0 1*n1", `LVar "l", Len n0`}, {"hd l", "0 1*n1", `LVar "l", Hd n0`}, {"len l + hd l - len l", "0 1*n2", `LVar "l", Len n0, Hd n0`}, {"len []", "0 1*n1", `Nil, Len n0`}, {"hd (tl l)", "0 1*n2", `LVar "l", Tl n0, Hd n1`},
		{"hd (x :: l)", "0 1*n3", `IVar "x", LVar "l", Cons n0 n1, Hd n2`}, {"len (x :: tl l) + x", "0 1*n0 1*n4", `IVar "x", LVar "l", Tl n1, Cons n0 n2, Len n3`},
	} {
		b := bank.New()
		isLin(t, c.term, b.Int(read(t, c.term)), c.sum)
		haveNodes(t, c.term, b, c.nodes)
	}
}

// Numbers are sums without nodes: what is done with them isn't calculated.
func TestTermsOfNumbers(t *testing.T) {
	b := bank.New()
	isLin(t, "7 / 2", b.Int(with(logic.Quo, 2, num(7))), "0 1*n1")
	isLin(t, "7 * 7", b.Int(of(logic.Mul, num(7), num(7))), "0 1*n2")
	isLin(t, "7 * x", b.Int(of(logic.Mul, num(7), x)), "0 1*n4")
	isLin(t, "(2 - 2) / 1", b.Int(with(logic.Quo, 1, of(logic.Add, num(2), num(-2)))), "0 1*n6")
	haveNodes(t, "numbers", b, `Def = 7, Quo 2 n0, Mul n0 n0, IVar "x", Mul n0 n3, Def = 0, Quo 1 n5`)
}

// An argument that isn't a single node, once, is a Def: created after its parts, and before
// the next argument.
func TestDefs(t *testing.T) {
	for _, c := range []struct{ term, nodes string }{
		{"(x + 1) * y", `IVar "x", Def = 1 1*n0, IVar "y", Mul n1 n2`},
		{"(x + 1) * (y + 1)", `IVar "x", Def = 1 1*n0, IVar "y", Def = 1 1*n2, Mul n1 n3`},
		{"(x + y) * (y + x)", `IVar "x", IVar "y", Def = 0 1*n0 1*n1, Mul n2 n2`},
		{"(x + x) * (x - x)", `IVar "x", Def = 0 2*n0, Def = 0, Mul n1 n2`},
		{"(y + x - y) * (3 * x - 2 * x)", `IVar "y", IVar "x", Mul n1 n1`},
		{"(-x) / 2", `IVar "x", Def = 0 -1*n0, Quo 2 n1`},
		{"(x + 0) / 2", `IVar "x", Quo 2 n0`},
		{"(x / 2 + 1) / 2", `IVar "x", Quo 2 n0, Def = 1 1*n1, Quo 2 n2`},
		{"len (1 :: 2 :: 1 :: [])", `Def = 1, Def = 2, Nil, Cons n0 n2, Cons n1 n3, Cons n0 n4, Len n5`},
		{"hd (x + 1 :: l) * hd (1 + x :: l)", `IVar "x", Def = 1 1*n0, LVar "l", Cons n1 n2, Hd n3, Mul n4 n4`},
		{"hd (x * y + x / 2 :: [])", `IVar "x", IVar "y", Mul n0 n1, Quo 2 n0, Def = 0 1*n2 1*n3, Nil, Cons n4 n5, Hd n6`},
	} {
		b := bank.New()
		b.Int(read(t, c.term))
		haveNodes(t, c.term, b, c.nodes)
	}
}

func TestNodesOfLists(t *testing.T) {
	for _, c := range []struct {
		term  string
		node  int
		nodes string
	}{
		{"[]", 0, "Nil"}, {"l", 0, `LVar "l"`}, {"tl l", 1, `LVar "l", Tl n0`}, {"tl (tl l)", 2, `LVar "l", Tl n0, Tl n1`},
		{"x :: l", 2, `IVar "x", LVar "l", Cons n0 n1`}, {"3 :: []", 2, `Def = 3, Nil, Cons n0 n1`}, {"x + 1 :: l", 3, `IVar "x", Def = 1 1*n0, LVar "l", Cons n1 n2`},
		{"hd l :: tl l", 3, `LVar "l", Hd n0, Tl n0, Cons n1 n2`}, {"tl (x :: l)", 3, `IVar "x", LVar "l", Cons n0 n1, Tl n2`}, {"len l :: l", 2, `LVar "l", Len n0, Cons n1 n0`},
	} {
		b := bank.New()
		is(t, c.term, b.List(read(t, c.term)), c.node)
		haveNodes(t, c.term, b, c.nodes)
	}
}

// Terms share nodes with those that were stored before.
func TestOneBank(t *testing.T) {
	b := bank.New()
	isLin(t, "x", b.Int(x), "0 1*n0")
	is(t, "l", b.List(l), 1)
	isLin(t, "y", b.Int(y), "0 1*n2")
	isLin(t, "len l", b.Int(read(t, "len l")), "0 1*n3")
	isLin(t, "y - x", b.Int(read(t, "y - x")), "0 -1*n0 1*n2")
	is(t, "y - x :: l", b.List(read(t, "y - x :: l")), 5)
	is(t, "y - x :: l again", b.List(read(t, "y + 2 * x - 3 * x :: l")), 5)
	isLin(t, "hd l - (y - x) * y", b.Int(read(t, "hd l - (y - x) * y")), "0 1*n6 -1*n7")
	haveNodes(t, "one bank", b, `IVar "x", LVar "l", IVar "y", Len n1, Def = 0 -1*n0 1*n2, Cons n4 n1, Hd n1, Mul n4 n2`)
}

// Node finds the node that a sum is, or its Def, which it creates.
func TestNodesOfSums(t *testing.T) {
	b := bank.New()
	b.Int(read(t, "x + y + hd l"))
	for _, c := range []struct {
		l    bank.Lin
		want int
	}{
		{sum(0, 0, 1), 0}, {sum(0, 1, 1), 1}, {sum(0, 3, 1), 3},
		{sum(1, 0, 1), 4}, {sum(0, 0, 2), 5}, {sum(0, 0, -1), 6}, {sum(0), 7}, {sum(1), 8}, {sum(0, 0, 1, 1, 1), 9}, {sum(0, 0, 1, 1, 2), 10}, {sum(0, 0, 2, 1, 1), 11}, {sum(-1, 0, 1), 12}, {sum(0, 0, 1, 3, 1), 13},
		{sum(1, 0, 1), 4}, {sum(0), 7}, {sum(0, 0, 1, 1, 2), 10}, {sum(0, 4, 1), 4}, {sum(0, 7, 1), 7}, {sum(0, 4, 2), 14}, {sum(3, 0, 1, 4, 1), 15}, {sum(0, 0, 1), 0},
	} {
		is(t, "Node of "+shownLin(c.l), b.Node(c.l), c.want)
	}
	haveNodes(t, "Node", b, `IVar "x", IVar "y", LVar "l", Hd n2, Def = 1 1*n0, Def = 0 2*n0, Def = 0 -1*n0, Def = 0, Def = 1, Def = 0 1*n0 1*n1, Def = 0 1*n0 2*n1, Def = 0 2*n0 1*n1, Def = -1 1*n0, Def = 0 1*n0 1*n3, Def = 0 2*n4, Def = 3 1*n0 1*n4`)
}

// A term's Def is the one that Node has made of its sum, and the other way round.
func TestNodeAndTermsAgree(t *testing.T) {
	b := bank.New()
	up := b.Int(read(t, "x + 1"))
	is(t, "Node", b.Node(up), 1)
	b.Int(read(t, "(1 + x) / 2"))
	haveNodes(t, "Node first", b, `IVar "x", Def = 1 1*n0, Quo 2 n1`)
	b = bank.New()
	b.Int(read(t, "(1 + x) / 2"))
	is(t, "Node", b.Node(b.Int(read(t, "x + 1"))), 1)
	haveNodes(t, "Node last", b, `IVar "x", Def = 1 1*n0, Quo 2 n1`)
}

// Numbers in any form may be passed; those of nodes are canonical.
func TestNodeOfOtherNumbers(t *testing.T) {
	odd := func(neg bool, limbs ...uint32) whole.Int { return whole.Int{Neg: neg, Abs: append(limbs, 0, 0)} }
	b := bank.New()
	b.Int(x)
	is(t, "x", b.Node(bank.Lin{Const: odd(true), Nodes: []int{0}, Coefs: []whole.Int{odd(false, 1)}}), 0)
	is(t, "0", b.Node(bank.Lin{Const: odd(true)}), 1)
	is(t, "0", b.Node(sum(0)), 1)
	is(t, "-7 - 2 x", b.Node(bank.Lin{Const: odd(true, 7), Nodes: []int{0}, Coefs: []whole.Int{odd(true, 2)}}), 2)
	is(t, "-7 - 2 x", b.Node(sum(-7, 0, -2)), 2)
	haveNodes(t, "Node", b, `IVar "x", Def = 0, Def = -7 -2*n0`)
	for _, n := range b.Nodes {
		isLin(t, "the sum of a node", n.Lin, shownLin(n.Lin))
	}
}

// A Name may be any text, and ints and lists may have the same ones.
func TestNames(t *testing.T) {
	b := bank.New()
	all := []string{"", "x", "X", "xx", "0", ":", "x:", ":x", "0:", "0:0:", "0:0:x", ",", "é", "\x00", "\xFF", "0:0:0:x", "\n", `"`}
	for i, name := range slices.Concat(all, all) {
		is(t, "the node of "+strconv.Quote(name), b.Node(b.Int(logic.Var(name, api.Int))), i%len(all))
	}
	for i, name := range slices.Concat(all, all) {
		is(t, "the node of "+strconv.Quote(name), b.List(logic.Var(name, api.List)), len(all)+i%len(all))
	}
	for i, n := range b.Nodes {
		is(t, "Name", n.Name, all[i%len(all)])
	}
}

func TestBigNumbers(t *testing.T) {
	n := whole.Big(true, nat.Nat{0, 0, 0, 1})
	scaled := logic.Form{Op: logic.Scale, Num: n, Kids: []logic.Form{of(logic.Add, x, logic.Form{Op: logic.Num, Num: n})}}
	b := bank.New()
	is(t, "Node", b.Node(b.Int(scaled)), 1)
	q := logic.Form{Op: logic.Quo, Num: whole.Neg(n), Kids: []logic.Form{scaled}}
	isLin(t, "Int", b.Int(q), "0 1*n2")
	haveNodes(t, "big numbers", b, `IVar "x", Def = 6277101735386680763835789423207666416102355444464034512896 -79228162514264337593543950336*n0, Quo 79228162514264337593543950336 n1`)
}

// What an Op doesn't need, a valid form may still have: it doesn't count.
func TestFieldsWithoutMeaning(t *testing.T) {
	var junk func(f logic.Form) logic.Form
	junk = func(f logic.Form) logic.Form {
		switch f.Op {
		case logic.IVar, logic.LVar:
			f.Num = whole.Of(-7)
		case logic.Num, logic.Scale, logic.Quo:
			f.Name = "junk"
		default:
			f.Num, f.Name = whole.Of(9), "x"
		}
		f.Kids = slices.Clone(f.Kids)
		for i := range f.Kids {
			f.Kids[i] = junk(f.Kids[i])
		}
		return f
	}
	b, count := bank.New(), 0
	samples(t, 500, func(m maker, f logic.Form) {
		i := add(b, f)
		count = len(b.Nodes)
		is(t, "the same node", add(b, junk(f)), i)
		is(t, "no other node", len(b.Nodes), count)
		clean, dirty := bank.New(), bank.New()
		add(clean, f)
		add(dirty, junk(f))
		is(t, "the nodes", shownNodes(dirty), shownNodes(clean))
	})
}

func TestIsList(t *testing.T) {
	for op, name := range opNames {
		want := slices.Contains(strings.Fields("LVar Nil Cons Tl"), name)
		is(t, "IsList of "+name, bank.Node{Op: bank.Op(op)}.IsList(), want)
	}
}

// Many terms, in one bank or in a new one, are stored as the chapter says.
func TestRandomTerms(t *testing.T) {
	one, wanted := bank.New(), &oracle{}
	ops := map[bank.Op]int{}
	samples(t, 3000, func(m maker, f logic.Form) {
		if len(one.Nodes) > 300 {
			one, wanted = bank.New(), &oracle{}
		}
		stored(t, one, wanted, f)
		stored(t, bank.New(), &oracle{}, f)
		for _, n := range one.Nodes {
			ops[n.Op]++
		}
	})
	for op, name := range opNames {
		if ops[bank.Op(op)] < 1000 {
			t.Errorf("too few nodes: %s", name)
		}
	}
}

// stored stores f in b, and fails unless that does what it does in the oracle.
func stored(t *testing.T, b *bank.Bank, o *oracle, f logic.Form) {
	t.Helper()
	if logic.Sort(f) == api.List {
		is(t, "List", b.List(f), o.of(f))
	} else {
		isLin(t, "Int", b.Int(f), o.sum(f).shown())
		is(t, "the nodes of the sum", shownNodes(b), o.nodes)
		is(t, "Node", b.Node(b.Int(f)), o.of(f))
	}
	is(t, "the nodes", shownNodes(b), o.nodes)
	for i, n := range b.Nodes {
		for _, arg := range slices.Concat(n.Args, n.Lin.Nodes) {
			is(t, "a lower number", 0 <= arg && arg < i, true)
		}
		is(t, "ascending", slices.IsSorted(n.Lin.Nodes), true)
	}
}
