package bank_test

// P12.1: copies of banks.

import (
	"slices"
	"testing"

	"litmus/bank"
	"litmus/logic"
	"litmus/whole"
)

// What is stored in one of two copies isn't in the other one.
func TestCopiesAreIndependent(t *testing.T) {
	b := bank.New()
	b.Int(read(t, "(x + 1) / 2"))
	const old = `IVar "x", Def = 1 1*n0, Quo 2 n1`
	c := b.Copy()
	haveNodes(t, "the copy", c, old)
	is(t, "y in the first one", b.Node(b.Int(y)), 3)
	haveNodes(t, "the first one", b, old+`, IVar "y"`)
	haveNodes(t, "the copy", c, old)
	is(t, "l in the copy", c.List(l), 3)
	is(t, "y in the copy", c.Node(c.Int(y)), 4)
	is(t, "l in the first one", b.List(l), 4)
	is(t, "x + 1 in the copy", c.Node(c.Int(read(t, "x + 1"))), 1)
	haveNodes(t, "the first one", b, old+`, IVar "y", LVar "l"`)
	haveNodes(t, "the copy", c, old+`, LVar "l", IVar "y"`)
	is(t, "Form of the first one", logic.Text(b.Form(3)), logic.Text(y))
	is(t, "Form of the copy", logic.Text(c.Form(3)), logic.Text(l))
	is(t, "Sum of the copy", logic.Text(c.Sum(sum(0, 4, 1))), logic.Text(y))
}

func TestCopyOfAnEmptyBank(t *testing.T) {
	b := bank.New()
	c := b.Copy()
	haveNodes(t, "the copy", c, "")
	c.List(void)
	haveNodes(t, "the copy", c, "Nil")
	haveNodes(t, "the first one", b, "")
	b.Int(x)
	haveNodes(t, "the copy", c, "Nil")
	haveNodes(t, "the first one", b, `IVar "x"`)
}

// Banks and their copies do the same, whatever is stored in which order before and after.
func TestRandomCopies(t *testing.T) {
	b, c := bank.New(), bank.New()
	samples(t, 1500, func(m maker, f logic.Form) {
		if len(b.Nodes) > 100 {
			b = bank.New()
		}
		before := shownNodes(b)
		c = b.Copy()
		is(t, "the copy", c, b)
		i := add(c, f)
		is(t, "the first one", shownNodes(b), before)
		is(t, "the node", add(b, f), i)
		is(t, "the copy", c, b)
		is(t, "Form", logic.Text(c.Form(i)), logic.Text(b.Form(i)))
	})
}

// spoil overwrites all numbers in the nodes of b.
func spoil(b *bank.Bank) {
	for i := range b.Nodes {
		n := &b.Nodes[i]
		for _, number := range slices.Concat([]whole.Int{n.Num, n.Lin.Const}, n.Lin.Coefs) {
			for k := range number.Abs {
				number.Abs[k] = 0xDEADBEEF
			}
		}
		for k := range n.Lin.Coefs {
			n.Lin.Coefs[k], n.Lin.Nodes[k] = whole.Of(77), 99
		}
		for k := range n.Args {
			n.Args[k] = 99
		}
		n.Op, n.Name = bank.Nil, "spoilt"
	}
}

func TestCopiesShareNoNodes(t *testing.T) {
	samples(t, 500, func(m maker, f logic.Form) {
		b := bank.New()
		i := add(b, f)
		c := b.Copy()
		want, form := shownNodes(b), logic.Text(b.Form(i))
		spoil(b)
		is(t, "the nodes of the copy", shownNodes(c), want)
		is(t, "Form", logic.Text(c.Form(i)), form)
		is(t, "the node", add(c, f), i)
	})
}
