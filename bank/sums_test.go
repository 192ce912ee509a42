package bank_test

// P12.1: sums of sums, their multiples, their tight ones and their texts.

import (
	"math/big"
	"slices"
	"testing"

	"litmus/bank"
	"litmus/nat"
	"litmus/whole"
)

func TestPlus(t *testing.T) {
	for _, c := range []struct {
		a, b bank.Lin
		want string
	}{
		{sum(0), sum(0), "0"}, {sum(2), sum(-5), "-3"}, {sum(0, 3, 1), sum(0), "0 1*n3"}, {sum(4), sum(0, 3, 1), "4 1*n3"},
		{sum(0, 3, 1), sum(0, 1, 2), "0 2*n1 1*n3"}, {sum(0, 1, 2), sum(0, 3, 1), "0 2*n1 1*n3"}, {sum(0, 3, 1), sum(0, 3, 1), "0 2*n3"}, {sum(0, 3, 1), sum(0, 3, -1), "0"}, {sum(1, 3, 1), sum(1, 3, -1), "2"}, {sum(0, 3, 5), sum(0, 3, -4), "0 1*n3"},
		{sum(1, 0, 1, 2, 2, 4, 3), sum(-1, 1, 7, 2, -2, 9, 5), "0 1*n0 7*n1 3*n4 5*n9"}, {sum(1, 10, 1), sum(1, 9, 1, 11, 1), "2 1*n9 1*n10 1*n11"}, {sum(0, 100, 1, 1000000, 1), sum(0, 99, 1, 1000000, 1), "0 1*n99 1*n100 2*n1000000"},
	} {
		what := "Plus of " + shownLin(c.a) + " and " + shownLin(c.b)
		isLin(t, what, bank.Plus(c.a, c.b), c.want)
		isLin(t, what+" swapped", bank.Plus(c.b, c.a), c.want)
	}
}

func TestTimes(t *testing.T) {
	for _, c := range []struct {
		n    int
		a    bank.Lin
		want string
	}{
		{0, sum(5, 1, 2), "0"}, {0, sum(0), "0"}, {1, sum(5, 1, 2), "5 2*n1"}, {-1, sum(5, 1, 2, 2, -3), "-5 -2*n1 3*n2"}, {3, sum(-4, 0, 1, 7, -1), "-12 3*n0 -3*n7"}, {-2, sum(0), "0"}, {7, sum(-1), "-7"},
	} {
		isLin(t, "Times of "+shownLin(c.a), bank.Times(whole.Of(c.n), c.a), c.want)
	}
}

func TestTight(t *testing.T) {
	for _, c := range []struct {
		l    bank.Lin
		want string
	}{
		{sum(-6, 0, 4), "-1 1*n0"}, {sum(6, 0, 4), "2 1*n0"}, {sum(-8, 0, 4), "-2 1*n0"}, {sum(8, 0, 4), "2 1*n0"}, {sum(0, 0, 4), "0 1*n0"}, {sum(-1, 0, 4), "0 1*n0"}, {sum(1, 0, 4), "1 1*n0"}, {sum(-3, 0, 4), "0 1*n0"}, {sum(3, 0, 4), "1 1*n0"}, {sum(-4, 0, 4), "-1 1*n0"}, {sum(4, 0, 4), "1 1*n0"}, {sum(-5, 0, 4), "-1 1*n0"}, {sum(5, 0, 4), "2 1*n0"},
		{sum(-6, 0, -4), "-1 -1*n0"}, {sum(6, 0, -4), "2 -1*n0"}, {sum(7, 0, -1), "7 -1*n0"}, {sum(7, 0, 1), "7 1*n0"},
		{sum(7, 0, 4, 3, 6), "4 2*n0 3*n3"}, {sum(-7, 0, 4, 3, -6), "-3 2*n0 -3*n3"}, {sum(-7, 0, -4, 3, -6), "-3 -2*n0 -3*n3"}, {sum(5, 0, 4, 3, 7), "5 4*n0 7*n3"}, {sum(4, 1, 6, 2, 10, 3, 15), "4 6*n1 10*n2 15*n3"}, {sum(-31, 1, 12, 2, -18, 3, 30), "-5 2*n1 -3*n2 5*n3"},
		{sum(0), "0"}, {sum(-6), "-6"}, {sum(6), "6"},
	} {
		isLin(t, "Tight of "+shownLin(c.l), bank.Tight(c.l), c.want)
	}
}

// Numbers in any form may be passed.
func TestSumsOfOtherNumbers(t *testing.T) {
	odd := bank.Lin{Const: whole.Int{Neg: true, Abs: nat.Nat{6, 0}}, Nodes: []int{2}, Coefs: []whole.Int{{Abs: nat.Nat{4, 0, 0}}}}
	zero := bank.Lin{Const: whole.Int{Neg: true, Abs: nat.Nat{0, 0}}}
	isLin(t, "Plus", bank.Plus(odd, zero), "-6 4*n2")
	isLin(t, "Plus", bank.Plus(zero, zero), "0")
	isLin(t, "Times", bank.Times(whole.Int{Abs: nat.Nat{3, 0}}, odd), "-18 12*n2")
	isLin(t, "Times by 0", bank.Times(whole.Int{Neg: true, Abs: nat.Nat{0}}, odd), "0")
	isLin(t, "Tight", bank.Tight(odd), "-1 1*n2")
	isLin(t, "Tight", bank.Tight(zero), "0")
	is(t, "Text", bank.Text(odd), bank.Text(sum(-6, 2, 4)))
	is(t, "Text", bank.Text(zero), bank.Text(sum(0)))
}

// at returns the value of a sum, where nodes have values.
func at(l bank.Lin, values []*big.Int) *big.Int {
	v := toBig(l.Const)
	for i, n := range l.Nodes {
		v.Add(v, new(big.Int).Mul(toBig(l.Coefs[i]), values[n]))
	}
	return v
}

// Whatever values nodes have, those of sums are right.
func TestRandomSums(t *testing.T) {
	m := newMaker()
	differ := 0
	for range 5000 {
		a, b, n := m.lin(5), m.lin(5), m.number()
		var values []*big.Int
		for range 5 {
			values = append(values, toBig(m.number()))
		}
		plus, times, tight := bank.Plus(a, b), bank.Times(n, a), bank.Tight(a)
		is(t, "Plus", at(plus, values).String(), new(big.Int).Add(at(a, values), at(b, values)).String())
		is(t, "Times", at(times, values).String(), new(big.Int).Mul(toBig(n), at(a, values)).String())
		is(t, "Tight", at(tight, values).Sign() <= 0, at(a, values).Sign() <= 0)
		if shownLin(tight) != shownLin(a) {
			differ++
		}
		g := new(big.Int)
		for _, c := range tight.Coefs {
			g.GCD(nil, nil, g, new(big.Int).Abs(toBig(c)))
		}
		is(t, "no common divisor", len(tight.Nodes) == 0 || g.Cmp(big.NewInt(1)) == 0, true)
		is(t, "the nodes", tight.Nodes, a.Nodes)
		for _, l := range []bank.Lin{plus, times, tight} {
			isLin(t, "a sum", l, shownLin(l))
			is(t, "ascending", slices.IsSorted(l.Nodes), true)
			is(t, "no 0", slices.ContainsFunc(l.Coefs, func(c whole.Int) bool { return whole.Sign(c) == 0 }), false)
		}
		if t.Failed() {
			t.Fatalf("with %s, %s, %s", shownLin(a), shownLin(b), whole.Text(n))
		}
	}
	if differ < 300 {
		t.Errorf("too few sums that weren't tight: %d", differ)
	}
}

// Of sums that differ a little, each has a text of its own.
func TestTexts(t *testing.T) {
	all := []bank.Lin{
		sum(0), sum(1), sum(-1), sum(10), sum(11), sum(12), sum(0, 0, 1), sum(0, 1, 1), sum(0, 0, -1), sum(0, 1, -1), sum(0, 0, 2), sum(0, 2, 1), sum(0, 1, 2), sum(1, 0, 1), sum(1, 0, 2), sum(-1, 0, 1), sum(1, 2, 1), sum(2, 1, 1), sum(1, 1, 1), sum(11, 1, 1), sum(1, 11, 1), sum(1, 1, 11),
		sum(0, 12, 3), sum(0, 1, 23), sum(0, 1, 2, 3, 1), sum(0, 1, 1, 2, 1), sum(0, 1, 1, 2, 3), sum(0, 1, 3, 2, 1), sum(0, 1, -1, 2, 1), sum(0, 1, 1, 2, -1), sum(0, 1, 1, 3, 1), sum(0, 0, 1, 2, 1), sum(0, 0, 1, 1, 1, 2, 1), sum(1, 0, 1, 1, 1),
		{Const: whole.Big(false, nat.Nat{0, 1})}, {Const: whole.Big(true, nat.Nat{0, 1})}, {Const: whole.Big(false, nat.Nat{0, 0, 1})}, {Const: whole.Big(false, nat.Nat{1, 1})},
	}
	for i, a := range all {
		for k, b := range all {
			is(t, "the same text for "+shownLin(a)+" and "+shownLin(b), bank.Text(a) == bank.Text(b), i == k)
		}
	}
}

func TestRandomTexts(t *testing.T) {
	m := newMaker()
	texts, sums := map[string]string{}, map[string]string{}
	for range 20000 {
		l := m.lin(3)
		text, shown := bank.Text(l), shownLin(l)
		if old, ok := texts[text]; ok {
			is(t, "the sum with that text", shown, old)
		}
		if old, ok := sums[shown]; ok {
			is(t, "the text of that sum", text, old)
		}
		texts[text], sums[shown] = shown, text
	}
	if len(texts) < 1000 {
		t.Errorf("too few texts: %d", len(texts))
	}
}
