package bank

import (
	"maps"
	"slices"
	"strconv"
	"strings"

	"litmus/whole"
)

// Plus returns the sum of a and b.
func Plus(a, b Lin) Lin {
	t := newTally()
	t.sum(a, whole.Of(1))
	t.sum(b, whole.Of(1))
	return t.lin()
}

// Times returns n times a.
func Times(n whole.Int, a Lin) Lin {
	t := newTally()
	t.sum(a, n)
	return t.lin()
}

// Tight returns a sum that, for integers, is at most 0 exactly if l is, with coefficients
// that have no common divisor.
func Tight(l Lin) Lin {
	l = l.tidy()
	var g whole.Int
	for _, c := range l.Coefs {
		g = whole.Gcd(g, c)
	}
	if whole.Sign(g) == 0 {
		return l
	}
	for i, c := range l.Coefs {
		l.Coefs[i], _, _ = whole.Div(c, g)
	}
	l.Const = up(l.Const, g)
	return l
}

// up returns a / b, rounded up.
func up(a, b whole.Int) whole.Int {
	quotient, _, _ := whole.Div(whole.Neg(a), b)
	return whole.Neg(quotient)
}

// Text returns a text that no other sum has.
func Text(l Lin) string {
	var w strings.Builder
	w.WriteString(whole.Text(l.Const))
	for i := range l.size() {
		w.WriteString(" " + whole.Text(l.Coefs[i]) + "*" + strconv.Itoa(l.Nodes[i]))
	}
	return w.String()
}

// size returns the number of l's nodes that have a coefficient.
func (l Lin) size() int {
	return min(len(l.Nodes), len(l.Coefs))
}

// tidy returns l in memory of its own, with numbers in canonical form.
func (l Lin) tidy() Lin {
	return Times(whole.Of(1), l)
}

// single returns the node that l consists of, and whether there is one.
func (l Lin) single() (int, bool) {
	if len(l.Nodes) != 1 || whole.Sign(l.Const) != 0 || whole.Cmp(l.Coefs[0], whole.Of(1)) != 0 {
		return 0, false
	}
	return l.Nodes[0], true
}

// A tally is a sum in the making. A long sum made by adding one node after another to
// slices would take up the square of its length in time.
type tally struct {
	num   whole.Int
	coefs map[int]whole.Int // by nodes; they may be 0
}

// newTally returns the sum 0.
func newTally() *tally {
	return &tally{coefs: map[int]whole.Int{}}
}

// number adds n, k times.
func (t *tally) number(n, k whole.Int) {
	t.num = whole.Add(t.num, whole.Mul(k, n))
}

// node adds a node, k times.
func (t *tally) node(n int, k whole.Int) {
	t.coefs[n] = whole.Add(t.coefs[n], k)
}

// sum adds l, k times.
func (t *tally) sum(l Lin, k whole.Int) {
	t.number(l.Const, k)
	for i := range l.size() {
		t.node(l.Nodes[i], whole.Mul(k, l.Coefs[i]))
	}
}

// lin returns the sum.
func (t *tally) lin() Lin {
	l := Lin{Const: t.num}
	for _, n := range slices.Sorted(maps.Keys(t.coefs)) {
		if c := t.coefs[n]; whole.Sign(c) != 0 {
			l.Nodes = append(l.Nodes, n)
			l.Coefs = append(l.Coefs, c)
		}
	}
	return l
}
