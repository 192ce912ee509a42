package whole_test

// P2.2: the laws of arithmetic, checked by the package's own calls alone.

import (
	"strings"
	"testing"

	"litmus/whole"
)

func TestLawsOfSums(t *testing.T) {
	samples(t, 4, func(a, b, c whole.Int) {
		sum := whole.Add(a, b)
		is(t, "a + b = b + a", whole.Add(b, a), sum)
		is(t, "(a + b) + c = a + (b + c)", whole.Add(sum, c), whole.Add(a, whole.Add(b, c)))
		is(t, "a + 0 = a", whole.Add(a, whole.Of(0)), canon(a))
		is(t, "-(a + b) = -a + -b", whole.Neg(sum), whole.Add(whole.Neg(a), whole.Neg(b)))
	})
}

func TestLawsOfDifferences(t *testing.T) {
	samples(t, 4, func(a, b, c whole.Int) {
		rest := whole.Sub(a, b)
		is(t, "(a + b) - b = a", whole.Sub(whole.Add(a, b), b), canon(a))
		is(t, "(a - b) + b = a", whole.Add(rest, b), canon(a))
		is(t, "a - b = -(b - a)", rest, whole.Neg(whole.Sub(b, a)))
		is(t, "a - b = a + -b", rest, whole.Add(a, whole.Neg(b)))
		is(t, "(a - b) - c = a - (b + c)", whole.Sub(rest, c), whole.Sub(a, whole.Add(b, c)))
		is(t, "a - a = 0", whole.Sub(a, a), whole.Of(0))
		is(t, "a + -a = 0", whole.Add(a, whole.Neg(a)), whole.Of(0))
		is(t, "-(-a) = a", whole.Neg(whole.Neg(a)), canon(a))
		if whole.Sign(rest) != whole.Cmp(a, b) {
			t.Errorf("the sign of %v - %v isn't their order", a, b)
		}
	})
}

func TestLawsOfProducts(t *testing.T) {
	samples(t, 4, func(a, b, c whole.Int) {
		product := whole.Mul(a, b)
		is(t, "a b = b a", whole.Mul(b, a), product)
		is(t, "(a b) c = a (b c)", whole.Mul(product, c), whole.Mul(a, whole.Mul(b, c)))
		is(t, "a (b + c) = a b + a c", whole.Mul(a, whole.Add(b, c)), whole.Add(product, whole.Mul(a, c)))
		is(t, "a (b - c) = a b - a c", whole.Mul(a, whole.Sub(b, c)), whole.Sub(product, whole.Mul(a, c)))
		is(t, "a 1 = a", whole.Mul(a, whole.Of(1)), canon(a))
		is(t, "a -1 = -a", whole.Mul(a, whole.Of(-1)), whole.Neg(a))
		is(t, "a 0 = 0", whole.Mul(a, whole.Of(0)), whole.Of(0))
		if whole.Sign(product) != whole.Sign(a)*whole.Sign(b) {
			t.Errorf("the sign of %v times %v isn't their signs' product", a, b)
		}
	})
}

func TestDividendIsRestored(t *testing.T) {
	samples(t, 4, func(a, b, c whole.Int) {
		if whole.Sign(b) == 0 {
			return
		}
		q, r, ok := whole.Div(a, b)
		is(t, "b q + r = a", whole.Add(whole.Mul(b, q), r), canon(a))
		abs := whole.Big(false, b.Abs)
		if !ok || whole.Sign(r) == -whole.Sign(b) || whole.Cmp(whole.Big(false, r.Abs), abs) >= 0 {
			t.Errorf("Div(%v, %v): %v isn't a remainder", a, b, r)
		}
		q, r, _ = whole.Div(whole.Mul(c, b), b)
		is(t, "(c b) / b = c", q, canon(c))
		is(t, "(c b) % b = 0", r, whole.Of(0))
	})
}

func TestHalvesAddUp(t *testing.T) {
	samples(t, 4, func(a, _, _ whole.Int) {
		half := whole.Half(a)
		rest := whole.Sub(a, whole.Add(half, half))
		if n, ok := whole.Small(rest); !ok || n != 0 && n != whole.Sign(a) {
			t.Errorf("Half(%v): %v is left", a, rest)
		}
	})
}

func TestParseUndoesText(t *testing.T) {
	samples(t, 30, func(a, _, _ whole.Int) {
		got, ok := whole.Parse(whole.Text(a))
		is(t, "Parse(Text(a))", got, canon(a))
		if !ok {
			t.Errorf("Parse(Text(%v)): got false", a)
		}
	})
	longest := "-" + strings.Repeat("9", 300)
	if a, _ := whole.Parse(longest); whole.Text(a) != longest {
		t.Errorf("got %q", whole.Text(a))
	}
}
