package nat_test

// P1.2: the laws of arithmetic, checked by the package's own calls alone.

import (
	"strings"
	"testing"

	"litmus/nat"
)

func TestLawsOfSums(t *testing.T) {
	samples(t, 5, func(a, b, c nat.Nat) {
		sum := nat.Add(a, b)
		is(t, "a + b = b + a", nat.Add(b, a), sum)
		is(t, "(a + b) + c = a + (b + c)", nat.Add(sum, c), nat.Add(a, nat.Add(b, c)))
		is(t, "a + 0 = a", nat.Add(a, nil), nat.Trim(a))
		rest, ok := nat.Sub(sum, b)
		is(t, "(a + b) - b = a", rest, nat.Trim(a))
		if !ok || nat.Cmp(sum, a) < 0 {
			t.Errorf("a + b is less than a part of it: %v, %v", a, b)
		}
	})
}

func TestLawsOfProducts(t *testing.T) {
	samples(t, 5, func(a, b, c nat.Nat) {
		product := nat.Mul(a, b)
		is(t, "a b = b a", nat.Mul(b, a), product)
		is(t, "(a b) c = a (b c)", nat.Mul(product, c), nat.Mul(a, nat.Mul(b, c)))
		is(t, "a (b + c) = a b + a c", nat.Mul(a, nat.Add(b, c)), nat.Add(product, nat.Mul(a, c)))
		is(t, "a 1 = a", nat.Mul(a, nat.Of(1)), nat.Trim(a))
		is(t, "a 0 = 0", nat.Mul(a, nil), nil)
		is(t, "a 2^70 = Shl(a, 70)", nat.Mul(a, nat.Shl(nat.Of(1), 70)), nat.Shl(a, 70))
	})
}

func TestDividendIsRestored(t *testing.T) {
	samples(t, 6, func(a, b, c nat.Nat) {
		if nat.Cmp(b, nil) == 0 {
			return
		}
		q, r, ok := nat.Div(a, b)
		is(t, "q b + r = a", nat.Add(nat.Mul(q, b), r), nat.Trim(a))
		if !ok || nat.Cmp(r, b) >= 0 {
			t.Errorf("the remainder %v isn't less than %v", r, b)
		}
		q, r, _ = nat.Div(nat.Mul(c, b), b)
		is(t, "(c b) / b = c", q, nat.Trim(c))
		is(t, "(c b) % b = 0", r, nil)
	})
}

func TestGcdDivides(t *testing.T) {
	samples(t, 4, func(a, b, _ nat.Nat) {
		g := nat.Gcd(a, b)
		is(t, "gcd(a, b) = gcd(b, a)", nat.Gcd(b, a), g)
		if nat.Cmp(g, nil) == 0 {
			return
		}
		x, r, _ := nat.Div(a, g)
		is(t, "a % g", r, nil)
		y, r, _ := nat.Div(b, g)
		is(t, "b % g", r, nil)
		is(t, "gcd(a / g, b / g)", nat.Gcd(x, y), nat.Of(1))
	})
}

func TestParseUndoesText(t *testing.T) {
	samples(t, 31, func(a, _, _ nat.Nat) {
		got, ok := nat.Parse(nat.Text(a))
		is(t, "Parse(Text(a))", got, nat.Trim(a))
		if !ok {
			t.Errorf("Parse(Text(%v)): got false", a)
		}
	})
	longest := strings.Repeat("9", 300)
	if a, _ := nat.Parse(longest); nat.Text(a) != longest {
		t.Errorf("got %q", nat.Text(a))
	}
}
