package whole_test

import (
	"math"
	"math/big"
	"testing"

	"litmus/whole"
)

func TestNeg(t *testing.T) {
	is(t, "0", whole.Neg(pos()), pos())
	is(t, "limbs of 0", whole.Neg(pos(0, 0)), pos())
	is(t, "-0", whole.Neg(neg(0, 0)), pos())
	is(t, "1", whole.Neg(pos(1)), neg(1))
	is(t, "-1", whole.Neg(neg(1)), pos(1))
	is(t, "needless limbs", whole.Neg(pos(0, 5, 0, 0)), neg(0, 5))
	is(t, "the least int", whole.Neg(whole.Of(math.MinInt)), pos(0, 0x80000000))
	samples(t, 4, func(a, _, _ whole.Int) {
		isBig(t, "Neg", whole.Neg(a), new(big.Int).Neg(toBig(a)))
	})
}

func TestAdd(t *testing.T) {
	for _, c := range []struct {
		what       string
		a, b, want whole.Int
	}{
		{"nothing", pos(), neg(0, 0), pos()},
		{"-0 twice", neg(0), neg(0, 0), pos()},
		{"-0 and a negative number", neg(0), neg(5, 0), neg(5)},
		{"-0 and a positive number", neg(0), pos(5, 0), pos(5)},
		{"a negative number and 0", neg(5), pos(0), neg(5)},
		{"both positive", pos(2), pos(3), pos(5)},
		{"both negative", neg(2), neg(3), neg(5)},
		{"the negative one is less", pos(2), neg(3), neg(1)},
		{"the positive one is more", pos(3), neg(2), pos(1)},
		{"the negative one first", neg(3), pos(2), neg(1)},
		{"the same, up", neg(2), pos(3), pos(1)},
		{"opposite", pos(5, 6, 0), neg(5, 6), pos()},
		{"opposite, the negative one first", neg(5, 6), pos(5, 6, 0), pos()},
		{"a carry", neg(0xFFFFFFFF, 0xFFFFFFFF), neg(1), neg(0, 0, 1)},
		{"a borrow", pos(1), neg(0, 0, 1), neg(0xFFFFFFFF, 0xFFFFFFFF)},
	} {
		is(t, c.what, whole.Add(c.a, c.b), c.want)
	}
	samples(t, 4, func(a, b, _ whole.Int) {
		isBig(t, "Add", whole.Add(a, b), new(big.Int).Add(toBig(a), toBig(b)))
	})
}

func TestSub(t *testing.T) {
	for _, c := range []struct {
		what       string
		a, b, want whole.Int
	}{
		{"nothing", pos(), neg(0, 0), pos()},
		{"-0 of -0", neg(0), neg(0, 0), pos()},
		{"a number of 0", pos(), pos(5, 0), neg(5)},
		{"a negative number of -0", neg(0), neg(5, 0), pos(5)},
		{"-0 of a number", pos(5, 0), neg(0), pos(5)},
		{"both positive", pos(2), pos(3), neg(1)},
		{"both negative", neg(2), neg(3), pos(1)},
		{"apart", pos(2), neg(3), pos(5)},
		{"apart, down", neg(2), pos(3), neg(5)},
		{"equal", pos(5, 6, 0), pos(5, 6), pos()},
		{"equal and negative", neg(5, 6, 0), neg(5, 6), pos()},
		{"a carry", neg(0xFFFFFFFF, 0xFFFFFFFF), pos(1), neg(0, 0, 1)},
	} {
		is(t, c.what, whole.Sub(c.a, c.b), c.want)
	}
	samples(t, 4, func(a, b, _ whole.Int) {
		isBig(t, "Sub", whole.Sub(a, b), new(big.Int).Sub(toBig(a), toBig(b)))
	})
}

func TestMul(t *testing.T) {
	is(t, "by -0", whole.Mul(pos(3, 4), neg(0, 0)), pos())
	is(t, "a negative number by 0", whole.Mul(neg(3, 4), pos()), pos())
	is(t, "both positive", whole.Mul(pos(3), pos(4, 0)), pos(12))
	is(t, "apart", whole.Mul(pos(3), neg(4)), neg(12))
	is(t, "the other way round", whole.Mul(neg(3), pos(4)), neg(12))
	is(t, "both negative", whole.Mul(neg(3), neg(4)), pos(12))
	is(t, "greatest limbs", whole.Mul(neg(0xFFFFFFFF), pos(0xFFFFFFFF)), neg(1, 0xFFFFFFFE))
	samples(t, 5, func(a, b, _ whole.Int) {
		isBig(t, "Mul", whole.Mul(a, b), new(big.Int).Mul(toBig(a), toBig(b)))
	})
}

func TestDiv(t *testing.T) {
	for _, c := range []struct {
		what       string
		a, b, q, r whole.Int
	}{
		{"the chapter's first example", neg(7), pos(2), neg(4), pos(1)},
		{"the chapter's second example", pos(7), neg(2), neg(4), neg(1)},
		{"both positive", pos(7), pos(2), pos(3), pos(1)},
		{"both negative", neg(7), neg(2), pos(3), neg(1)},
		{"nothing left", neg(6), pos(2), neg(3), pos()},
		{"nothing left by a negative number", pos(6), neg(2), neg(3), pos()},
		{"nothing left of negative ones", neg(6), neg(2), pos(3), pos()},
		{"0", pos(0), neg(5), pos(), pos()},
		{"-0", neg(0), pos(5), pos(), pos()},
		{"-0 by a negative number", neg(0), neg(5), pos(), pos()},
		{"by more", pos(2), pos(7), pos(), pos(2)},
		{"a negative number by more", neg(2), pos(7), neg(1), pos(5)},
		{"by a negative number of more", pos(2), neg(7), neg(1), neg(5)},
		{"both negative, by more", neg(2), neg(7), pos(), neg(2)},
		{"by 1", neg(5, 6, 0), pos(1, 0), neg(5, 6), pos()},
		{"by -1", neg(5, 6, 0), neg(1, 0), pos(5, 6), pos()},
		{"by its opposite", neg(5, 6, 0), pos(5, 6), neg(1), pos()},
		{"a carry in the quotient", neg(0xFFFFFFFF, 0xFFFFFFFF, 1), pos(0, 0, 1), neg(2), pos(1)},
		{"a quotient of one limb more", neg(1, 0xFFFFFFFF), pos(0, 1), neg(0, 1), pos(0xFFFFFFFF)},
	} {
		q, r, ok := whole.Div(c.a, c.b)
		is(t, c.what, q, c.q)
		is(t, c.what, r, c.r)
		if !ok {
			t.Errorf("%s: got false", c.what)
		}
	}
	samples(t, 5, func(a, b, _ whole.Int) {
		q, r, ok := whole.Div(a, b)
		if toBig(b).Sign() == 0 {
			return
		}
		wantQ, wantR := floored(toBig(a), toBig(b))
		isBig(t, "quotient", q, wantQ)
		isBig(t, "remainder", r, wantR)
		if !ok {
			t.Errorf("Div(%v, %v): got false", a, b)
		}
	})
}

// floored returns the quotient of a and b, rounded down, and the remainder.
func floored(a, b *big.Int) (*big.Int, *big.Int) {
	q, r := new(big.Int).QuoRem(a, b, new(big.Int))
	if r.Sign()*b.Sign() < 0 {
		q.Sub(q, big.NewInt(1))
		r.Add(r, b)
	}
	return q, r
}

func TestDivBy0(t *testing.T) {
	for _, a := range []whole.Int{pos(), neg(0), pos(7), neg(7), neg(5, 6, 0)} {
		for _, b := range []whole.Int{pos(), neg(), pos(0, 0), neg(0, 0)} {
			q, r, ok := whole.Div(a, b)
			is(t, "quotient", q, pos())
			is(t, "remainder", r, pos())
			if ok {
				t.Errorf("Div(%v, %v): got true", a, b)
			}
		}
	}
}

func TestGcd(t *testing.T) {
	is(t, "of 0 and -0", whole.Gcd(pos(0), neg(0, 0)), pos())
	is(t, "of 0 and a negative number", whole.Gcd(neg(0), neg(0, 9, 0)), pos(0, 9))
	is(t, "of a negative number and 0", whole.Gcd(neg(1, 2, 3, 0), pos()), pos(1, 2, 3))
	is(t, "both positive", whole.Gcd(pos(84), pos(30)), pos(6))
	is(t, "the first is negative", whole.Gcd(neg(84), pos(30)), pos(6))
	is(t, "the second is negative", whole.Gcd(pos(84), neg(30)), pos(6))
	is(t, "both negative", whole.Gcd(neg(84), neg(30)), pos(6))
	is(t, "no common divisor", whole.Gcd(neg(9), neg(8)), pos(1))
	samples(t, 3, func(a, b, _ whole.Int) {
		x, y := toBig(a), toBig(b)
		isBig(t, "Gcd", whole.Gcd(a, b), new(big.Int).GCD(nil, nil, x.Abs(x), y.Abs(y)))
	})
}

func TestHalf(t *testing.T) {
	for _, c := range []struct {
		a, want whole.Int
	}{
		{pos(), pos()},
		{neg(0, 0), pos()},
		{pos(1), pos()},
		{neg(1), pos()},
		{neg(1, 0), pos()},
		{pos(2), pos(1)},
		{neg(2), neg(1)},
		{pos(3), pos(1)},
		{neg(3), neg(1)},
		{pos(5), pos(2)},
		{neg(5), neg(2)},
		{neg(0, 1), neg(0x80000000)},
		{neg(1, 2, 0), neg(0, 1)},
	} {
		is(t, "Half", whole.Half(c.a), c.want)
	}
	samples(t, 4, func(a, _, _ whole.Int) {
		isBig(t, "Half", whole.Half(a), new(big.Int).Quo(toBig(a), big.NewInt(2)))
	})
}
