package ratio_test

import (
	"math/big"
	"testing"

	"litmus/ratio"
)

// A pair is what a call of two numbers should return.
type pair struct {
	what       string
	a, b, want ratio.Rat
}

// checkPairs checks a call by cases, and by many numbers against math/big.
func checkPairs(t *testing.T, call func(a, b ratio.Rat) ratio.Rat, exact func(a, b *big.Rat) *big.Rat, cases []pair) {
	t.Helper()
	for _, c := range cases {
		is(t, c.what, call(c.a, c.b), c.want)
	}
	check := func(a, b ratio.Rat) { isBig(t, "exactly", call(a, b), exact(toBig(a), toBig(b))) }
	smalls(t, check)
	samples(t, 4, func(a, b, _ ratio.Rat) { check(a, b) })
}

func TestAdd(t *testing.T) {
	exact := func(a, b *big.Rat) *big.Rat { return new(big.Rat).Add(a, b) }
	checkPairs(t, ratio.Add, exact, []pair{
		{"nothing", ratio.Rat{}, rat(neg(0, 0), 0), rat(pos(), 1)},
		{"-0 twice", rat(neg(0), 5), rat(neg(0), 0, 6), rat(pos(), 1)},
		{"-0 and a number that isn't reduced", rat(neg(0)), rat(neg(6, 0), 4, 0), rat(neg(3), 2)},
		{"halves and thirds", rat(pos(1), 2), rat(pos(1), 3), rat(pos(5), 6)},
		{"halves that make an integer", rat(pos(1), 2), rat(pos(3), 2), rat(pos(2), 1)},
		{"apart", rat(neg(1), 2), rat(pos(1), 3), rat(neg(1), 6)},
		{"opposite", rat(neg(2), 4), rat(pos(1), 2), rat(pos(), 1)},
		{"integers", rat(neg(2)), rat(pos(5), 1), rat(pos(3), 1)},
		{"a fraction and an integer", rat(neg(1), 2), rat(pos(5), 0, 0), rat(pos(9), 2)},
		{"a common divisor of the divisors", rat(pos(1), 6), rat(pos(1), 10), rat(pos(4), 15)},
		{"a carry", rat(neg(0xFFFFFFFF, 0xFFFFFFFF), 3), rat(neg(1), 3), rat(neg(0, 0, 1), 3)},
	})
}

func TestSub(t *testing.T) {
	exact := func(a, b *big.Rat) *big.Rat { return new(big.Rat).Sub(a, b) }
	checkPairs(t, ratio.Sub, exact, []pair{
		{"nothing", ratio.Rat{}, rat(neg(0, 0), 0), rat(pos(), 1)},
		{"-0 of -0", rat(neg(0), 5), rat(neg(0), 0, 6), rat(pos(), 1)},
		{"a number of 0", ratio.Rat{}, rat(pos(6, 0), 4, 0), rat(neg(3), 2)},
		{"-0 of a number", rat(pos(6, 0), 4, 0), rat(neg(0)), rat(pos(3), 2)},
		{"thirds of halves", rat(pos(1), 2), rat(pos(1), 3), rat(pos(1), 6)},
		{"halves of thirds", rat(pos(1), 3), rat(pos(1), 2), rat(neg(1), 6)},
		{"apart", rat(neg(1), 2), rat(pos(1), 3), rat(neg(5), 6)},
		{"equal", rat(neg(2), 4), rat(neg(1), 2), rat(pos(), 1)},
		{"integers", rat(neg(2)), rat(pos(5), 1), rat(neg(7), 1)},
		{"halves that make an integer", rat(neg(1), 2), rat(pos(3), 2), rat(neg(2), 1)},
	})
}

func TestMul(t *testing.T) {
	exact := func(a, b *big.Rat) *big.Rat { return new(big.Rat).Mul(a, b) }
	checkPairs(t, ratio.Mul, exact, []pair{
		{"nothing", ratio.Rat{}, ratio.Rat{}, rat(pos(), 1)},
		{"by -0", rat(neg(3), 2), rat(neg(0, 0), 7), rat(pos(), 1)},
		{"a negative number by 0", rat(neg(3), 2), rat(pos()), rat(pos(), 1)},
		{"both positive", rat(pos(2), 3), rat(pos(5), 7), rat(pos(10), 21)},
		{"apart", rat(neg(2), 3), rat(pos(5), 7), rat(neg(10), 21)},
		{"both negative", rat(neg(2), 3), rat(neg(5), 7), rat(pos(10), 21)},
		{"what cancels", rat(pos(2), 3), rat(neg(9), 4), rat(neg(3), 2)},
		{"by its inverse", rat(neg(5, 6, 0), 7), rat(neg(7), 5, 6), rat(pos(1), 1)},
		{"integers", rat(neg(2)), rat(pos(5), 1), rat(neg(10), 1)},
		{"by a Den of 0", rat(neg(2), 3), rat(pos(5), 0, 0), rat(neg(10), 3)},
	})
}

func TestQuo(t *testing.T) {
	for _, c := range []pair{
		{"0", ratio.Rat{}, rat(neg(5), 7), rat(pos(), 1)},
		{"-0", rat(neg(0), 7), rat(pos(5)), rat(pos(), 1)},
		{"both positive", rat(pos(2), 3), rat(pos(5), 7), rat(pos(14), 15)},
		{"by a negative number", rat(pos(2), 3), rat(neg(5), 7), rat(neg(14), 15)},
		{"a negative number", rat(neg(2), 3), rat(pos(5), 7), rat(neg(14), 15)},
		{"both negative", rat(neg(2), 3), rat(neg(5), 7), rat(pos(14), 15)},
		{"what cancels", rat(pos(2), 3), rat(neg(4), 9), rat(neg(3), 2)},
		{"by itself, in another form", rat(neg(5, 6, 0), 7), rat(neg(10, 12), 14, 0), rat(pos(1), 1)},
		{"integers", rat(neg(4)), rat(pos(6), 1), rat(neg(2), 3)},
		{"by a Den of 0", rat(neg(2), 3), rat(pos(5), 0, 0), rat(neg(2), 15)},
	} {
		got, ok := ratio.Quo(c.a, c.b)
		is(t, c.what, got, c.want)
		if !ok {
			t.Errorf("%s: got false", c.what)
		}
	}
	check := func(a, b ratio.Rat) {
		if toBig(b).Sign() == 0 {
			return
		}
		got, ok := ratio.Quo(a, b)
		isBig(t, "Quo", got, new(big.Rat).Quo(toBig(a), toBig(b)))
		if !ok {
			t.Errorf("Quo(%v, %v): got false", a, b)
		}
	}
	smalls(t, check)
	samples(t, 4, func(a, b, _ ratio.Rat) { check(a, b) })
}

// Beside false stands 0 in canonical form, whatever the forms of the arguments.
func TestQuoBy0(t *testing.T) {
	check := func(a ratio.Rat) {
		for _, b := range []ratio.Rat{{}, rat(neg()), rat(pos(0, 0), 7), rat(neg(0, 0), 0), rat(pos(), 1)} {
			got, ok := ratio.Quo(a, b)
			is(t, "Quo by 0", got, rat(pos(), 1))
			if ok {
				t.Errorf("Quo(%v, %v): got true", a, b)
			}
		}
	}
	for _, a := range []ratio.Rat{{}, rat(neg(0), 3), rat(pos(7), 2), rat(neg(7)), rat(neg(5, 6, 0), 0)} {
		check(a)
	}
	samples(t, 4, func(a, _, _ ratio.Rat) { check(a) })
}

func TestNeg(t *testing.T) {
	for _, c := range []struct{ a, want ratio.Rat }{
		{ratio.Rat{}, rat(pos(), 1)},
		{rat(pos(0, 0), 7), rat(pos(), 1)},
		{rat(neg(0, 0), 7), rat(pos(), 1)},
		{rat(pos(1)), rat(neg(1), 1)},
		{rat(neg(1), 0), rat(pos(1), 1)},
		{rat(pos(6), 4, 0), rat(neg(3), 2)},
		{rat(neg(6, 0), 4), rat(pos(3), 2)},
		{rat(neg(4), 6), rat(pos(2), 3)},
	} {
		is(t, "Neg", ratio.Neg(c.a), c.want)
	}
	samples(t, 4, func(a, _, _ ratio.Rat) {
		isBig(t, "Neg", ratio.Neg(a), new(big.Rat).Neg(toBig(a)))
	})
}
