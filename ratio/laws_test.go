package ratio_test

// P3.2: the laws of arithmetic, checked by the package's own calls alone.

import (
	"testing"

	"litmus/ratio"
	"litmus/whole"
)

var zero, one = ratio.Of(whole.Of(0)), ratio.Of(whole.Of(1))

func TestLawsOfSums(t *testing.T) {
	samples(t, 3, func(a, b, c ratio.Rat) {
		sum := ratio.Add(a, b)
		is(t, "a + b = b + a", ratio.Add(b, a), sum)
		is(t, "(a + b) + c = a + (b + c)", ratio.Add(sum, c), ratio.Add(a, ratio.Add(b, c)))
		is(t, "a + 0 = a", ratio.Add(a, zero), canon(a))
		is(t, "a + -a = 0", ratio.Add(a, ratio.Neg(a)), zero)
		is(t, "-(-a) = a", ratio.Neg(ratio.Neg(a)), canon(a))
		is(t, "(a + b) - b = a", ratio.Sub(sum, b), canon(a))
		is(t, "a - b = a + -b", ratio.Sub(a, b), ratio.Add(a, ratio.Neg(b)))
		is(t, "a - b = -(b - a)", ratio.Sub(a, b), ratio.Neg(ratio.Sub(b, a)))
		is(t, "a - a = 0", ratio.Sub(a, a), zero)
		if ratio.Sign(ratio.Sub(a, b)) != ratio.Cmp(a, b) {
			t.Errorf("the sign of %v - %v isn't their order", a, b)
		}
		if ratio.Cmp(ratio.Add(a, c), ratio.Add(b, c)) != ratio.Cmp(a, b) {
			t.Errorf("adding %v changes the order of %v and %v", c, a, b)
		}
	})
}

func TestLawsOfProducts(t *testing.T) {
	samples(t, 3, func(a, b, c ratio.Rat) {
		product := ratio.Mul(a, b)
		is(t, "a b = b a", ratio.Mul(b, a), product)
		is(t, "(a b) c = a (b c)", ratio.Mul(product, c), ratio.Mul(a, ratio.Mul(b, c)))
		is(t, "a (b + c) = a b + a c", ratio.Mul(a, ratio.Add(b, c)), ratio.Add(product, ratio.Mul(a, c)))
		is(t, "a (b - c) = a b - a c", ratio.Mul(a, ratio.Sub(b, c)), ratio.Sub(product, ratio.Mul(a, c)))
		is(t, "a 1 = a", ratio.Mul(a, one), canon(a))
		is(t, "a -1 = -a", ratio.Mul(a, ratio.Neg(one)), ratio.Neg(a))
		is(t, "a 0 = 0", ratio.Mul(a, zero), zero)
		if ratio.Sign(product) != ratio.Sign(a)*ratio.Sign(b) {
			t.Errorf("the sign of %v times %v isn't their signs' product", a, b)
		}
	})
}

func TestLawsOfQuotients(t *testing.T) {
	samples(t, 3, func(a, b, c ratio.Rat) {
		if ratio.Sign(b) == 0 {
			return
		}
		quo := func(x ratio.Rat) ratio.Rat {
			q, ok := ratio.Quo(x, b)
			if !ok {
				t.Errorf("Quo(%v, %v): got false", x, b)
			}
			return q
		}
		is(t, "(a / b) b = a", ratio.Mul(quo(a), b), canon(a))
		is(t, "(a b) / b = a", quo(ratio.Mul(a, b)), canon(a))
		is(t, "b / b = 1", quo(b), one)
		is(t, "(a + c) / b = a / b + c / b", quo(ratio.Add(a, c)), ratio.Add(quo(a), quo(c)))
		is(t, "a / b = a (1 / b)", quo(a), ratio.Mul(a, quo(one)))
	})
}

func TestFracIsTheQuotientOfIntegers(t *testing.T) {
	samples(t, 3, func(a, b, _ ratio.Rat) {
		frac, ok := ratio.Frac(a.Num, b.Num)
		quo, also := ratio.Quo(ratio.Of(a.Num), ratio.Of(b.Num))
		is(t, "Frac(a, b) = a / b", frac, quo)
		if ok != also || ok != (whole.Sign(b.Num) != 0) {
			t.Errorf("Frac(%v, %v): got %v, Quo: %v", a.Num, b.Num, ok, also)
		}
	})
}

func TestRoundedNumbersAreNext(t *testing.T) {
	samples(t, 3, func(a, _, _ ratio.Rat) {
		floor, ceil := ratio.Of(ratio.Floor(a)), ratio.Of(ratio.Ceil(a))
		if ratio.Cmp(floor, a) > 0 || ratio.Cmp(ratio.Add(floor, one), a) <= 0 {
			t.Errorf("Floor(%v): got %v", a, floor)
		}
		is(t, "Ceil(a) = -Floor(-a)", ceil, ratio.Neg(ratio.Of(ratio.Floor(ratio.Neg(a)))))
		n, ok := ratio.Whole(a)
		if ok != same(floor, ceil) {
			t.Errorf("Whole(%v): got %v", a, ok)
		}
		if ok {
			is(t, "Of(Whole(a)) = a", ratio.Of(n), canon(a))
		}
	})
}
