package ratio_test

// P3.1: each call behaves as specified, in canonical form, for arguments of any form.

import (
	"math"
	"math/big"
	"testing"

	"litmus/ratio"
	"litmus/whole"
)

func TestOf(t *testing.T) {
	for _, c := range []struct {
		a    whole.Int
		want ratio.Rat
	}{
		{pos(), rat(pos(), 1)},
		{neg(), rat(pos(), 1)},
		{neg(0, 0), rat(pos(), 1)},
		{pos(1), rat(pos(1), 1)},
		{neg(1), rat(neg(1), 1)},
		{pos(7, 0, 0), rat(pos(7), 1)},
		{neg(0, 7, 0), rat(neg(0, 7), 1)},
		{whole.Of(math.MinInt), rat(neg(0, 0x80000000), 1)},
	} {
		is(t, "Of", ratio.Of(c.a), c.want)
	}
	samples(t, 4, func(a, _, _ ratio.Rat) {
		isBig(t, "Of", ratio.Of(a.Num), new(big.Rat).SetInt(toInt(a.Num)))
	})
}

func TestFrac(t *testing.T) {
	for _, c := range []struct {
		what string
		a, b whole.Int
		want ratio.Rat
	}{
		{"the chapter's example", pos(6), neg(4), rat(neg(3), 2)},
		{"the other one is negative", neg(6), pos(4), rat(neg(3), 2)},
		{"both negative", neg(6), neg(4), rat(pos(3), 2)},
		{"both positive", pos(6), pos(4), rat(pos(3), 2)},
		{"without a common divisor", pos(9), pos(8), rat(pos(9), 8)},
		{"0", pos(), pos(5), rat(pos(), 1)},
		{"0 by a negative number", pos(0), neg(5), rat(pos(), 1)},
		{"-0", neg(0, 0), pos(5), rat(pos(), 1)},
		{"-0 by a negative number", neg(), neg(5, 0), rat(pos(), 1)},
		{"by 1", neg(5, 6, 0), pos(1, 0), rat(neg(5, 6), 1)},
		{"by -1", neg(5, 6, 0), neg(1, 0), rat(pos(5, 6), 1)},
		{"1 by more", pos(1), neg(5, 6, 0), rat(neg(1), 5, 6)},
		{"by itself", neg(5, 6, 0), neg(5, 6), rat(pos(1), 1)},
		{"by its opposite", neg(5, 6, 0), pos(5, 6), rat(neg(1), 1)},
		{"an integer", pos(12), neg(4), rat(neg(3), 1)},
		{"a part", pos(4), neg(12, 0), rat(neg(1), 3)},
		{"a common divisor of some limbs", pos(0, 0, 6), neg(0, 0, 4), rat(neg(3), 2)},
		{"an integer of some limbs", pos(0, 0, 0, 6), neg(0, 0, 4), rat(neg(0x80000000, 1), 1)},
	} {
		got, ok := ratio.Frac(c.a, c.b)
		is(t, c.what, got, c.want)
		if !ok {
			t.Errorf("%s: got false", c.what)
		}
	}
	samples(t, 4, func(a, b, _ ratio.Rat) {
		if toInt(b.Num).Sign() == 0 {
			return
		}
		got, ok := ratio.Frac(a.Num, b.Num)
		isBig(t, "Frac", got, new(big.Rat).SetFrac(toInt(a.Num), toInt(b.Num)))
		if !ok {
			t.Errorf("Frac(%v, %v): got false", a.Num, b.Num)
		}
	})
}

// Beside false stands 0 in canonical form, whatever the forms of the arguments.
func TestFracBy0(t *testing.T) {
	check := func(a whole.Int) {
		for _, b := range []whole.Int{pos(), neg(), pos(0, 0), neg(0, 0)} {
			got, ok := ratio.Frac(a, b)
			is(t, "Frac by 0", got, rat(pos(), 1))
			if ok {
				t.Errorf("Frac(%v, %v): got true", a, b)
			}
		}
	}
	for _, a := range []whole.Int{pos(), neg(0), pos(5), neg(5), neg(5, 6, 0)} {
		check(a)
	}
	samples(t, 4, func(a, _, _ ratio.Rat) { check(a.Num) })
}

func TestCmp(t *testing.T) {
	for _, c := range []struct {
		a, b ratio.Rat
		want int
	}{
		{ratio.Rat{}, ratio.Rat{}, 0},
		{ratio.Rat{}, rat(pos(), 1), 0},
		{rat(neg(0), 7), rat(pos(0, 0)), 0},
		{rat(neg(0), 7), rat(pos(1), 7), -1},
		{rat(neg(0), 7), rat(neg(1), 7), 1},
		{rat(pos(5)), rat(pos(5), 1, 0), 0},
		{rat(pos(5), 0, 0), rat(pos(5), 2), 1},
		{rat(neg(5), 0, 0), rat(neg(5), 2), -1},
		{rat(pos(1), 2), rat(pos(2, 0), 4), 0},
		{rat(neg(3), 6), rat(neg(1), 2), 0},
		{rat(pos(1), 2), rat(pos(1), 3), 1},
		{rat(neg(1), 2), rat(neg(1), 3), -1},
		{rat(pos(2), 3), rat(pos(3), 4), -1},
		{rat(neg(2), 3), rat(neg(3), 4), 1},
		{rat(neg(9), 2), rat(pos(1), 100), -1},
		{rat(pos(1), 100), rat(neg(9), 2), 1},
		{rat(pos(3), 2), rat(pos(1), 1), 1},
		{rat(pos(0xFFFFFFFF, 0xFFFFFFFF), 0xFFFFFFFE, 0xFFFFFFFF), rat(pos(0xFFFFFFFE, 0xFFFFFFFF), 0xFFFFFFFD, 0xFFFFFFFF), -1},
	} {
		if got := ratio.Cmp(c.a, c.b); got != c.want {
			t.Errorf("Cmp(%v, %v): got %d, want %d", c.a, c.b, got, c.want)
		}
	}
	compare := func(a, b ratio.Rat) {
		if got := ratio.Cmp(a, b); got != toBig(a).Cmp(toBig(b)) {
			t.Errorf("Cmp(%v, %v): got %d", a, b, got)
		}
	}
	smalls(t, compare)
	samples(t, 3, func(a, b, _ ratio.Rat) { compare(a, b) })
}

func TestSign(t *testing.T) {
	for _, c := range []struct {
		a    ratio.Rat
		want int
	}{
		{ratio.Rat{}, 0},
		{rat(neg()), 0},
		{rat(pos(0, 0), 0), 0},
		{rat(neg(0, 0), 7), 0},
		{rat(pos(1)), 1},
		{rat(neg(1)), -1},
		{rat(pos(0, 1, 0), 0, 9), 1},
		{rat(neg(0, 1, 0), 0, 9), -1},
		{rat(neg(1), 0, 0), -1},
	} {
		if got := ratio.Sign(c.a); got != c.want {
			t.Errorf("Sign(%v): got %d, want %d", c.a, got, c.want)
		}
	}
	samples(t, 2, func(a, _, _ ratio.Rat) {
		if got := ratio.Sign(a); got != toBig(a).Sign() {
			t.Errorf("Sign(%v): got %d", a, got)
		}
	})
}
