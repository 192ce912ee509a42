package whole_test

// P2.1: each call behaves as specified, in canonical form, for arguments of any form.

import (
	"math"
	"math/big"
	"testing"

	"litmus/nat"
	"litmus/whole"
)

func TestOf(t *testing.T) {
	for _, c := range []struct {
		n    int
		want whole.Int
	}{
		{0, pos()},
		{1, pos(1)},
		{-1, neg(1)},
		{math.MaxInt32, pos(0x7FFFFFFF)},
		{math.MinInt32, neg(0x80000000)},
		{math.MaxUint32, pos(0xFFFFFFFF)},
		{-math.MaxUint32, neg(0xFFFFFFFF)},
		{math.MaxUint32 + 1, pos(0, 1)},
		{-math.MaxUint32 - 1, neg(0, 1)},
		{math.MaxInt, pos(0xFFFFFFFF, 0x7FFFFFFF)},
		{-math.MaxInt, neg(0xFFFFFFFF, 0x7FFFFFFF)},
		{math.MinInt, neg(0, 0x80000000)},
	} {
		is(t, "Of", whole.Of(c.n), c.want)
	}
}

func TestBig(t *testing.T) {
	for _, c := range []struct {
		neg  bool
		abs  nat.Nat
		want whole.Int
	}{
		{false, nil, pos()},
		{true, nil, pos()},
		{true, nat.Nat{}, pos()},
		{true, nat.Nat{0, 0}, pos()},
		{false, nat.Nat{7}, pos(7)},
		{true, nat.Nat{7}, neg(7)},
		{false, nat.Nat{7, 0, 0}, pos(7)},
		{true, nat.Nat{7, 0, 0}, neg(7)},
		{true, nat.Nat{0, 0, 7, 0}, neg(0, 0, 7)},
	} {
		is(t, "Big", whole.Big(c.neg, c.abs), c.want)
	}
}

func TestSign(t *testing.T) {
	for _, c := range []struct {
		a    whole.Int
		want int
	}{
		{pos(), 0},
		{neg(), 0},
		{pos(0, 0), 0},
		{neg(0, 0), 0},
		{pos(1), 1},
		{neg(1), -1},
		{pos(0, 1, 0), 1},
		{neg(0, 1, 0), -1},
	} {
		if got := whole.Sign(c.a); got != c.want {
			t.Errorf("Sign(%v): got %d, want %d", c.a, got, c.want)
		}
	}
}

func TestCmp(t *testing.T) {
	for _, c := range []struct {
		a, b whole.Int
		want int
	}{
		{pos(), pos(), 0},
		{pos(), neg(), 0},
		{neg(0, 0), pos(0), 0},
		{neg(0), neg(0, 0), 0},
		{neg(0), pos(1), -1},
		{neg(0), neg(1), 1},
		{pos(1), neg(0, 0), 1},
		{neg(1), pos(0), -1},
		{pos(5), pos(5, 0), 0},
		{neg(5), neg(5, 0), 0},
		{pos(5), pos(6), -1},
		{neg(5), neg(6), 1},
		{neg(6), pos(5), -1},
		{pos(5), neg(6), 1},
		{pos(0xFFFFFFFF), pos(0, 1), -1},
		{neg(0xFFFFFFFF), neg(0, 1), 1},
		{neg(1), pos(0, 1), -1},
		{neg(0, 1), pos(1), -1},
	} {
		if got := whole.Cmp(c.a, c.b); got != c.want {
			t.Errorf("Cmp(%v, %v): got %d, want %d", c.a, c.b, got, c.want)
		}
	}
	samples(t, 3, func(a, b, _ whole.Int) {
		if got := whole.Cmp(a, b); got != toBig(a).Cmp(toBig(b)) {
			t.Errorf("Cmp(%v, %v): got %d", a, b, got)
		}
	})
}

func TestBits(t *testing.T) {
	for _, c := range []struct {
		a    whole.Int
		want int
	}{
		{pos(), 0},
		{neg(0, 0), 0},
		{pos(1), 1},
		{neg(1), 1},
		{neg(2, 0), 2},
		{pos(3), 2},
		{neg(0x80000000), 32},
		{neg(0, 1), 33},
		{pos(0, 0, 0, 0xFFFFFFFF), 128},
	} {
		if got := whole.Bits(c.a); got != c.want {
			t.Errorf("Bits(%v): got %d, want %d", c.a, got, c.want)
		}
	}
	samples(t, 4, func(a, _, _ whole.Int) {
		if got := whole.Bits(a); got != toBig(a).BitLen() {
			t.Errorf("Bits(%v): got %d", a, got)
		}
	})
}

func TestSmall(t *testing.T) {
	for _, c := range []struct {
		a    whole.Int
		want int
		ok   bool
	}{
		{pos(), 0, true},
		{neg(0, 0, 0, 0), 0, true},
		{pos(7), 7, true},
		{neg(7), -7, true},
		{pos(0xFFFFFFFF), math.MaxUint32, true},
		{neg(0, 1), -math.MaxUint32 - 1, true},
		{neg(7, 0, 0, 0), -7, true},
		{pos(0xFFFFFFFF, 0x7FFFFFFF, 0), math.MaxInt, true},
		{neg(0xFFFFFFFF, 0x7FFFFFFF, 0), -math.MaxInt, true},
		{neg(0, 0x80000000, 0), math.MinInt, true},
		{pos(0, 0x80000000), 0, false},
		{neg(1, 0x80000000), 0, false},
		{pos(0xFFFFFFFF, 0xFFFFFFFF), 0, false},
		{neg(0xFFFFFFFF, 0xFFFFFFFF), 0, false},
		{pos(0, 0, 1), 0, false},
		{neg(0, 0, 1), 0, false},
		{neg(5, 0, 1), 0, false},
		{neg(0, 0x80000000, 1), 0, false},
	} {
		if got, ok := whole.Small(c.a); got != c.want || ok != c.ok {
			t.Errorf("Small(%v): got %d, %v, want %d, %v", c.a, got, ok, c.want, c.ok)
		}
	}
	samples(t, 3, func(a, _, _ whole.Int) {
		n := toBig(a)
		want := 0
		if n.IsInt64() {
			want = int(n.Int64())
		}
		if got, ok := whole.Small(a); got != want || ok != n.IsInt64() {
			t.Errorf("Small(%v): got %d, %v", a, got, ok)
		}
	})
}

func TestSmallUndoesOf(t *testing.T) {
	for _, start := range []int{math.MinInt, math.MinInt32 - 8, -8, math.MaxUint32 - 8, math.MaxInt - 16} {
		for n := start; n <= start+16; n++ {
			if got, ok := whole.Small(whole.Of(n)); got != n || !ok {
				t.Errorf("Small(Of(%d)): got %d, %v", n, got, ok)
			}
			isBig(t, "Of", whole.Of(n), big.NewInt(int64(n)))
			if n == math.MaxInt {
				break
			}
		}
	}
}
