package nat_test

// P1.1: each call behaves as specified, in canonical form, for arguments of any form.

import (
	"math"
	"math/big"
	"testing"

	"litmus/nat"
)

func TestOf(t *testing.T) {
	for _, c := range []struct {
		n    uint64
		want nat.Nat
	}{
		{0, nil},
		{1, nat.Nat{1}},
		{math.MaxUint32, nat.Nat{0xFFFFFFFF}},
		{math.MaxUint32 + 1, nat.Nat{0, 1}},
		{math.MaxInt64 + 1, nat.Nat{0, 0x80000000}},
		{math.MaxUint64, nat.Nat{0xFFFFFFFF, 0xFFFFFFFF}},
		{0x123456789ABCDEF0, nat.Nat{0x9ABCDEF0, 0x12345678}},
	} {
		is(t, "Of", nat.Of(c.n), c.want)
	}
}

func TestTrim(t *testing.T) {
	for _, c := range []struct{ a, want nat.Nat }{
		{nil, nil},
		{nat.Nat{}, nil},
		{nat.Nat{0}, nil},
		{nat.Nat{0, 0, 0}, nil},
		{nat.Nat{7}, nat.Nat{7}},
		{nat.Nat{7, 0, 0}, nat.Nat{7}},
		{nat.Nat{0, 7}, nat.Nat{0, 7}},
		{nat.Nat{0, 0, 7, 0}, nat.Nat{0, 0, 7}},
	} {
		is(t, "Trim", nat.Trim(c.a), c.want)
	}
}

func TestCmp(t *testing.T) {
	for _, c := range []struct {
		a, b nat.Nat
		want int
	}{
		{nil, nat.Nat{0, 0}, 0},
		{nat.Nat{0}, nil, 0},
		{nil, nat.Nat{1}, -1},
		{nat.Nat{5}, nat.Nat{5, 0, 0}, 0},
		{nat.Nat{5, 0, 0}, nat.Nat{6}, -1},
		{nat.Nat{0xFFFFFFFF}, nat.Nat{0, 1}, -1},
		{nat.Nat{0, 1}, nat.Nat{0xFFFFFFFF, 0}, 1},
		{nat.Nat{0xFFFFFFFF, 1}, nat.Nat{0, 2}, -1},
		{nat.Nat{0, 2}, nat.Nat{0xFFFFFFFF, 1}, 1},
		{nat.Nat{2, 1}, nat.Nat{1, 1}, 1},
	} {
		if got := nat.Cmp(c.a, c.b); got != c.want {
			t.Errorf("Cmp(%v, %v): got %d, want %d", c.a, c.b, got, c.want)
		}
	}
	samples(t, 3, func(a, b, _ nat.Nat) {
		if got := nat.Cmp(a, b); got != toBig(a).Cmp(toBig(b)) {
			t.Errorf("Cmp(%v, %v): got %d", a, b, got)
		}
	})
}

func TestAdd(t *testing.T) {
	is(t, "nothing", nat.Add(nil, nat.Nat{0, 0}), nil)
	is(t, "one side", nat.Add(nat.Nat{3, 0}, nil), nat.Nat{3})
	is(t, "a carry through all limbs", nat.Add(nat.Nat{0xFFFFFFFF, 0xFFFFFFFF}, nat.Of(1)), nat.Nat{0, 0, 1})
	is(t, "a carry that stops", nat.Add(nat.Of(1), nat.Nat{0xFFFFFFFF, 0xFFFFFFFF, 5, 7}), nat.Nat{0, 0, 6, 7})
	samples(t, 6, func(a, b, _ nat.Nat) {
		isBig(t, "Add", nat.Add(a, b), new(big.Int).Add(toBig(a), toBig(b)))
	})
}

func TestSub(t *testing.T) {
	for _, c := range []struct {
		a, b, want nat.Nat
		ok         bool
	}{
		{nil, nil, nil, true},
		{nat.Nat{0}, nat.Nat{0, 0}, nil, true},
		{nil, nat.Nat{1}, nil, false},
		{nat.Nat{1}, nat.Nat{2}, nil, false},
		{nat.Nat{1}, nat.Nat{2, 0, 0}, nil, false},
		{nat.Nat{1, 0, 0}, nat.Nat{0, 1}, nil, false},
		{nat.Nat{4, 5}, nat.Nat{4, 5, 0}, nil, true},
		{nat.Nat{4, 5}, nat.Nat{5, 5}, nil, false},
		{nat.Nat{4, 5, 0}, nat.Nat{0, 5}, nat.Nat{4}, true},
		{nat.Nat{0, 0, 1}, nat.Nat{1}, nat.Nat{0xFFFFFFFF, 0xFFFFFFFF}, true},
		{nat.Nat{0, 0, 5, 7}, nat.Nat{1}, nat.Nat{0xFFFFFFFF, 0xFFFFFFFF, 4, 7}, true},
	} {
		got, ok := nat.Sub(c.a, c.b)
		is(t, "Sub", got, c.want)
		if ok != c.ok {
			t.Errorf("Sub(%v, %v): got %v", c.a, c.b, ok)
		}
	}
	samples(t, 6, func(a, b, _ nat.Nat) {
		want := new(big.Int).Sub(toBig(a), toBig(b))
		got, ok := nat.Sub(a, b)
		if ok != (want.Sign() >= 0) {
			t.Errorf("Sub(%v, %v): got %v", a, b, ok)
		}
		if !ok {
			want.SetInt64(0)
		}
		isBig(t, "Sub", got, want)
	})
}

func TestMul(t *testing.T) {
	is(t, "by nothing", nat.Mul(nat.Nat{3, 4}, nat.Nat{0, 0}), nil)
	is(t, "nothing", nat.Mul(nil, nat.Nat{3, 4}), nil)
	is(t, "by one", nat.Mul(nat.Nat{1, 0}, nat.Nat{3, 4, 0}), nat.Nat{3, 4})
	is(t, "greatest limbs", nat.Mul(nat.Nat{0xFFFFFFFF}, nat.Nat{0xFFFFFFFF}), nat.Nat{1, 0xFFFFFFFE})
	is(t, "limbs of 0 between", nat.Mul(nat.Nat{0, 0, 2}, nat.Nat{0, 3}), nat.Nat{0, 0, 0, 6})
	samples(t, 8, func(a, b, _ nat.Nat) {
		isBig(t, "Mul", nat.Mul(a, b), new(big.Int).Mul(toBig(a), toBig(b)))
	})
}

func TestDiv(t *testing.T) {
	for _, c := range []struct {
		what       string
		a, b, q, r nat.Nat
		ok         bool
	}{
		{"the chapter's example", nat.Nat{7}, nat.Nat{2}, nat.Nat{3}, nat.Nat{1}, true},
		{"by nil", nat.Nat{7}, nil, nil, nil, false},
		{"by limbs of 0", nat.Nat{7, 8}, nat.Nat{0, 0}, nil, nil, false},
		{"0 by 0", nil, nil, nil, nil, false},
		{"0", nat.Nat{0}, nat.Nat{5}, nil, nil, true},
		{"by 1", nat.Nat{5, 6, 0}, nat.Nat{1, 0}, nat.Nat{5, 6}, nil, true},
		{"by itself", nat.Nat{5, 6, 0}, nat.Nat{5, 6}, nat.Nat{1}, nil, true},
		{"by more", nat.Nat{5, 6, 0}, nat.Nat{6, 6}, nil, nat.Nat{5, 6}, true},
		{"by a greatest limb", nat.Nat{0, 0, 1}, nat.Nat{0xFFFFFFFF}, nat.Nat{1, 1}, nat.Nat{1}, true},
		{"a guess beyond a limb", nat.Nat{0, 0xFFFFFFFE, 0x80000000}, nat.Nat{0xFFFFFFFF, 0x80000000}, nat.Nat{0xFFFFFFFF}, nat.Nat{0xFFFFFFFF, 0x7FFFFFFF}, true},
		{"a guess that is one too great", nat.Nat{3, 0, 0x80000000}, nat.Nat{1, 0, 0x20000000}, nat.Nat{3}, nat.Nat{0, 0, 0x20000000}, true},
		{"the same, with carries", nat.Nat{0, 0, 0x80000000, 0x7FFFFFFF}, nat.Nat{1, 0, 0x80000000}, nat.Nat{0xFFFFFFFE}, nat.Nat{2, 0xFFFFFFFF, 0x7FFFFFFF}, true},
	} {
		q, r, ok := nat.Div(c.a, c.b)
		is(t, c.what, q, c.q)
		is(t, c.what, r, c.r)
		if ok != c.ok {
			t.Errorf("%s: got %v", c.what, ok)
		}
	}
	samples(t, 7, func(a, b, _ nat.Nat) {
		q, r, ok := nat.Div(a, b)
		if toBig(b).Sign() == 0 {
			if ok || len(q) > 0 || len(r) > 0 {
				t.Errorf("by 0: got %v, %v, %v", q, r, ok)
			}
			return
		}
		wantQ, wantR := new(big.Int).QuoRem(toBig(a), toBig(b), new(big.Int))
		isBig(t, "quotient", q, wantQ)
		isBig(t, "remainder", r, wantR)
		if !ok {
			t.Errorf("Div(%v, %v): got false", a, b)
		}
	})
}

func TestGcd(t *testing.T) {
	is(t, "of 0 and 0", nat.Gcd(nat.Nat{0}, nil), nil)
	is(t, "of 0 and another one", nat.Gcd(nil, nat.Nat{0, 9, 0}), nat.Nat{0, 9})
	is(t, "of another one and 0", nat.Gcd(nat.Nat{1, 2, 3, 0}, nat.Nat{0}), nat.Nat{1, 2, 3})
	is(t, "small", nat.Gcd(nat.Of(84), nat.Of(30)), nat.Of(6))
	is(t, "the other way round", nat.Gcd(nat.Of(30), nat.Of(84)), nat.Of(6))
	is(t, "no common divisor", nat.Gcd(nat.Of(math.MaxUint64), nat.Of(math.MaxUint64-1)), nat.Of(1))
	is(t, "a divisor", nat.Gcd(nat.Nat{0, 0, 0, 6}, nat.Nat{0, 0, 0, 2, 0}), nat.Nat{0, 0, 0, 2})
	samples(t, 4, func(a, b, c nat.Nat) {
		x, y := new(big.Int).Mul(toBig(a), toBig(c)), new(big.Int).Mul(toBig(b), toBig(c))
		isBig(t, "Gcd", nat.Gcd(fromBig(x), fromBig(y)), new(big.Int).GCD(nil, nil, x, y))
		isBig(t, "Gcd", nat.Gcd(a, b), new(big.Int).GCD(nil, nil, toBig(a), toBig(b)))
	})
}

func TestBits(t *testing.T) {
	for _, c := range []struct {
		a    nat.Nat
		want int
	}{
		{nil, 0},
		{nat.Nat{0, 0}, 0},
		{nat.Nat{1}, 1},
		{nat.Nat{2, 0}, 2},
		{nat.Nat{3}, 2},
		{nat.Nat{0x80000000}, 32},
		{nat.Nat{0xFFFFFFFF, 0}, 32},
		{nat.Nat{0, 1}, 33},
		{nat.Nat{0, 0, 0, 0xFFFFFFFF}, 128},
	} {
		if got := nat.Bits(c.a); got != c.want {
			t.Errorf("Bits(%v): got %d, want %d", c.a, got, c.want)
		}
	}
	samples(t, 4, func(a, _, _ nat.Nat) {
		if got := nat.Bits(a); got != toBig(a).BitLen() {
			t.Errorf("Bits(%v): got %d", a, got)
		}
	})
}
