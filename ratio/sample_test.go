package ratio_test

import (
	"math/big"
	"math/rand"
	"slices"
	"testing"

	"litmus/nat"
	"litmus/ratio"
	"litmus/whole"
)

// edgeLimbs are limbs at which carries go wrong first, and some with many common
// divisors.
var edgeLimbs = []uint32{0, 0, 1, 1, 2, 3, 4, 6, 12, 30, 0x7FFFFFFF, 0x80000000, 0xFFFFFFFE, 0xFFFFFFFF}

// sampleNat returns a number of at most that many limbs; needless ones may follow.
func sampleNat(r *rand.Rand, limbs int) nat.Nat {
	a := make(nat.Nat, r.Intn(limbs+1))
	for i := range a {
		a[i] = edgeLimbs[r.Intn(len(edgeLimbs))]
		if r.Intn(4) == 0 {
			a[i] = r.Uint32()
		}
	}
	return append(a, make(nat.Nat, r.Intn(3))...)
}

// sample returns a rational number in any form: a Den of 0, -0, needless limbs and
// common divisors are among them.
func sample(r *rand.Rand, limbs int) ratio.Rat {
	num, den := sampleNat(r, limbs), sampleNat(r, limbs)
	if r.Intn(2) == 0 {
		common := nat.Add(sampleNat(r, 1), nat.Of(1))
		num, den = nat.Mul(num, common), nat.Mul(den, common)
	}
	return ratio.Rat{Num: whole.Int{Neg: r.Intn(2) == 0, Abs: num}, Den: den}
}

// samples calls f with many triples of numbers, always the same ones.
func samples(t *testing.T, limbs int, f func(a, b, c ratio.Rat)) {
	t.Helper()
	r := rand.New(rand.NewSource(1))
	for range 10000 {
		f(sample(r, limbs), sample(r, limbs), sample(r, limbs))
		if t.Failed() {
			return
		}
	}
}

// smalls calls f with all pairs of small numbers, in all forms that matter.
func smalls(t *testing.T, f func(a, b ratio.Rat)) {
	t.Helper()
	var all []ratio.Rat
	for _, num := range []whole.Int{pos(), neg(0), pos(1), neg(1), pos(2), neg(3, 0), pos(4), neg(6)} {
		for _, den := range []nat.Nat{nil, {0, 0}, {1}, {2, 0}, {3}, {4}, {6}} {
			all = append(all, ratio.Rat{Num: num, Den: den})
		}
	}
	for _, a := range all {
		for _, b := range all {
			f(a, b)
		}
	}
}

// neg returns the Int with these fields and Neg set, whatever its form.
func neg(limbs ...uint32) whole.Int {
	return whole.Int{Neg: true, Abs: limbs}
}

// pos returns the Int with these fields and Neg not set, whatever its form.
func pos(limbs ...uint32) whole.Int {
	return whole.Int{Abs: limbs}
}

// rat returns the Rat with these fields, whatever its form.
func rat(num whole.Int, den ...uint32) ratio.Rat {
	return ratio.Rat{Num: num, Den: den}
}

// toNat returns a, whatever its form, by the definition of its limbs alone.
func toNat(a nat.Nat) *big.Int {
	n := new(big.Int)
	for i := len(a) - 1; i >= 0; i-- {
		n.Lsh(n, 32)
		n.Or(n, big.NewInt(int64(a[i])))
	}
	return n
}

func toInt(a whole.Int) *big.Int {
	n := toNat(a.Abs)
	if a.Neg {
		n.Neg(n)
	}
	return n
}

// toBig returns a, whatever its form, by the definition of its fields alone.
func toBig(a ratio.Rat) *big.Rat {
	den := toNat(a.Den)
	if den.Sign() == 0 {
		den.SetInt64(1)
	}
	return new(big.Rat).SetFrac(toInt(a.Num), den)
}

// fromInt returns the canonical form of n.
func fromInt(n *big.Int) whole.Int {
	a := whole.Int{Neg: n.Sign() < 0}
	for rest := new(big.Int).Abs(n); rest.Sign() > 0; rest.Rsh(rest, 32) {
		a.Abs = append(a.Abs, uint32(new(big.Int).And(rest, big.NewInt(0xFFFFFFFF)).Uint64()))
	}
	return a
}

// fromBig returns the canonical form of n.
func fromBig(n *big.Rat) ratio.Rat {
	return ratio.Rat{Num: fromInt(n.Num()), Den: fromInt(n.Denom()).Abs}
}

// canon returns the canonical form of a.
func canon(a ratio.Rat) ratio.Rat {
	return fromBig(toBig(a))
}

// same reports whether all fields of a and b are the same.
func same(a, b ratio.Rat) bool {
	return sameInt(a.Num, b.Num) && slices.Equal(a.Den, b.Den)
}

func sameInt(a, b whole.Int) bool {
	return a.Neg == b.Neg && slices.Equal(a.Abs, b.Abs)
}

// is fails unless got has exactly the fields of want.
func is(t *testing.T, what string, got, want ratio.Rat) {
	t.Helper()
	if !same(got, want) {
		t.Errorf("%s: got %#v, want %#v", what, got, want)
	}
}

// isInt fails unless got has exactly the fields of want.
func isInt(t *testing.T, what string, got, want whole.Int) {
	t.Helper()
	if !sameInt(got, want) {
		t.Errorf("%s: got %#v, want %#v", what, got, want)
	}
}

// isBig fails unless got is the canonical form of want.
func isBig(t *testing.T, what string, got ratio.Rat, want *big.Rat) {
	t.Helper()
	is(t, what, got, fromBig(want))
}
