package whole_test

import (
	"math/big"
	"math/rand"
	"slices"
	"testing"

	"litmus/nat"
	"litmus/whole"
)

// edgeLimbs are the limbs at which carries, borrows and bounds of ints go wrong first.
var edgeLimbs = []uint32{0, 0, 1, 1, 2, 3, 0x7FFFFFFF, 0x80000000, 0xFFFFFFFE, 0xFFFFFFFF}

// sample returns a number of at most that many limbs, in any form: -0 and needless
// limbs are among them.
func sample(r *rand.Rand, limbs int) whole.Int {
	abs := make(nat.Nat, r.Intn(limbs+1))
	for i := range abs {
		abs[i] = edgeLimbs[r.Intn(len(edgeLimbs))]
		if r.Intn(3) == 0 {
			abs[i] = r.Uint32()
		}
	}
	return whole.Int{Neg: r.Intn(2) == 0, Abs: append(abs, make(nat.Nat, r.Intn(3))...)}
}

// samples calls f with many triples of numbers, always the same ones.
func samples(t *testing.T, limbs int, f func(a, b, c whole.Int)) {
	t.Helper()
	r := rand.New(rand.NewSource(1))
	for range 20000 {
		f(sample(r, limbs), sample(r, limbs), sample(r, limbs))
		if t.Failed() {
			return
		}
	}
}

// neg returns the Int with these fields and Neg set, whatever its form.
func neg(limbs ...uint32) whole.Int {
	return whole.Int{Neg: true, Abs: limbs}
}

// pos returns the Int with these fields and Neg not set, whatever its form.
func pos(limbs ...uint32) whole.Int {
	return whole.Int{Abs: limbs}
}

// toBig returns a, whatever its form, by the definition of its fields alone.
func toBig(a whole.Int) *big.Int {
	n := new(big.Int)
	for i := len(a.Abs) - 1; i >= 0; i-- {
		n.Lsh(n, 32)
		n.Or(n, big.NewInt(int64(a.Abs[i])))
	}
	if a.Neg {
		n.Neg(n)
	}
	return n
}

// fromBig returns the canonical form of n.
func fromBig(n *big.Int) whole.Int {
	a := whole.Int{Neg: n.Sign() < 0}
	for rest := new(big.Int).Abs(n); rest.Sign() > 0; rest.Rsh(rest, 32) {
		a.Abs = append(a.Abs, uint32(new(big.Int).And(rest, big.NewInt(0xFFFFFFFF)).Uint64()))
	}
	return a
}

// canon returns the canonical form of a.
func canon(a whole.Int) whole.Int {
	return fromBig(toBig(a))
}

// decimal returns the canonical form of a number that is written in decimal digits.
func decimal(t *testing.T, s string) whole.Int {
	t.Helper()
	n, ok := new(big.Int).SetString(s, 10)
	if !ok {
		t.Fatalf("%q isn't a number", s)
	}
	return fromBig(n)
}

// same reports whether all fields of a and b are the same.
func same(a, b whole.Int) bool {
	return a.Neg == b.Neg && slices.Equal(a.Abs, b.Abs)
}

// is fails unless got has exactly the fields of want.
func is(t *testing.T, what string, got, want whole.Int) {
	t.Helper()
	if !same(got, want) {
		t.Errorf("%s: got %#v, want %#v", what, got, want)
	}
}

// isBig fails unless got is the canonical form of want.
func isBig(t *testing.T, what string, got whole.Int, want *big.Int) {
	t.Helper()
	is(t, what, got, fromBig(want))
}
