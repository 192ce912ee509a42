package nat_test

import (
	"math/big"
	"math/rand"
	"slices"
	"testing"

	"litmus/nat"
)

// edgeLimbs are the limbs at which carries, borrows and guesses of quotients go wrong first.
var edgeLimbs = []uint32{0, 0, 1, 2, 0x7FFFFFFF, 0x80000000, 0x80000001, 0xFFFFFFFE, 0xFFFFFFFF, 0xFFFFFFFF}

// sample returns a number of at most that many limbs, in any form.
func sample(r *rand.Rand, limbs int) nat.Nat {
	a := make(nat.Nat, r.Intn(limbs+1))
	for i := range a {
		a[i] = edgeLimbs[r.Intn(len(edgeLimbs))]
		if r.Intn(3) == 0 {
			a[i] = r.Uint32()
		}
	}
	return append(a, make(nat.Nat, r.Intn(3))...)
}

// samples calls f with many triples of numbers, always the same ones.
func samples(t *testing.T, limbs int, f func(a, b, c nat.Nat)) {
	t.Helper()
	r := rand.New(rand.NewSource(1))
	for range 20000 {
		f(sample(r, limbs), sample(r, limbs), sample(r, limbs))
		if t.Failed() {
			return
		}
	}
}

// toBig returns a, whatever its form, by the definition of limbs alone.
func toBig(a nat.Nat) *big.Int {
	n := new(big.Int)
	for i := len(a) - 1; i >= 0; i-- {
		n.Lsh(n, 32)
		n.Or(n, big.NewInt(int64(a[i])))
	}
	return n
}

// fromBig returns the canonical form of n.
func fromBig(n *big.Int) nat.Nat {
	var a nat.Nat
	for rest := new(big.Int).Set(n); rest.Sign() > 0; rest.Rsh(rest, 32) {
		a = append(a, uint32(new(big.Int).And(rest, big.NewInt(0xFFFFFFFF)).Uint64()))
	}
	return a
}

// decimal returns the canonical form of a number that is written in decimal digits.
func decimal(t *testing.T, s string) nat.Nat {
	t.Helper()
	n, ok := new(big.Int).SetString(s, 10)
	if !ok {
		t.Fatalf("%q isn't a number", s)
	}
	return fromBig(n)
}

// is fails unless got has exactly the limbs of want.
func is(t *testing.T, what string, got, want nat.Nat) {
	t.Helper()
	if !slices.Equal(got, want) {
		t.Errorf("%s: got %#v, want %#v", what, got, want)
	}
}

// isBig fails unless got is the canonical form of want.
func isBig(t *testing.T, what string, got nat.Nat, want *big.Int) {
	t.Helper()
	is(t, what, got, fromBig(want))
}
