package nat_test

import (
	"math"
	"math/big"
	"math/rand"
	"testing"

	"litmus/nat"
)

func TestShl(t *testing.T) {
	is(t, "nothing", nat.Shl(nat.Nat{0, 0}, 100), nil)
	is(t, "by 0", nat.Shl(nat.Nat{3, 4, 0}, 0), nat.Nat{3, 4})
	is(t, "by a limb", nat.Shl(nat.Nat{3, 4}, 32), nat.Nat{0, 3, 4})
	is(t, "within a limb", nat.Shl(nat.Nat{3}, 30), nat.Nat{0xC0000000})
	is(t, "beyond a limb", nat.Shl(nat.Nat{3}, 31), nat.Nat{0x80000000, 1})
}

func TestShr(t *testing.T) {
	is(t, "nothing", nat.Shr(nat.Nat{0, 0}, 1), nil)
	is(t, "by 0", nat.Shr(nat.Nat{3, 4, 0}, 0), nat.Nat{3, 4})
	is(t, "by a limb", nat.Shr(nat.Nat{3, 4, 0}, 32), nat.Nat{4})
	is(t, "down", nat.Shr(nat.Nat{0xFFFFFFFF}, 1), nat.Nat{0x7FFFFFFF})
	is(t, "across limbs", nat.Shr(nat.Nat{0, 1}, 1), nat.Nat{0x80000000})
	is(t, "of all but one bit", nat.Shr(nat.Nat{0xFFFFFFFF, 1}, 32), nat.Nat{1})
	is(t, "of all bits", nat.Shr(nat.Nat{0xFFFFFFFF, 1}, 33), nil)
	is(t, "of all limbs", nat.Shr(nat.Nat{0xFFFFFFFF, 1, 0}, 64), nil)
}

func TestShiftsAgainstBig(t *testing.T) {
	r := rand.New(rand.NewSource(2))
	samples(t, 5, func(a, _, _ nat.Nat) {
		n := r.Intn(200)
		isBig(t, "Shl", nat.Shl(a, n), new(big.Int).Lsh(toBig(a), uint(n)))
		isBig(t, "Shr", nat.Shr(a, n), new(big.Int).Rsh(toBig(a), uint(n)))
	})
}

// Shifts are limited to the range from 0 to 4096.
func TestShiftLimits(t *testing.T) {
	wide := new(big.Int).Lsh(big.NewInt(0x123456789), 4096)
	for _, c := range []struct {
		n    int
		bits uint
	}{
		{-1, 0}, {-33, 0}, {math.MinInt, 0},
		{0, 0}, {1, 1}, {4095, 4095},
		{4096, 4096}, {4097, 4096}, {8192, 4096}, {math.MaxInt, 4096},
	} {
		isBig(t, "Shl", nat.Shl(nat.Nat{5, 6, 0}, c.n), new(big.Int).Lsh(toBig(nat.Nat{5, 6}), c.bits))
		isBig(t, "Shr", nat.Shr(fromBig(wide), c.n), new(big.Int).Rsh(wide, c.bits))
	}
}
