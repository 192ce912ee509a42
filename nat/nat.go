// Package nat implements natural numbers of any size: layer 1, see shared/doc/01-nat.md.
package nat

import "math/bits"

const (
	limbBits = 32
	limbMask = 1<<limbBits - 1
)

// A Nat is a natural number: limb i has the weight 2^(32 i). Arguments may have
// needless zero limbs at their end; results have none, and memory of their own.
type Nat []uint32

// Of returns n.
func Of(n uint64) Nat {
	return trimmed(Nat{uint32(n), uint32(n >> limbBits)})
}

// Trim returns the same number in canonical form.
func Trim(a Nat) Nat {
	a = significant(a)
	return padded(a, len(a))
}

// Cmp returns -1, 0 or 1 if a is less than, equal to or greater than b.
func Cmp(a, b Nat) int {
	a, b = significant(a), significant(b)
	if len(a) != len(b) {
		return order(len(a) < len(b))
	}
	for i := len(a) - 1; i >= 0; i-- {
		if a[i] != b[i] {
			return order(a[i] < b[i])
		}
	}
	return 0
}

// Add returns the sum.
func Add(a, b Nat) Nat {
	a, b = significant(a), significant(b)
	if len(a) < len(b) {
		a, b = b, a
	}
	sum := padded(a, len(a)+1)
	addTo(sum, b)
	return trimmed(sum)
}

// Sub returns a - b and true, or 0 and false if b is greater than a.
func Sub(a, b Nat) (Nat, bool) {
	a, b = significant(a), significant(b)
	if Cmp(a, b) < 0 {
		return nil, false
	}
	rest := padded(a, len(a))
	subFrom(rest, b)
	return trimmed(rest), true
}

// Mul returns the product.
func Mul(a, b Nat) Nat {
	a, b = significant(a), significant(b)
	product := make(Nat, len(a)+len(b))
	for i, x := range a {
		addTimes(product[i:], b, x)
	}
	return trimmed(product)
}

// Bits returns the number of bits of a, which is 0 for 0.
func Bits(a Nat) int {
	a = significant(a)
	if len(a) == 0 {
		return 0
	}
	top := len(a) - 1
	return top*limbBits + bits.Len32(a[top])
}

// significant returns the canonical form of a, in a's own memory: no result may
// be made of it without a copy.
func significant(a Nat) Nat {
	n := len(a)
	for n > 0 && a[n-1] == 0 {
		n--
	}
	return a[:n]
}

// trimmed returns a result in canonical form, in the memory that was made for it.
func trimmed(a Nat) Nat {
	a = significant(a)
	if len(a) == 0 {
		return nil
	}
	return a
}

// padded returns a copy of a with n limbs, at least as many as a has.
func padded(a Nat, n int) Nat {
	if n == 0 {
		return nil
	}
	out := make(Nat, n)
	copy(out, a)
	return out
}

// order returns -1 for what is less, and 1 for what is greater.
func order(less bool) int {
	if less {
		return -1
	}
	return 1
}

// addTo adds b to sum, which has at least as many limbs; a carry beyond its last
// limb is dropped.
func addTo(sum, b Nat) {
	var carry uint32
	for i, x := range b {
		sum[i], carry = bits.Add32(sum[i], x, carry)
	}
	for i := len(b); carry > 0 && i < len(sum); i++ {
		sum[i], carry = bits.Add32(sum[i], 0, carry)
	}
}

// subFrom subtracts b from rest, which isn't less.
func subFrom(rest, b Nat) {
	var borrow uint32
	for i, x := range b {
		rest[i], borrow = bits.Sub32(rest[i], x, borrow)
	}
	for i := len(b); borrow > 0; i++ {
		rest[i], borrow = bits.Sub32(rest[i], 0, borrow)
	}
}

// addTimes adds b times x to sum, where limb len(b) of sum is still 0.
func addTimes(sum, b Nat, x uint32) {
	var carry uint64
	for i, y := range b {
		// The greatest value is exactly 2^64 - 1, so nothing is lost.
		carry += uint64(x)*uint64(y) + uint64(sum[i])
		sum[i] = uint32(carry)
		carry >>= limbBits
	}
	sum[len(b)] = uint32(carry)
}
