package nat

import "math/bits"

// Div returns the quotient, rounded down, the remainder, and true, or 0, 0 and
// false if b is 0.
func Div(a, b Nat) (Nat, Nat, bool) {
	a, b = significant(a), significant(b)
	switch {
	case len(b) == 0:
		return nil, nil, false
	case Cmp(a, b) < 0:
		return nil, Trim(a), true
	case len(b) == 1:
		q := padded(a, len(a))
		r := divLimb(q, b[0])
		return trimmed(q), Of(uint64(r)), true
	}
	q, r := divLong(a, b)
	return q, r, true
}

// Gcd returns the greatest common divisor; if one of them is 0, it is the other one.
func Gcd(a, b Nat) Nat {
	a, b = Trim(a), Trim(b)
	for len(b) > 2 {
		_, r, _ := Div(a, b)
		a, b = b, r
	}
	if len(b) == 0 {
		return a
	}
	// b fits into 64 bits, where no more memory is needed.
	_, r, _ := Div(a, b)
	x, y := low(b), low(r)
	for y > 0 {
		x, y = y, x%y
	}
	return Of(x)
}

// low returns the number that the two lowest limbs of a represent.
func low(a Nat) uint64 {
	var n uint64
	for i := min(len(a), 2) - 1; i >= 0; i-- {
		n = n<<limbBits | uint64(a[i])
	}
	return n
}

// divLimb divides a in place by d, which isn't 0, and returns the remainder.
func divLimb(a Nat, d uint32) uint32 {
	var r uint64
	for i := len(a) - 1; i >= 0; i-- {
		r = r<<limbBits | uint64(a[i])
		a[i] = uint32(r / uint64(d))
		r %= uint64(d)
	}
	return uint32(r)
}

// divLong returns quotient and remainder for a b of at least two limbs that isn't
// greater than a, limb by limb (Knuth's algorithm D).
func divLong(a, b Nat) (Nat, Nat) {
	// The top bit of the divisor must be set: otherwise guessLimb could be far off.
	shift := bits.LeadingZeros32(b[len(b)-1])
	d := Shl(b, shift)
	rest := padded(Shl(a, shift), len(a)+1)
	q := make(Nat, len(a)-len(d)+1)
	for i := len(q) - 1; i >= 0; i-- {
		q[i] = divStep(rest[i:i+len(d)+1], d)
	}
	return trimmed(q), Shr(rest, shift)
}

// divStep divides part, which has one limb more than d and is less than d times
// 2^32, by d. It leaves the remainder in part.
func divStep(part, d Nat) uint32 {
	guess := guessLimb(part, d)
	if subTimes(part, d, guess) {
		// The guess was one too great: the carry that addTo drops here makes up for
		// the borrow that subTimes dropped.
		guess--
		addTo(part, d)
	}
	return guess
}

// guessLimb returns the quotient of part and d, or one more than it, from their
// highest limbs.
func guessLimb(part, d Nat) uint32 {
	n := len(d)
	high := uint64(part[n])<<limbBits | uint64(part[n-1])
	top, next := uint64(d[n-1]), uint64(d[n-2])
	q, r := high/top, high%top
	for r <= limbMask && (q > limbMask || q*next > r<<limbBits|uint64(part[n-2])) {
		q--
		r += top
	}
	return uint32(q)
}

// subTimes subtracts d times x from part, which has one limb more than d, and
// reports whether that was too much.
func subTimes(part, d Nat, x uint32) bool {
	var carry uint64
	var borrow uint32
	for i, y := range d {
		carry += uint64(x) * uint64(y)
		part[i], borrow = bits.Sub32(part[i], uint32(carry), borrow)
		carry >>= limbBits
	}
	part[len(d)], borrow = bits.Sub32(part[len(d)], uint32(carry), borrow)
	return borrow > 0
}
