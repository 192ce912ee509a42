package whole

import "litmus/nat"

// Neg returns -a.
func Neg(a Int) Int {
	return Big(!a.Neg, a.Abs)
}

// Add returns the sum.
func Add(a, b Int) Int {
	if a.Neg == b.Neg {
		return signed(a.Neg, nat.Add(a.Abs, b.Abs))
	}
	if rest, ok := nat.Sub(a.Abs, b.Abs); ok {
		return signed(a.Neg, rest)
	}
	rest, _ := nat.Sub(b.Abs, a.Abs)
	return signed(b.Neg, rest)
}

// Sub returns a - b.
func Sub(a, b Int) Int {
	return Add(a, Int{Neg: !b.Neg, Abs: b.Abs})
}

// Mul returns the product.
func Mul(a, b Int) Int {
	return signed(a.Neg != b.Neg, nat.Mul(a.Abs, b.Abs))
}

// Div returns the quotient, rounded down, the remainder, and true, or 0, 0 and
// false if b is 0.
func Div(a, b Int) (Int, Int, bool) {
	q, r, ok := nat.Div(a.Abs, b.Abs)
	if !ok {
		return Int{}, Int{}, false
	}
	if a.Neg != b.Neg && len(r) > 0 {
		// So far, the quotient is rounded toward 0: up, if it is negative.
		q = nat.Add(q, nat.Of(1))
		r, _ = nat.Sub(b.Abs, r)
	}
	return signed(a.Neg != b.Neg, q), signed(b.Neg, r), true
}

// Gcd returns the greatest common divisor of both Abs, which isn't negative; if one
// of them is 0, it is the other one.
func Gcd(a, b Int) Int {
	return signed(false, nat.Gcd(a.Abs, b.Abs))
}

// Half returns a / 2, rounded toward 0.
func Half(a Int) Int {
	return signed(a.Neg, nat.Shr(a.Abs, 1))
}
