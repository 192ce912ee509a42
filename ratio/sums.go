package ratio

import (
	"litmus/nat"
	"litmus/whole"
)

// Add returns the sum.
func Add(a, b Rat) Rat {
	x, y := crossed(a, b)
	return reduced(whole.Add(x, y), nat.Mul(divisor(a), divisor(b)))
}

// Sub returns a - b.
func Sub(a, b Rat) Rat {
	x, y := crossed(a, b)
	return reduced(whole.Sub(x, y), nat.Mul(divisor(a), divisor(b)))
}

// Neg returns -a.
func Neg(a Rat) Rat {
	return reduced(whole.Neg(a.Num), divisor(a))
}

// Mul returns the product.
func Mul(a, b Rat) Rat {
	return reduced(whole.Mul(a.Num, b.Num), nat.Mul(divisor(a), divisor(b)))
}

// Quo returns a divided by b and true, or 0 and false if b is 0.
func Quo(a, b Rat) (Rat, bool) {
	return Frac(crossed(a, b))
}
