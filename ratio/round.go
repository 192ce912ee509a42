package ratio

import "litmus/whole"

// Floor returns the greatest integer that isn't greater than a.
func Floor(a Rat) whole.Int {
	q, _ := divided(a)
	return q
}

// Ceil returns the least integer that isn't less than a.
func Ceil(a Rat) whole.Int {
	q, r := divided(a)
	if whole.Sign(r) == 0 {
		return q
	}
	return whole.Add(q, whole.Of(1))
}

// Whole returns a as an integer and true, or 0 and false if it isn't one.
func Whole(a Rat) (whole.Int, bool) {
	q, r := divided(a)
	if whole.Sign(r) != 0 {
		return whole.Int{}, false
	}
	return q, true
}

// divided returns a, rounded down, and the remainder of Num.
func divided(a Rat) (whole.Int, whole.Int) {
	q, r, _ := whole.Div(a.Num, whole.Int{Abs: divisor(a)})
	return q, r
}
