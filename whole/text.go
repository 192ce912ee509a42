package whole

import (
	"strings"

	"litmus/nat"
)

// Text returns the decimal digits of Abs, behind a - if a is negative.
func Text(a Int) string {
	if Sign(a) < 0 {
		return "-" + nat.Text(a.Abs)
	}
	return nat.Text(a.Abs)
}

// Parse returns the number whose Text is s, and true, or 0 and false if there is
// none with at most MaxDigits digits.
func Parse(s string) (Int, bool) {
	digits, neg := strings.CutPrefix(s, "-")
	abs, ok := nat.Parse(digits)
	if !ok || neg && len(abs) == 0 {
		// No number has the text -0.
		return Int{}, false
	}
	return signed(neg, abs), true
}
