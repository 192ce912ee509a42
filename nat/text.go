package nat

import (
	"strconv"
	"strings"

	"litmus/api"
)

// Digits are converted in groups: group is the greatest power of ten that fits
// into a limb.
const (
	group       = 1000000000
	groupDigits = 9
)

// Text returns the decimal digits of a without leading zeros.
func Text(a Nat) string {
	groups := decimalGroups(a)
	if len(groups) == 0 {
		return "0"
	}
	var text strings.Builder
	top := len(groups) - 1
	text.WriteString(strconv.FormatUint(uint64(groups[top]), 10))
	for i := top - 1; i >= 0; i-- {
		// The leading 1 that is cut off keeps the zeros at the front of the group.
		text.WriteString(strconv.FormatUint(group+uint64(groups[i]), 10)[1:])
	}
	return text.String()
}

// Parse returns the number with the 1 to MaxDigits decimal digits s, without
// leading zeros, and true, or 0 and false if s isn't such a number.
func Parse(s string) (Nat, bool) {
	if !isNumeral(s) {
		return nil, false
	}
	n := make(Nat, len(s)/groupDigits+1)
	for len(s) > 0 {
		// Only the first group may be shorter: all others need the factor group.
		size := (len(s)-1)%groupDigits + 1
		mulAdd(n, group, number(s[:size]))
		s = s[size:]
	}
	return trimmed(n), true
}

// decimalGroups returns the groups of digits of a, the lowest first.
func decimalGroups(a Nat) []uint32 {
	var groups []uint32
	for rest := Trim(a); len(rest) > 0; rest = trimmed(rest) {
		groups = append(groups, divLimb(rest, group))
	}
	return groups
}

// isNumeral reports whether s is the text of a number that isn't too long.
func isNumeral(s string) bool {
	if len(s) == 0 || len(s) > api.MaxDigits || len(s) > 1 && s[0] == '0' {
		return false
	}
	for i := range len(s) {
		if s[i] < '0' || s[i] > '9' {
			return false
		}
	}
	return true
}

// number returns the number of at most one group of digits.
func number(digits string) uint32 {
	var n uint32
	for i := range len(digits) {
		n = 10*n + uint32(digits[i]-'0')
	}
	return n
}

// mulAdd replaces a by a times m plus n, for which a must have enough limbs.
func mulAdd(a Nat, m, n uint32) {
	carry := uint64(n)
	for i, x := range a {
		carry += uint64(m) * uint64(x)
		a[i] = uint32(carry)
		carry >>= limbBits
	}
}
