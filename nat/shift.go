package nat

// maxShift is the greatest number of bits by which a number is shifted.
const maxShift = 4096

// Shl returns a times 2^n, where n is limited to the range from 0 to 4096.
func Shl(a Nat, n int) Nat {
	a = significant(a)
	limbs, rest := shift(n)
	out := make(Nat, len(a)+limbs+1)
	for i, x := range a {
		wide := uint64(x) << rest
		out[i+limbs] |= uint32(wide)
		out[i+limbs+1] = uint32(wide >> limbBits)
	}
	return trimmed(out)
}

// Shr returns a divided by 2^n, rounded down, where n is limited to the range from
// 0 to 4096.
func Shr(a Nat, n int) Nat {
	a = significant(a)
	limbs, rest := shift(n)
	if limbs >= len(a) {
		return nil
	}
	a = a[limbs:]
	out := make(Nat, len(a))
	for i := range a {
		wide := uint64(a[i])
		if i+1 < len(a) {
			wide |= uint64(a[i+1]) << limbBits
		}
		out[i] = uint32(wide >> rest)
	}
	return trimmed(out)
}

// shift returns, for a limited n, by how many limbs and by how many more bits is
// to be shifted.
func shift(n int) (int, int) {
	n = min(max(n, 0), maxShift)
	return n / limbBits, n % limbBits
}
