package nat_test

// P0 and DOC.md's rules: every call ends, doesn't panic, leaves its arguments as
// they are, has the same results again, and gives out memory of its own.

import (
	"math"
	"slices"
	"strings"
	"testing"

	"litmus/nat"
)

// calls are all calls that return numbers, by their names.
var calls = map[string]func(a, b nat.Nat) []nat.Nat{
	"Trim": func(a, _ nat.Nat) []nat.Nat { return []nat.Nat{nat.Trim(a)} },
	"Add":  func(a, b nat.Nat) []nat.Nat { return []nat.Nat{nat.Add(a, b)} },
	"Sub": func(a, b nat.Nat) []nat.Nat {
		d, _ := nat.Sub(a, b)
		return []nat.Nat{d}
	},
	"Mul": func(a, b nat.Nat) []nat.Nat { return []nat.Nat{nat.Mul(a, b)} },
	"Div": func(a, b nat.Nat) []nat.Nat {
		q, r, _ := nat.Div(a, b)
		return []nat.Nat{q, r}
	},
	"Gcd":     func(a, b nat.Nat) []nat.Nat { return []nat.Nat{nat.Gcd(a, b)} },
	"Shl":     func(a, b nat.Nat) []nat.Nat { return []nat.Nat{nat.Shl(a, nat.Bits(b))} },
	"Shr":     func(a, b nat.Nat) []nat.Nat { return []nat.Nat{nat.Shr(a, nat.Bits(b))} },
	"Shl by0": func(a, _ nat.Nat) []nat.Nat { return []nat.Nat{nat.Shl(a, 0)} },
	"Shr by0": func(a, _ nat.Nat) []nat.Nat { return []nat.Nat{nat.Shr(a, 0)} },
	"Parse": func(a, _ nat.Nat) []nat.Nat {
		n, _ := nat.Parse(nat.Text(a))
		return []nat.Nat{n}
	},
}

// spoil overwrites all memory of a, so that whatever shares it shows.
func spoil(a nat.Nat) {
	for i := range a[:cap(a)] {
		a[:cap(a)][i] = 0xDEADBEEF
	}
}

func copies(l []nat.Nat) []nat.Nat {
	var out []nat.Nat
	for _, a := range l {
		out = append(out, slices.Clone(a))
	}
	return out
}

func sameAll(a, b []nat.Nat) bool {
	return slices.EqualFunc(a, b, func(x, y nat.Nat) bool { return slices.Equal(x, y) })
}

func TestArgumentsAndResultsAreApart(t *testing.T) {
	for name, call := range calls {
		samples(t, 4, func(a, b, _ nat.Nat) {
			oldA, oldB := slices.Clone(a), slices.Clone(b)
			results := call(a, b)
			want := copies(results)
			if !sameAll(call(a, b), want) {
				t.Errorf("%s: another result for the same arguments", name)
			}
			for i := range results {
				spoil(results[i])
				results[i] = slices.Clone(want[i])
			}
			if !slices.Equal(a, oldA) || !slices.Equal(b, oldB) {
				t.Errorf("%s: an argument changed, or is shared", name)
			}
			results = call(a, b)
			spoil(a)
			spoil(b)
			if !sameAll(results, want) {
				t.Errorf("%s: a result shares an argument's memory", name)
			}
			for i := range results {
				spoil(results[i])
				for j := i + 1; j < len(results); j++ {
					if !slices.Equal(results[j], want[j]) {
						t.Errorf("%s: results share memory", name)
					}
				}
			}
		})
	}
}

// One number in both places is like two equal ones.
func TestSameArgumentTwice(t *testing.T) {
	for name, call := range calls {
		samples(t, 4, func(a, _, _ nat.Nat) {
			if !sameAll(call(a, a), call(slices.Clone(a), slices.Clone(a))) {
				t.Errorf("%s: %v", name, a)
			}
		})
	}
}

func TestOddArgumentsEnd(t *testing.T) {
	odd := []nat.Nat{
		nil, {}, {0}, make(nat.Nat, 3000), {1}, {0xFFFFFFFF}, {0, 0x80000000},
		append(nat.Nat{1}, make(nat.Nat, 3000)...),
		append(make(nat.Nat, 3000), 1),
		slices.Repeat(nat.Nat{0xFFFFFFFF}, 500),
	}
	for _, a := range odd {
		for _, b := range odd {
			for name, call := range calls {
				for _, r := range call(a, b) {
					if len(r) > 0 && r[len(r)-1] == 0 {
						t.Errorf("%s: not canonical", name)
					}
				}
			}
			nat.Cmp(a, b)
		}
		for _, n := range []int{math.MinInt, -1, 4097, math.MaxInt} {
			nat.Shl(a, n)
			nat.Shr(a, n)
		}
	}
	for _, s := range []string{"", "\x00", "\xff\xfe", strings.Repeat("\xff", 300), strings.Repeat("0", 1<<20)} {
		if n, ok := nat.Parse(s); ok || len(n) > 0 {
			t.Errorf("Parse of %d bytes: got a number", len(s))
		}
	}
}
