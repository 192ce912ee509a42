package whole_test

// P0 and DOC.md's rules: every call ends, doesn't panic, leaves its arguments as
// they are, has the same results again, and gives out memory of its own.

import (
	"math"
	"slices"
	"strings"
	"testing"

	"litmus/nat"
	"litmus/whole"
)

// calls are all calls that return numbers made of others, by their names.
var calls = map[string]func(a, b whole.Int) []whole.Int{
	"Big":  func(a, _ whole.Int) []whole.Int { return []whole.Int{whole.Big(a.Neg, a.Abs)} },
	"Neg":  func(a, _ whole.Int) []whole.Int { return []whole.Int{whole.Neg(a)} },
	"Add":  func(a, b whole.Int) []whole.Int { return []whole.Int{whole.Add(a, b)} },
	"Sub":  func(a, b whole.Int) []whole.Int { return []whole.Int{whole.Sub(a, b)} },
	"Mul":  func(a, b whole.Int) []whole.Int { return []whole.Int{whole.Mul(a, b)} },
	"Gcd":  func(a, b whole.Int) []whole.Int { return []whole.Int{whole.Gcd(a, b)} },
	"Half": func(a, _ whole.Int) []whole.Int { return []whole.Int{whole.Half(a)} },
	"Div": func(a, b whole.Int) []whole.Int {
		q, r, _ := whole.Div(a, b)
		return []whole.Int{q, r}
	},
	"Parse": func(a, _ whole.Int) []whole.Int {
		n, _ := whole.Parse(whole.Text(a))
		return []whole.Int{n}
	},
}

func clone(a whole.Int) whole.Int {
	return whole.Int{Neg: a.Neg, Abs: slices.Clone(a.Abs)}
}

func cloneAll(l []whole.Int) []whole.Int {
	var out []whole.Int
	for _, a := range l {
		out = append(out, clone(a))
	}
	return out
}

// spoil overwrites all memory of a, so that whatever shares it shows.
func spoil(a whole.Int) {
	for i := range a.Abs[:cap(a.Abs)] {
		a.Abs[:cap(a.Abs)][i] = 0xDEADBEEF
	}
}

func TestArgumentsAndResultsAreApart(t *testing.T) {
	for name, call := range calls {
		samples(t, 3, func(a, b, _ whole.Int) {
			oldA, oldB := clone(a), clone(b)
			results := call(a, b)
			want := cloneAll(results)
			if !slices.EqualFunc(call(a, b), want, same) {
				t.Errorf("%s: another result for the same arguments", name)
			}
			for i := range results {
				spoil(results[i])
				for j := i + 1; j < len(results); j++ {
					is(t, name+", another result", results[j], want[j])
				}
			}
			is(t, name+", an argument", a, oldA)
			is(t, name+", an argument", b, oldB)
			results = call(a, b)
			spoil(a)
			spoil(b)
			if !slices.EqualFunc(results, want, same) {
				t.Errorf("%s: a result shares an argument's memory", name)
			}
		})
	}
}

// One number in both places is like two equal ones.
func TestSameArgumentTwice(t *testing.T) {
	for name, call := range calls {
		samples(t, 3, func(a, _, _ whole.Int) {
			if !slices.EqualFunc(call(a, a), call(clone(a), clone(a)), same) {
				t.Errorf("%s: %v", name, a)
			}
		})
	}
}

// What is asked of a number leaves it as it is.
func TestQuestionsDontModify(t *testing.T) {
	samples(t, 3, func(a, b, _ whole.Int) {
		oldA, oldB := clone(a), clone(b)
		whole.Sign(a)
		whole.Cmp(a, b)
		whole.Bits(a)
		whole.Small(a)
		whole.Text(a)
		is(t, "an argument", a, oldA)
		is(t, "an argument", b, oldB)
	})
}

func TestOddArgumentsEnd(t *testing.T) {
	odd := []whole.Int{}
	for _, abs := range []nat.Nat{
		nil, {}, {0}, make(nat.Nat, 1000), {1}, {0xFFFFFFFF}, {0, 0x80000000},
		append(nat.Nat{1}, make(nat.Nat, 1000)...),
		append(make(nat.Nat, 1000), 1),
		slices.Repeat(nat.Nat{0xFFFFFFFF}, 300),
	} {
		odd = append(odd, whole.Int{Abs: abs}, whole.Int{Neg: true, Abs: abs})
	}
	for _, a := range odd {
		for _, b := range odd {
			for name, call := range calls {
				for _, r := range call(a, b) {
					is(t, name, r, canon(r))
				}
			}
			whole.Cmp(a, b)
		}
		whole.Sign(a)
		whole.Bits(a)
		whole.Small(a)
	}
	for _, n := range []int{math.MinInt, math.MinInt + 1, -1, 0, math.MaxInt} {
		is(t, "Of", whole.Of(n), canon(whole.Of(n)))
	}
	for _, s := range []string{"", "-", "\x00", "\xff\xfe", strings.Repeat("\xff", 300), strings.Repeat("0", 1<<20)} {
		if n, ok := whole.Parse(s); ok || !same(n, pos()) {
			t.Errorf("Parse of %d bytes: got a number", len(s))
		}
	}
}
