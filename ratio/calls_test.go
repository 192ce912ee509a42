package ratio_test

// P0 and DOC.md's rules: every call ends, doesn't panic, leaves its arguments as
// they are, has the same results again, and gives out memory of its own.

import (
	"slices"
	"testing"

	"litmus/nat"
	"litmus/ratio"
	"litmus/whole"
)

// calls are all calls that return numbers, by their names. An integer among the
// results stands as Num.
var calls = map[string]func(a, b ratio.Rat) ratio.Rat{
	"Of":   func(a, _ ratio.Rat) ratio.Rat { return ratio.Of(a.Num) },
	"Add":  ratio.Add,
	"Sub":  ratio.Sub,
	"Mul":  ratio.Mul,
	"Neg":  func(a, _ ratio.Rat) ratio.Rat { return ratio.Neg(a) },
	"Frac": func(a, b ratio.Rat) ratio.Rat { return first(ratio.Frac(a.Num, b.Num)) },
	"Quo":  func(a, b ratio.Rat) ratio.Rat { return first(ratio.Quo(a, b)) },
	"Floor": func(a, _ ratio.Rat) ratio.Rat {
		return ratio.Rat{Num: ratio.Floor(a)}
	},
	"Ceil": func(a, _ ratio.Rat) ratio.Rat {
		return ratio.Rat{Num: ratio.Ceil(a)}
	},
	"Whole": func(a, _ ratio.Rat) ratio.Rat {
		n, _ := ratio.Whole(a)
		return ratio.Rat{Num: n}
	},
}

func first(a ratio.Rat, _ bool) ratio.Rat {
	return a
}

func clone(a ratio.Rat) ratio.Rat {
	return ratio.Rat{Num: whole.Int{Neg: a.Num.Neg, Abs: slices.Clone(a.Num.Abs)}, Den: slices.Clone(a.Den)}
}

// spoil overwrites all memory of a number, so that whatever shares it shows.
func spoil(a nat.Nat) {
	for i := range a[:cap(a)] {
		a[:cap(a)][i] = 0xDEADBEEF
	}
}

func TestArgumentsAndResultsAreApart(t *testing.T) {
	for name, call := range calls {
		check := func(a, b ratio.Rat) {
			a, b = clone(a), clone(b)
			oldA, oldB := clone(a), clone(b)
			result := call(a, b)
			want := clone(result)
			is(t, name+", again", call(a, b), want)
			spoil(result.Num.Abs)
			if !slices.Equal(result.Den, want.Den) {
				t.Errorf("%s: Num and Den share memory", name)
			}
			spoil(result.Den)
			is(t, name+", an argument", a, oldA)
			is(t, name+", an argument", b, oldB)
			is(t, name+", again after its result was overwritten", call(a, b), want)
			result = call(a, b)
			spoil(a.Num.Abs)
			spoil(a.Den)
			spoil(b.Num.Abs)
			spoil(b.Den)
			is(t, name+", with an argument overwritten", result, want)
		}
		smalls(t, check)
		samples(t, 2, func(a, b, _ ratio.Rat) { check(a, b) })
	}
}

// One number in both places is like two equal ones.
func TestSameArgumentTwice(t *testing.T) {
	for name, call := range calls {
		samples(t, 2, func(a, _, _ ratio.Rat) {
			is(t, name, call(a, a), call(clone(a), clone(a)))
		})
	}
}

// One memory as Num and Den of an argument is like two.
func TestSharedArgument(t *testing.T) {
	for name, call := range calls {
		samples(t, 2, func(a, b, _ ratio.Rat) {
			a.Den = a.Num.Abs
			want := call(clone(a), b)
			is(t, name, call(a, b), want)
		})
	}
}

// What is asked of a number leaves it as it is.
func TestQuestionsDontModify(t *testing.T) {
	samples(t, 2, func(a, b, _ ratio.Rat) {
		oldA, oldB := clone(a), clone(b)
		ratio.Sign(a)
		ratio.Cmp(a, b)
		ratio.Text(a)
		is(t, "an argument", a, oldA)
		is(t, "an argument", b, oldB)
	})
}

// isTrimmed fails if a has needless limbs, or is -0.
func isTrimmed(t *testing.T, name string, a ratio.Rat) {
	t.Helper()
	for _, n := range []nat.Nat{a.Num.Abs, a.Den} {
		if len(n) > 0 && n[len(n)-1] == 0 {
			t.Errorf("%s: needless limbs", name)
		}
	}
	if a.Num.Neg && len(a.Num.Abs) == 0 {
		t.Errorf("%s: -0", name)
	}
}

func TestOddArgumentsEnd(t *testing.T) {
	abs := []nat.Nat{
		nil, {}, {0}, make(nat.Nat, 500), {1}, {0xFFFFFFFF}, {0, 0x80000000},
		append(nat.Nat{1}, make(nat.Nat, 500)...),
		append(make(nat.Nat, 100), 1),
		slices.Repeat(nat.Nat{0xFFFFFFFF}, 100),
	}
	var odd []ratio.Rat
	for _, num := range abs {
		for _, den := range abs {
			odd = append(odd, ratio.Rat{Num: whole.Int{Abs: num}, Den: den}, ratio.Rat{Num: whole.Int{Neg: true, Abs: num}, Den: den})
		}
	}
	for _, a := range odd {
		for _, b := range odd[:60] {
			for name, call := range calls {
				isTrimmed(t, name, call(a, b))
				isTrimmed(t, name, call(b, a))
			}
			ratio.Cmp(a, b)
		}
		ratio.Sign(a)
		ratio.Text(a)
	}
}
