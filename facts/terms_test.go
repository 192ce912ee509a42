package facts_test

// P11.1: the terms of a form.

import (
	"testing"

	"litmus/facts"
	"litmus/logic"
	"litmus/nat"
	"litmus/whole"
)

func TestTerms(t *testing.T) {
	for _, c := range []struct {
		f    string
		want []string
	}{
		{"x", []string{"x"}}, {"7", []string{"7"}}, {"[]", []string{"[]"}}, {"l", []string{"l"}},
		{"p", nil}, {"true", nil}, {"false", nil}, {"not p", nil}, {"p && q || r", nil}, {"p = q", nil},
		{"x + y", []string{"x + y", "x", "y"}}, {"x * y", []string{"x * y", "x", "y"}}, {"3 * x", []string{"3 * x", "x"}}, {"x / 3", []string{"x / 3", "x"}},
		{"len l", []string{"len l", "l"}}, {"hd l", []string{"hd l", "l"}}, {"tl l", []string{"tl l", "l"}}, {"x :: l", []string{"x :: l", "x", "l"}},
		{"x <= y", []string{"x", "y"}}, {"x = y", []string{"x", "y"}}, {"l = m", []string{"l", "m"}}, {"not (x <= y)", []string{"x", "y"}}, {"(x <= y) = p", []string{"x", "y"}},
		{"x < y", []string{"x + 1", "x", "1", "y"}}, {"x - y", []string{"x + -1 * y", "x", "-1 * y", "y"}},
		// Each before its Kids, and with everything inside it before what follows.
		{"(x + 1) * (y + 2) + 3", []string{"(x + 1) * (y + 2) + 3", "(x + 1) * (y + 2)", "x + 1", "x", "1", "y + 2", "y", "2", "3"}},
		{"hd (tl (x :: l)) <= len m", []string{"hd (tl (x :: l))", "tl (x :: l)", "x :: l", "x", "l", "len m", "m"}},
		{"tl l = 1 :: []", []string{"tl l", "l", "1 :: []", "1", "[]"}},
		{"p && (x <= 1 || q && l = m) && y <= 2", []string{"x", "1", "l", "m", "y", "2"}},
		// Each once, where it comes first.
		{"x + x", []string{"x + x", "x"}}, {"x <= x", []string{"x"}}, {"1 :: 1 :: []", []string{"1 :: 1 :: []", "1", "1 :: []", "[]"}}, {"tl l = l", []string{"tl l", "l"}}, {"l = tl l", []string{"l", "tl l"}},
		{"x <= y && y <= x && x + y <= y + x", []string{"x", "y", "x + y", "y + x"}}, {"hd l <= hd (tl l) && hd l = 1", []string{"hd l", "l", "hd (tl l)", "tl l", "1"}},
		{"1 * x <= 2 * x && x / 1 <= x / 2 && x / 2 <= 1", []string{"1 * x", "x", "2 * x", "x / 1", "x / 2", "1"}},
	} {
		isTerms(t, read(t, c.f, scope("")), c.want...)
	}
}

// What differs in any field is different; an empty slice may be nil or not.
func TestTermsWithOtherFields(t *testing.T) {
	named := logic.Form{Op: logic.Nil, Name: "n"}
	counted := logic.Form{Op: logic.Nil, Num: whole.Of(1)}
	other := logic.Form{Op: logic.IVar, Name: "x", Num: whole.Of(1)}
	f := of(logic.And, of(logic.Eq, void, named), of(logic.Eq, counted, void), of(logic.Le, x, other), of(logic.Le, other, x))
	areForms(t, "Terms", facts.Terms(f), []logic.Form{void, named, counted, x, other})
	bare := logic.Form{Op: logic.Num, Num: whole.Int{Abs: nat.Nat{}}, Kids: []logic.Form{}}
	areForms(t, "Terms", facts.Terms(of(logic.Le, bare, num(0))), []logic.Form{num(0)})
}

// Names and numbers of all kinds tell terms apart, also those that look like something else.
func TestTermsWithOddNames(t *testing.T) {
	var ints, lists []logic.Form
	for _, name := range []string{"", "0", "1", "2", "3", "4", "-1", "x", "x\"", "\"x\"", "\\", " ", "x, y", "(", ")", "\xff", "ÿ", "\n"} {
		ints = append(ints, logic.Form{Op: logic.IVar, Name: name})
		lists = append(lists, logic.Form{Op: logic.LVar, Name: name})
	}
	for i := range 5 {
		ints = append(ints, num(i))
	}
	var all []logic.Form
	for i, f := range ints {
		next := lists[(i+1)%len(lists)]
		all = append(all, of(logic.Le, f, ints[(i+1)%len(ints)]), of(logic.Le, of(logic.Len, next), f), of(logic.Eq, next, of(logic.Cons, f, next)))
	}
	f := of(logic.And, all...)
	areForms(t, "Terms", facts.Terms(f), terms(f))
	areForms(t, "Of", facts.Of(f), wanted(t, f))
}

func TestTermsOfRandomForms(t *testing.T) {
	found := 0
	samples(t, 5000, func(m maker, f logic.Form) {
		got := facts.Terms(f)
		areForms(t, "Terms", got, terms(f))
		found += len(got)
		for _, x := range got {
			is(t, "Right", logic.Right(x), true)
		}
	})
	if found < 10000 {
		t.Errorf("too few terms: %d", found)
	}
}
