package facts_test

// P0 and DOC.md's rules: each call ends, doesn't panic, doesn't modify its arguments, and
// has the same result again.

import (
	"math"
	"slices"
	"testing"

	"litmus/facts"
	"litmus/logic"
	"litmus/nat"
	"litmus/whole"
)

// What isn't valid has no promised results, but calls end with some.
func TestInvalidFormsEnd(t *testing.T) {
	ops := []logic.Op{-1, -2, logic.Iff + 1, math.MinInt, math.MaxInt}
	for op := range logic.Iff + 1 {
		ops = append(ops, op)
	}
	nums := []whole.Int{{}, whole.Of(1), whole.Of(-1), {Neg: true}, {Abs: make(nat.Nat, 9)}, {Neg: true, Abs: nat.Nat{3, 0, 0}}}
	for _, op := range ops {
		for _, inner := range ops {
			for kids := range 4 {
				for _, n := range nums {
					f := logic.Form{Op: op, Num: n, Name: "x"}
					for i := range kids {
						f.Kids = append(f.Kids, logic.Form{Op: inner, Num: n, Name: "l", Kids: make([]logic.Form, (kids+i)%3)})
					}
					is(t, "Terms", facts.Terms(f), facts.Terms(f))
					is(t, "Of", facts.Of(f), facts.Of(f))
				}
			}
		}
	}
}

// nested returns inner within as many levels.
func nested(levels int, inner logic.Form, around func(inner logic.Form) logic.Form) logic.Form {
	for range levels {
		inner = around(inner)
	}
	return inner
}

// levels is how many DOC.md's limits allow.
const levels = 1<<16 - 1

// Nesting may have as many levels as DOC.md's limits allow: neither the terms nor the facts
// take up the square of that.
func TestDeepForms(t *testing.T) {
	tenth := func(f logic.Form) logic.Form { return with(logic.Quo, 10, f) }
	for _, c := range []struct {
		inner        logic.Form
		around       func(f logic.Form) logic.Form
		terms, facts int
	}{
		{b, func(f logic.Form) logic.Form { return of(logic.Not, f) }, 0, 0},
		{b, func(f logic.Form) logic.Form { return of(logic.And, of(logic.Le, x, y), f) }, 2, 0},
		{x, func(f logic.Form) logic.Form { return of(logic.Add, f, y) }, levels + 2, 0},
		{x, tenth, levels + 1, 2 * levels},
		// Those of l, and of Nil; for each level, of Tl and the Cons, or of Cons and its Tl.
		{l, func(f logic.Form) logic.Form { return of(logic.Tl, f) }, levels + 1, 2 + 2 + 7*levels},
		{l, func(f logic.Form) logic.Form { return of(logic.Cons, x, f) }, levels + 2, 2 + 2 + 5*levels},
	} {
		f := nested(levels, c.inner, c.around)
		what := logic.Text(c.around(c.inner))
		is(t, "the number of terms of many "+what, len(facts.Terms(f)), c.terms)
		is(t, "the number of facts of many "+what, len(facts.Of(f)), c.facts)
	}
	all := facts.Of(nested(levels, x, tenth))
	areForms(t, "the last fact", all[2*levels-1:], []logic.Form{of(logic.Le, x, of(logic.Add, with(logic.Scale, 10, tenth(x)), num(9)))})
}

func TestWideForms(t *testing.T) {
	const many = 50000
	var all []logic.Form
	for i := range many {
		all = append(all, of(logic.Le, of(logic.Add, x, num(i)), y), b, of(logic.Le, of(logic.Len, l), num(i)))
	}
	f := of(logic.And, all...)
	is(t, "Terms", len(facts.Terms(f)), 2*many+4)
	is(t, "Of", len(facts.Of(f)), 4)
}

// cloned returns f in memory of its own.
func cloned(f logic.Form) logic.Form {
	f.Num.Abs = slices.Clone(f.Num.Abs)
	f.Kids = slices.Clone(f.Kids)
	for i := range f.Kids {
		f.Kids[i] = cloned(f.Kids[i])
	}
	return f
}

func TestArgumentsStay(t *testing.T) {
	samples(t, 1500, func(m maker, f logic.Form) {
		before := cloned(f)
		list, all := facts.Terms(f), facts.Of(f)
		is(t, "the argument", f, before)
		is(t, "Terms again", facts.Terms(f), list)
		is(t, "Of again", facts.Of(f), all)
		areForms(t, "Terms of a copy", facts.Terms(before), list)
		areForms(t, "Of a copy", facts.Of(before), all)
	})
}

// Forms may share parts, but appending to the Kids of one changes no other, and the slices
// that are returned are the caller's.
func TestResultsAreApart(t *testing.T) {
	samples(t, 1500, func(m maker, f logic.Form) {
		list, all := facts.Terms(f), facts.Of(f)
		for _, fact := range all {
			for _, part := range partsOf(fact) {
				is(t, "the capacity", contains(list, part) || cap(part.Kids) == len(part.Kids), true)
			}
		}
		wantedTerms, wantedFacts := slices.Clone(list), slices.Clone(all)
		clear(list)
		clear(all)
		areForms(t, "Terms", facts.Terms(f), wantedTerms)
		areForms(t, "Of", facts.Of(f), wantedFacts)
	})
}
