package clause_test

// P13.1: Holds, whether a proposition is true under an assignment.

import (
	"testing"

	"litmus/clause"
)

// The Ops are numbered in the chapter's order.
func TestOps(t *testing.T) {
	ops := []int{clause.Var, clause.True, clause.False, clause.Not, clause.And, clause.Or, clause.Iff}
	is(t, "the Ops", ops, []int{0, 1, 2, 3, 4, 5, 6})
}

func TestHolds(t *testing.T) {
	both := []bool{true, false}
	cases := []struct {
		name string
		p    clause.Prop
		want bool
	}{
		{"a true variable", v(1), true},
		{"a false variable", v(2), false},
		{"a variable beyond the end", v(3), false},
		{"true", yes, true},
		{"false", no, false},
		{"not a true one", of(clause.Not, v(1)), false},
		{"not a false one", of(clause.Not, v(2)), true},
		{"not one beyond the end", of(clause.Not, v(3)), true},
		{"all of none", of(clause.And), true},
		{"any of none", of(clause.Or), false},
		{"all of a true one", of(clause.And, v(1)), true},
		{"all of a false one", of(clause.And, v(2)), false},
		{"any of a true one", of(clause.Or, v(1)), true},
		{"any of a false one", of(clause.Or, v(2)), false},
		{"all, the last false", of(clause.And, v(1), yes, v(2)), false},
		{"all, each true", of(clause.And, v(1), yes, v(1)), true},
		{"any, the last true", of(clause.Or, v(2), no, v(1)), true},
		{"any, each false", of(clause.Or, v(2), no, v(2)), false},
		{"both true", of(clause.Iff, v(1), yes), true},
		{"both false", of(clause.Iff, v(2), no), true},
		{"the first only", of(clause.Iff, v(1), v(2)), false},
		{"the second only", of(clause.Iff, v(2), v(1)), false},
		{"nested", of(clause.Not, of(clause.Iff, of(clause.And, v(1), of(clause.Not, v(2))), of(clause.Or, v(2), no))), true},
	}
	for _, c := range cases {
		is(t, c.name, clause.Holds(c.p, both), c.want)
	}
}

// An assignment may be empty.
func TestHoldsOfNothing(t *testing.T) {
	is(t, "a variable", clause.Holds(v(1), nil), false)
	is(t, "its negation", clause.Holds(of(clause.Not, v(1)), []bool{}), true)
	is(t, "true", clause.Holds(yes, nil), true)
	is(t, "false", clause.Holds(no, nil), false)
}

func TestHoldsOfAllSmall(t *testing.T) {
	for _, p := range smallProps(3) {
		for _, truth := range assignments(2) {
			if got := clause.Holds(p, truth); got != truthOf(p, truth) {
				t.Fatalf("%v under %v: got %v", p, truth, got)
			}
		}
	}
}

// Random ones, also under assignments that don't reach all variables.
func TestHoldsOfRandom(t *testing.T) {
	m := newMaker(5)
	for range 3000 {
		p := m.prop(6)
		for n := range 7 {
			truth := make([]bool, n)
			for i := range truth {
				truth[i] = m.Intn(2) == 0
			}
			is(t, "a random proposition", clause.Holds(p, truth), truthOf(p, truth))
		}
	}
}
