package clause_test

// P13.1: Clauses, which an assignment can meet, in one way only, exactly if it makes the
// proposition true.

import (
	"testing"

	"litmus/clause"
)

// The chapter's example: 3 is true exactly if 1 or 2 is, and it is true.
func TestExample(t *testing.T) {
	clauses, vars := clause.Clauses(of(clause.Or, v(1), v(2)), 2)
	is(t, "the variables", vars, 3)
	for _, truth := range assignments(3) {
		want := truth[2] == (truth[0] || truth[1]) && truth[2]
		is(t, "the example", clause.Meets(clauses, truth), want)
	}
	is(t, "an Or's clauses", clauses, [][]int{{-3, 1, 2}, {3, -1}, {3, -2}, {3}})
}

// Each Op, with the numbers of kids and the variables that it may have.
func TestEachOp(t *testing.T) {
	a, b, c := v(1), v(2), v(3)
	for _, p := range []clause.Prop{
		a, c, yes, no,
		of(clause.Not, a), of(clause.Not, no), of(clause.Not, of(clause.Not, b)),
		of(clause.And), of(clause.And, b), of(clause.And, a, b), of(clause.And, a, b, c),
		of(clause.Or), of(clause.Or, b), of(clause.Or, a, b), of(clause.Or, a, b, c),
		of(clause.Iff, a, b), of(clause.Iff, a, c), of(clause.Iff, yes, no),
	} {
		isRight(t, p, 3)
		isRight(t, of(clause.Not, p), 3)
		isRight(t, of(clause.Iff, p, of(clause.Or, a, of(clause.Not, b))), 3)
	}
}

// What occurs repeatedly, with its negation or beside itself, may occur so.
func TestRepeated(t *testing.T) {
	a := v(1)
	notA := of(clause.Not, a)
	inner := of(clause.And, a, v(2))
	for _, kids := range [][]clause.Prop{{a, a}, {a, notA}, {notA, notA}, {inner, inner}, {inner, of(clause.Not, inner)}, {a, inner}} {
		for _, op := range []int{clause.And, clause.Or, clause.Iff} {
			isRight(t, of(op, kids...), 2)
		}
	}
}

func TestClausesOfAllSmall(t *testing.T) {
	for _, p := range smallProps(2) {
		isRight(t, p, 2)
	}
	for i, p := range smallProps(3) {
		if i%7 == 0 {
			isRight(t, p, 2)
		}
	}
}

func TestClausesOfRandom(t *testing.T) {
	for vars := range 5 {
		m := newMaker(vars)
		for range 500 {
			isRight(t, m.prop(5), vars)
		}
	}
}

// Variables that don't occur in p count, and stay as they are.
func TestOtherVariables(t *testing.T) {
	isRight(t, v(1), 4)
	isRight(t, yes, 3)
	isRight(t, of(clause.Or, v(2), v(4)), 6)
	for _, vars := range []int{2, 7, 100000, 1 << 40} {
		clauses, all := clause.Clauses(of(clause.Or, v(1), v(2)), vars)
		is(t, "at least vars", all >= vars, true)
		isWritten(t, clauses, all)
		for _, c := range clauses {
			for _, l := range c {
				if n := max(l, -l); n > 2 && n <= vars {
					t.Errorf("with %d variables, %d occurs", vars, n)
				}
			}
		}
	}
}

// Without variables, their number may be anything that isn't positive.
func TestNoVariables(t *testing.T) {
	for _, vars := range []int{0, -1, -1 << 63} {
		for _, p := range []clause.Prop{yes, no, of(clause.And), of(clause.Or), of(clause.Not, yes), of(clause.Iff, yes, no), of(clause.Iff, no, no)} {
			clauses, all := clause.Clauses(p, vars)
			isWritten(t, clauses, all)
			want := 0
			if truthOf(p, nil) {
				want = 1
			}
			is(t, "the ways", len(extensions(clauses, nil, all)), want)
		}
	}
}
