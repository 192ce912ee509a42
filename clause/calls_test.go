package clause_test

// P0 and DOC.md's rules: each call ends, doesn't panic, doesn't modify or keep its
// arguments, and has the same result again.

import (
	"math"
	"slices"
	"testing"

	"litmus/clause"
)

// oddProps are what isn't a proposition: each part of it is one of those.
func oddProps() []clause.Prop {
	odd := []clause.Prop{
		of(-1), of(clause.Iff + 1), of(math.MinInt), of(math.MaxInt),
		v(0), v(-1), v(math.MinInt),
		of(clause.Not), of(clause.Not, v(1), v(2)),
		of(clause.Iff), of(clause.Iff, v(1)), of(clause.Iff, v(1), v(2), v(1)),
	}
	for _, p := range slices.Clone(odd) {
		odd = append(odd, of(clause.Not, p), of(clause.And, v(1), p), of(clause.Or, p), of(clause.Iff, p, v(1)), of(clause.Iff, v(1), p))
	}
	return odd
}

// What isn't a proposition has no promised results, but calls end: it isn't true, and has no
// clauses.
func TestInvalidPropsEnd(t *testing.T) {
	for _, p := range oddProps() {
		is(t, "Holds", clause.Holds(p, []bool{true, true}), false)
		clauses, vars := clause.Clauses(p, 2)
		is(t, "Clauses", clauses, nil)
		is(t, "the variables", vars, 0)
	}
}

// A variable above vars isn't one of those that p may have.
func TestTooFewVariablesEnd(t *testing.T) {
	for _, p := range []clause.Prop{v(3), v(math.MaxInt), of(clause.And, v(1), of(clause.Not, v(3)))} {
		for _, vars := range []int{2, 1, 0, -1, math.MinInt} {
			clauses, all := clause.Clauses(p, vars)
			is(t, "Clauses", clauses, nil)
			is(t, "the variables", all, 0)
		}
	}
}

// Fields that an Op doesn't need don't count.
func TestNeedlessFields(t *testing.T) {
	is(t, "a variable with kids", clause.Holds(clause.Prop{Op: clause.Var, Var: 1, Kids: []clause.Prop{no}}, []bool{true}), true)
	is(t, "true of false", clause.Holds(of(clause.True, no), nil), true)
	and := of(clause.And, v(1), v(2))
	and.Var = 9
	isRight(t, and, 2)
}

// Numbers of variables up to the greatest are let through.
func TestGreatNumbersEnd(t *testing.T) {
	clauses, vars := clause.Clauses(v(math.MaxInt), math.MaxInt)
	is(t, "the clauses", clauses, [][]int{{math.MaxInt}})
	is(t, "the variables", vars, math.MaxInt)
	clause.Clauses(of(clause.Or, v(math.MaxInt), v(1)), math.MaxInt)
	is(t, "Holds", clause.Holds(v(math.MaxInt), []bool{true}), false)
}

// A literal is nonzero: 0 isn't true.
func TestNoLiteralEnds(t *testing.T) {
	for _, truth := range [][]bool{nil, {}, {true}, {false}} {
		is(t, "Meets", clause.Meets([][]int{{0}}, truth), false)
		is(t, "Meets", clause.Meets([][]int{{0, 0, -2}, {-3}}, truth), true)
	}
}

// deep returns a proposition of op with as many levels as the document allows, about 1 and 2.
func deep(op int) clause.Prop {
	p := v(1)
	for i := range 1<<16 - 1 {
		switch op {
		case clause.Not:
			p = of(op, p)
		case clause.Iff:
			p = of(op, yes, p)
		default:
			p = of(op, p, of(clause.Not, v(1+i%2)))
		}
	}
	return p
}

func TestDeep(t *testing.T) {
	// What is true under 1 and 2, under 1 only, under 2 only, and under neither.
	wants := map[int][]bool{
		clause.Not: {false, false, true, true}, clause.Iff: {true, true, false, false},
		clause.And: {false, false, false, false}, clause.Or: {true, true, true, true},
	}
	for op, want := range wants {
		p := deep(op)
		for i, truth := range [][]bool{{true, true}, {true, false}, {false, true}, {false, false}} {
			is(t, "Holds of a deep one", clause.Holds(p, truth), want[i])
		}
		clauses, vars := clause.Clauses(p, 2)
		is(t, "a deep one's clauses", len(clauses) <= 4*parts(p)+1, true)
		isWritten(t, clauses, vars)
	}
}

// A wide proposition takes time in proportion to it.
func TestWide(t *testing.T) {
	const n = 300000
	truth := make([]bool, n)
	for _, op := range []int{clause.And, clause.Or} {
		p := of(op)
		for i := range n {
			p.Kids = append(p.Kids, of(clause.Not, v(i+1)))
		}
		is(t, "Holds of a wide one", clause.Holds(p, truth), true)
		clauses, vars := clause.Clauses(p, n)
		is(t, "a wide one's clauses", len(clauses) <= 4*parts(p)+1, true)
		isWritten(t, clauses, vars)
	}
}

// copied returns p with slices of its own.
func copied(p clause.Prop) clause.Prop {
	kids := slices.Clone(p.Kids)
	for i, kid := range kids {
		kids[i] = copied(kid)
	}
	p.Kids = kids
	return p
}

// Arguments stay as they are, and the same ones have the same results again.
func TestArgumentsStay(t *testing.T) {
	m := newMaker(3)
	for range 300 {
		p := m.prop(5)
		before, truth := copied(p), []bool{true, false, true}
		holds := clause.Holds(p, truth)
		clauses, vars := clause.Clauses(p, 3)
		again, sameVars := clause.Clauses(before, 3)
		is(t, "Clauses again", again, clauses)
		is(t, "their variables again", sameVars, vars)
		is(t, "Holds again", clause.Holds(before, truth), holds)
		meets := clause.Meets(clauses, truth)
		is(t, "the clauses after Meets", clauses, again)
		is(t, "Meets again", clause.Meets(again, truth), meets)
		is(t, "the argument", p, before)
		is(t, "the assignment", truth, []bool{true, false, true})
	}
}

// Each clause has memory of its own: neither another one nor a later result changes with it.
func TestResultsApart(t *testing.T) {
	p := of(clause.Iff, of(clause.And, v(1), v(2)), of(clause.Or, v(1), yes))
	clauses, _ := clause.Clauses(p, 2)
	want, _ := clause.Clauses(p, 2)
	for i, c := range clauses {
		for j := range c {
			c[j] = 99
		}
		_ = append(c, 99)
		for _, other := range clauses[i+1:] {
			is(t, "another clause", slices.Contains(other, 99), false)
		}
	}
	again, _ := clause.Clauses(p, 2)
	is(t, "the clauses again", again, want)
}
