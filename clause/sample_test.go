package clause_test

import (
	"math/rand"
	"reflect"
	"testing"

	"litmus/clause"
)

// Constructors, by the fields alone.

func v(n int) clause.Prop { return clause.Prop{Op: clause.Var, Var: n} }

func of(op int, kids ...clause.Prop) clause.Prop { return clause.Prop{Op: op, Kids: kids} }

// yes and no are the constants.
var yes, no = of(clause.True), of(clause.False)

// is fails unless got is want.
func is[T any](t *testing.T, what string, got, want T) {
	t.Helper()
	if !reflect.DeepEqual(got, want) {
		t.Errorf("%s: got %v, want %v", what, got, want)
	}
}

// parts returns how many parts p has, itself among them.
func parts(p clause.Prop) int {
	n := 1
	for _, kid := range p.Kids {
		n += parts(kid)
	}
	return n
}

// A maker makes random propositions of the variables up to vars.
type maker struct {
	*rand.Rand
	vars int
}

func newMaker(vars int) maker { return maker{rand.New(rand.NewSource(1)), vars} }

// prop returns one with at most that many levels.
func (m maker) prop(levels int) clause.Prop {
	if levels <= 1 || m.Intn(8) == 0 {
		return m.leaf()
	}
	op := clause.Not + m.Intn(4)
	kids := map[int]int{clause.Not: 1, clause.And: m.Intn(4), clause.Or: m.Intn(4), clause.Iff: 2}[op]
	p := of(op)
	for range kids {
		p.Kids = append(p.Kids, m.prop(levels-1))
	}
	return p
}

// leaf returns a variable, or sometimes a constant.
func (m maker) leaf() clause.Prop {
	if m.vars == 0 || m.Intn(6) == 0 {
		return of(clause.True + m.Intn(2))
	}
	return v(1 + m.Intn(m.vars))
}

// assignments returns all assignments of n variables.
func assignments(n int) [][]bool {
	all := [][]bool{{}}
	for range n {
		var longer [][]bool
		for _, a := range all {
			longer = append(longer, append(a[:len(a):len(a)], false), append(a[:len(a):len(a)], true))
		}
		all = longer
	}
	return all
}

// smallProps returns all propositions with at most that many levels over 1 and 2, whose And
// and Or have at most two kids.
func smallProps(levels int) []clause.Prop {
	all := []clause.Prop{v(1), v(2), yes, no, of(clause.And), of(clause.Or)}
	if levels <= 1 {
		return all
	}
	inner := smallProps(levels - 1)
	for _, a := range inner {
		all = append(all, of(clause.Not, a), of(clause.And, a), of(clause.Or, a))
		for _, b := range inner {
			all = append(all, of(clause.And, a, b), of(clause.Or, a, b), of(clause.Iff, a, b))
		}
	}
	return all
}

// truthOf is the truth of p, worked out from the table of each Op with two kids: And and Or
// of more are those of the first one and of the rest.
func truthOf(p clause.Prop, truth []bool) bool {
	bit := func(b bool) int { return map[bool]int{true: 1}[b] }
	switch p.Op {
	case clause.Var:
		return p.Var <= len(truth) && truth[p.Var-1]
	case clause.True, clause.False:
		return p.Op == clause.True
	case clause.Not:
		return bit(truthOf(p.Kids[0], truth)) == 0
	case clause.Iff:
		return bit(truthOf(p.Kids[0], truth))+bit(truthOf(p.Kids[1], truth)) != 1
	}
	count := 0
	for _, kid := range p.Kids {
		count += bit(truthOf(kid, truth))
	}
	if p.Op == clause.And {
		return count == len(p.Kids)
	}
	return count > 0
}

// extensions returns those of an assignment to vars variables that satisfy the clauses.
func extensions(clauses [][]int, truth []bool, vars int) [][]bool {
	if isBroken(clauses, truth) {
		return nil
	}
	if len(truth) == vars {
		return [][]bool{truth}
	}
	all := extensions(clauses, append(truth[:len(truth):len(truth)], false), vars)
	return append(all, extensions(clauses, append(truth[:len(truth):len(truth)], true), vars)...)
}

// isBroken reports whether all literals of some clause are false already.
func isBroken(clauses [][]int, truth []bool) bool {
	for _, c := range clauses {
		open := false
		for _, l := range c {
			open = open || max(l, -l) > len(truth) || truth[max(l, -l)-1] == (l > 0)
		}
		if !open {
			return true
		}
	}
	return false
}

// isRight fails unless the clauses of p are as specified.
func isRight(t *testing.T, p clause.Prop, vars int) {
	t.Helper()
	clauses, all := clause.Clauses(p, vars)
	if all < vars || len(clauses) > 4*parts(p)+1 {
		t.Errorf("%v: %d clauses of %d variables", p, len(clauses), all)
	}
	isWritten(t, clauses, all)
	for _, truth := range assignments(vars) {
		want := 0
		if truthOf(p, truth) {
			want = 1
		}
		ways := extensions(clauses, truth, all)
		if len(ways) != want {
			t.Errorf("%v under %v: %d extensions satisfy %v", p, truth, len(ways), clauses)
		}
		for _, way := range ways {
			is(t, "Meets", clause.Meets(clauses, way), true)
		}
	}
}

// isWritten fails unless the literals are nonzero and of existing variables.
func isWritten(t *testing.T, clauses [][]int, vars int) {
	t.Helper()
	for _, c := range clauses {
		for _, l := range c {
			if l == 0 || max(l, -l) > vars {
				t.Errorf("%d isn't a literal of %d variables", l, vars)
			}
		}
	}
}
