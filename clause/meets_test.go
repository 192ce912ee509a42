package clause_test

// P13.1: Meets, whether each clause has a true literal.

import (
	"math"
	"testing"

	"litmus/clause"
)

func TestMeets(t *testing.T) {
	truth := []bool{true, false}
	cases := []struct {
		name    string
		clauses [][]int
		want    bool
	}{
		{"no clauses", nil, true},
		{"no clauses, but a slice", [][]int{}, true},
		{"an empty clause", [][]int{{}}, false},
		{"an empty one after another", [][]int{{1}, nil}, false},
		{"a true variable", [][]int{{1}}, true},
		{"its negation", [][]int{{-1}}, false},
		{"a false variable", [][]int{{2}}, false},
		{"its negation", [][]int{{-2}}, true},
		{"a variable beyond the end", [][]int{{3}}, false},
		{"its negation", [][]int{{-3}}, true},
		{"the greatest variable", [][]int{{math.MaxInt}}, false},
		{"its negation", [][]int{{-math.MaxInt}}, true},
		{"the negation of a greater one", [][]int{{math.MinInt}}, true},
		{"the first literal", [][]int{{1, 2, 3}}, true},
		{"the last literal", [][]int{{-1, 2, -2}}, true},
		{"no literal", [][]int{{-1, 2, 3}}, false},
		{"a variable and its negation", [][]int{{2, -2}}, true},
		{"each clause", [][]int{{1}, {2, -3}, {-2}}, true},
		{"all but the last", [][]int{{1}, {2, -3}, {-1}}, false},
		{"all but the first", [][]int{{2}, {1}, {-2}}, false},
	}
	for _, c := range cases {
		is(t, c.name, clause.Meets(c.clauses, truth), c.want)
	}
}

// Without an assignment, each variable is false.
func TestMeetsOfNothing(t *testing.T) {
	is(t, "a variable", clause.Meets([][]int{{1}}, nil), false)
	is(t, "a negation", clause.Meets([][]int{{-1}, {2, -7}}, nil), true)
	is(t, "no clauses", clause.Meets(nil, nil), true)
}

// Random clauses, compared with what isn't broken once all variables have a value.
func TestMeetsOfRandom(t *testing.T) {
	m := newMaker(0)
	for range 2000 {
		clauses := make([][]int, m.Intn(4))
		for i := range clauses {
			for range m.Intn(4) {
				clauses[i] = append(clauses[i], (1+m.Intn(4))*(1-2*m.Intn(2)))
			}
		}
		for _, truth := range assignments(4) {
			is(t, "random clauses", clause.Meets(clauses, truth), !isBroken(clauses, truth))
			short := append(truth[:2:2], false, false)
			is(t, "a short assignment", clause.Meets(clauses, truth[:2]), !isBroken(clauses, short))
		}
	}
}
