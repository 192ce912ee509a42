package clause

import "slices"

// A writer has the clauses that state what its new variables mean. Each of those is true
// exactly if something about earlier variables is, so that these determine it.
type writer struct {
	clauses [][]int
	vars    int
}

// Clauses returns clauses and the number of their variables, at least vars: an assignment of
// the first vars variables makes p true exactly if it has an extension that satisfies the
// clauses, and then it has one only. What isn't a proposition of these variables has none.
func Clauses(p Prop, vars int) ([][]int, int) {
	if !isProp(p, vars) {
		return nil, 0
	}
	w := writer{vars: max(vars, 0)}
	w.add(w.literal(p))
	return w.clauses, w.vars
}

// literal returns one that is true exactly if p is.
func (w *writer) literal(p Prop) int {
	switch p.Op {
	case Var:
		return p.Var
	case Not:
		return -w.literal(p.Kids[0])
	case True:
		return -w.either()
	case And:
		// All are true unless the negation of one is.
		return -w.either(w.literals(p.Kids, -1)...)
	case Or:
		return w.either(w.literals(p.Kids, 1)...)
	case Iff:
		return w.alike(w.literal(p.Kids[0]), w.literal(p.Kids[1]))
	}
	return w.either()
}

// literals returns those of all props, each times sign.
func (w *writer) literals(props []Prop, sign int) []int {
	all := make([]int, len(props))
	for i, p := range props {
		all[i] = sign * w.literal(p)
	}
	return all
}

// either returns a new variable that is true exactly if one of the literals is.
func (w *writer) either(literals ...int) int {
	v := w.fresh()
	w.add(slices.Concat([]int{-v}, literals)...)
	for _, l := range literals {
		w.add(v, -l)
	}
	return v
}

// alike returns a new variable that is true exactly if a is true exactly if b is.
func (w *writer) alike(a, b int) int {
	v := w.fresh()
	w.add(-v, -a, b)
	w.add(-v, a, -b)
	w.add(v, a, b)
	w.add(v, -a, -b)
	return v
}

// fresh returns a new variable.
func (w *writer) fresh() int {
	w.vars++
	return w.vars
}

// add adds a clause, and keeps it.
func (w *writer) add(clause ...int) { w.clauses = append(w.clauses, clause) }
