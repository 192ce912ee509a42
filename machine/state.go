package machine

import "litmus/tree"

// A frame is an expression that waits for the value of a part.
type frame struct {
	expr *tree.Expr
	env  *binding
	done int // how many of its parts have a value
}

// active reports whether f is a Call whose body is being evaluated.
func (f *frame) active() bool {
	return f.expr.Kind == tree.Call && f.done == len(f.expr.Kids)
}

// path returns the active calls.
func (m *machine) path() []Call {
	all := []Call{{Name: "main"}}
	for _, f := range m.waiting {
		if f.active() {
			all = append(all, Call{f.expr.Name, f.expr.Line, f.expr.Col})
		}
	}
	return all
}

// pay adds n to the cost, and reports whether the fuel suffices.
func (m *machine) pay(n int) bool {
	m.cost += n
	if m.cost > m.fuel {
		m.end(Outcome{Kind: Spent, Steps: m.fuel})
	}
	return !m.over
}

// end ends the run.
func (m *machine) end(o Outcome) {
	m.over, m.outcome = true, o
}

// goOn makes e what begins next.
func (m *machine) goOn(e *tree.Expr, env *binding) {
	m.next, m.env = e, env
}

// wait makes e wait for its first part or, if it is a Call without any, for its body.
func (m *machine) wait(e *tree.Expr, env *binding) {
	m.waiting = append(m.waiting, frame{expr: e, env: env})
}

// leave ends the waiting of what waited last.
func (m *machine) leave() {
	m.waiting = m.waiting[:len(m.waiting)-1]
}

// give adds a value for what waits for it.
func (m *machine) give(d datum) {
	m.values = append(m.values, d)
}

// take removes the last value, and returns it.
func (m *machine) take() datum {
	last := len(m.values) - 1
	d := m.values[last]
	m.values = m.values[:last]
	return d
}
