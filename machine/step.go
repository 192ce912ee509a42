package machine

import (
	"litmus/tree"
	"litmus/value"
)

// A machine is a run. What waits for a part is kept in a slice, not on Go's own stack:
// calls may be nested as deeply as the fuel allows, and from an overflow of that stack
// there is no return.
type machine struct {
	funs    []tree.Fun
	index   map[string]int // of a function, by its name
	fuel    int
	cost    int
	next    *tree.Expr // begins next; nil, if the last one of values is passed on instead
	env     *binding   // what next is evaluated in
	waiting []frame    // expressions that have begun, the outermost first
	values  []datum    // of parts, as far as what waits for them hasn't used them
	over    bool
	outcome Outcome
}

// newMachine returns a machine with that fuel, for programs with these functions.
func newMachine(funs []tree.Fun, fuel int) *machine {
	m := &machine{funs: funs, index: map[string]int{}, fuel: fuel}
	for i, f := range funs {
		m.index[f.Name] = i
	}
	return m
}

// run returns the outcome of main with these arguments.
func (m *machine) run(main tree.Fun, args []value.Value) Outcome {
	for _, v := range args {
		m.give(datumOf(v))
	}
	m.enter(&main)
	for !m.over {
		switch {
		case m.next != nil:
			m.begin()
		case len(m.waiting) > 0:
			m.resume()
		default:
			m.end(Outcome{Kind: Done, Value: valueOf(m.take(), main.Result.Base), Steps: m.cost})
		}
	}
	return m.outcome
}

// begin begins what is next.
func (m *machine) begin() {
	e, env := m.next, m.env
	m.next = nil
	if !m.pay(1) || !m.fits(e) {
		return
	}
	switch {
	case len(e.Kids) > 0:
		m.wait(e, env)
		m.goOn(&e.Kids[0], env)
	case e.Kind == tree.Call:
		// Without arguments, but active: unlike others without parts, it waits.
		m.wait(e, env)
		fallthrough
	default:
		m.complete(e, env)
	}
}

// resume goes on with what has waited for the value that was found last.
func (m *machine) resume() {
	f := &m.waiting[len(m.waiting)-1]
	if f.active() {
		// The value of the body is that of the Call.
		m.leave()
		return
	}
	f.done++
	e, env := f.expr, f.env
	if f.done < unconditional(e) {
		m.goOn(&e.Kids[f.done], env)
		return
	}
	if e.Kind != tree.Call {
		m.leave()
	}
	m.complete(e, env)
}

// complete goes on with e when all its unconditional parts have values.
func (m *machine) complete(e *tree.Expr, env *binding) {
	switch {
	case e.Kind == tree.Call:
		m.call(e)
	case branches(e.Kind):
		m.branch(e, m.take(), env)
	case len(e.Kids) > 0:
		m.operate(e)
	default:
		m.give(leaf(e, env))
	}
}

// fits reports whether e has as many parts as its Kind must have: what follows relies on
// it. It ends the run otherwise.
func (m *machine) fits(e *tree.Expr) bool {
	ok := e.Kind == tree.Call || tree.Arity(e.Kind) == len(e.Kids)
	if !ok {
		m.end(Outcome{Kind: Wrong})
	}
	return ok
}

// call begins the body of the function that e calls.
func (m *machine) call(e *tree.Expr) {
	i, ok := m.index[e.Name]
	if !ok || len(m.funs[i].Params) != len(e.Kids) {
		m.end(Outcome{Kind: Wrong})
		return
	}
	m.enter(&m.funs[i])
}

// enter begins the body of f with its Params bound to the last values.
func (m *machine) enter(f *tree.Fun) {
	args := len(m.values) - len(f.Params)
	env := bindAll(f.Params, m.values[args:])
	m.values = m.values[:args]
	m.goOn(&f.Body, env)
}

// branch goes on with the part of e that its first part, which has that value, leads to.
func (m *machine) branch(e *tree.Expr, first datum, env *binding) {
	switch {
	case e.Kind == tree.And && !first.yes, e.Kind == tree.Or && first.yes:
		m.give(first)
	case e.Kind == tree.Assert && !first.yes:
		m.end(Outcome{Kind: Failed, Line: e.Line, Col: e.Col, Path: m.path(), Steps: m.cost})
	case e.Kind == tree.If && !first.yes:
		m.goOn(&e.Kids[2], env)
	case e.Kind == tree.Let:
		m.goOn(&e.Kids[1], bind(e.Name, first, env))
	case e.Kind == tree.Match && first.list != nil:
		env = bind(e.Name, datum{num: first.list.first}, env)
		m.goOn(&e.Kids[2], bind(e.Other, datum{list: first.list.rest}, env))
	default:
		m.goOn(&e.Kids[1], env)
	}
}

// operate replaces the last values, which are the operands of e, by its own.
func (m *machine) operate(e *tree.Expr) {
	var b datum
	if len(e.Kids) > 1 {
		b = m.take()
	}
	a := m.take()
	// Paid first: what exceeds the fuel may also take too long.
	if m.pay(extra(e.Kind, a, b)) {
		m.give(operation(e.Kind, a, b))
	}
}

// leaf returns the value of an expression without parts.
func leaf(e *tree.Expr, env *binding) datum {
	switch e.Kind {
	case tree.Num:
		return datum{num: e.Num}
	case tree.Var:
		return lookup(e.Name, env)
	}
	return datum{yes: e.Kind == tree.True}
}

// branches reports whether expressions of that Kind have a first part that leads to
// another one, or to none. Others have all their parts evaluated.
func branches(k tree.Kind) bool {
	switch k {
	case tree.And, tree.Or, tree.If, tree.Let, tree.Match, tree.Assert:
		return true
	}
	return false
}

// unconditional returns how many parts of e are evaluated whatever their values are.
func unconditional(e *tree.Expr) int {
	if branches(e.Kind) {
		return 1
	}
	return len(e.Kids)
}
