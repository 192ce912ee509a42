package scope_test

import (
	"math/rand"
	"slices"
	"strconv"
	"testing"

	"litmus/api"
	"litmus/tree"
	"litmus/whole"
)

// A maker makes random programs. One part in slips isn't as it should be; none, if slips
// is 0.
type maker struct {
	*rand.Rand
	slips      int
	funs       []tree.Fun
	refinement bool
	places     int // how many positions were given out
}

// pick returns one of all.
func pick[T any](m *maker, all ...T) T { return all[m.Intn(len(all))] }

// slip reports whether to go wrong.
func (m *maker) slip() bool { return m.slips > 0 && m.Intn(m.slips) == 0 }

// place returns a position that nothing else has.
func (m *maker) place() (line, col int) {
	m.places++
	n := m.places * 7919 % 100003
	return n/100 + 1, n%100 + 1
}

// ordinary are the Kinds by their type, without those that some scopes rule out.
var ordinary = [...][]tree.Kind{
	api.Int:  {tree.Num, tree.Neg, tree.Len, tree.Add, tree.Sub, tree.Mul, tree.Div, tree.Mod},
	api.Bool: {tree.True, tree.False, tree.Not, tree.Eq, tree.Ne, tree.Lt, tree.Le, tree.Gt, tree.Ge, tree.And, tree.Or},
	api.List: {tree.Nil, tree.Cons},
}

// kind returns a Kind for an expression of type b.
func (m *maker) kind(b api.Base, depth int, in []tree.Param) tree.Kind {
	kinds := slices.Clone(ordinary[b])
	if depth == 1 {
		kinds = kinds[:1]
	}
	if _, ok := m.named(b, in); ok || m.slip() {
		kinds = append(kinds, tree.Var, tree.Var, tree.Var)
	}
	if depth == 1 {
		return pick(m, kinds...)
	}
	if m.refinement != m.slip() {
		kinds = append(kinds, [...]tree.Kind{api.Int: tree.Hd, api.Bool: tree.Not, api.List: tree.Tl}[b])
	} else {
		kinds = append(kinds, tree.If, tree.Let, tree.Let, tree.Match, tree.Assert, tree.Assert)
		if _, ok := m.fun(b); ok || m.slip() {
			kinds = append(kinds, tree.Call)
		}
	}
	return pick(m, kinds...)
}

// named returns one of that type that is in scope.
func (m *maker) named(b api.Base, in []tree.Param) (string, bool) {
	var all []string
	for _, p := range in {
		if p.Base == b {
			all = append(all, p.Name)
		}
	}
	if len(all) == 0 {
		return "none", false
	}
	return pick(m, all...), true
}

// fun returns a function with that result.
func (m *maker) fun(b api.Base) (tree.Fun, bool) {
	var all []tree.Fun
	for _, f := range m.funs {
		if f.Result.Base == b {
			all = append(all, f)
		}
	}
	if len(all) == 0 {
		return tree.Fun{Name: "none"}, false
	}
	return pick(m, all...), true
}

// any returns a name that may be in scope elsewhere.
func (m *maker) any() string {
	return pick(m, "v", "none", "f1", "x"+strconv.Itoa(m.Intn(6)))
}

// fresh returns a name that isn't in scope. Names of before may be so again.
func (m *maker) fresh(in []tree.Param) string {
	if m.slip() {
		return m.any()
	}
	return "x" + strconv.Itoa(len(in))
}

// expr returns an expression of type b in that scope, with a Depth of at most depth.
func (m *maker) expr(b api.Base, depth int, in []tree.Param) tree.Expr {
	if m.slip() {
		b = api.Base(m.Intn(3))
	}
	e := tree.Expr{Kind: m.kind(b, depth, in)}
	e.Line, e.Col = m.place()
	kid := func(b api.Base, more ...tree.Param) {
		e.Kids = append(e.Kids, m.expr(b, max(1, depth-1-m.Intn(2)), append(slices.Clone(in), more...)))
	}
	switch e.Kind {
	case tree.Num:
		e.Num = whole.Of(m.Intn(3))
	case tree.Var:
		if e.Name, _ = m.named(b, in); m.slip() {
			e.Name = m.any()
		}
	case tree.Neg, tree.Add, tree.Sub, tree.Mul, tree.Lt, tree.Le, tree.Gt, tree.Ge:
		for range tree.Arity(e.Kind) {
			kid(api.Int)
		}
	case tree.Not, tree.And, tree.Or:
		for range tree.Arity(e.Kind) {
			kid(api.Bool)
		}
	case tree.Len, tree.Hd, tree.Tl:
		kid(api.List)
	case tree.Div, tree.Mod:
		kid(api.Int)
		m.divisor(kid, &e)
	case tree.Eq, tree.Ne:
		same := api.Base(m.Intn(3))
		kid(same)
		kid(same)
	case tree.Cons:
		kid(api.Int)
		kid(api.List)
	default:
		m.control(&e, b, in, kid)
	}
	return e
}

// divisor adds the right operand of a Div or Mod.
func (m *maker) divisor(kid func(b api.Base, more ...tree.Param), e *tree.Expr) {
	if m.slip() {
		kid(api.Int)
		return
	}
	n := tree.Expr{Kind: tree.Num, Num: whole.Of(1 + m.Intn(9))}
	n.Line, n.Col = m.place()
	e.Kids = append(e.Kids, n)
}

// control adds the parts of what may only stand in bodies, of type b.
func (m *maker) control(e *tree.Expr, b api.Base, in []tree.Param, kid func(b api.Base, more ...tree.Param)) {
	switch e.Kind {
	case tree.Call:
		f, _ := m.fun(b)
		e.Name = f.Name
		for i, p := range f.Params {
			kid(p.Base)
			if i == 0 && m.slip() {
				kid(p.Base)
			}
		}
		if m.slip() {
			e.Name = m.any()
		}
	case tree.If:
		kid(api.Bool)
		kid(b)
		kid(b)
	case tree.Let:
		e.Name = m.fresh(in)
		first := api.Base(m.Intn(3))
		kid(first)
		kid(b, tree.Param{Name: e.Name, Base: first})
	case tree.Match:
		e.Name = m.fresh(in)
		head := tree.Param{Name: e.Name, Base: api.Int}
		e.Other = m.fresh(append(slices.Clone(in), head))
		kid(api.List)
		kid(b)
		kid(b, head, tree.Param{Name: e.Other, Base: api.List})
	case tree.Assert:
		kid(api.Bool)
		kid(b)
	}
}

// predicate returns a refinement in that scope.
func (m *maker) predicate(in []tree.Param) tree.Expr {
	m.refinement = true
	e := m.expr(api.Bool, 3, in)
	m.refinement = false
	return e
}

// param returns a Param of that name, which isn't Known.
func (m *maker) param(name string) tree.Param {
	p := tree.Param{Name: name, Base: api.Base(m.Intn(3))}
	p.Line, p.Col = m.place()
	return p
}

// params returns up to most Params, which aren't Known.
func (m *maker) params(most int) []tree.Param {
	var all []tree.Param
	for range m.Intn(most + 1) {
		all = append(all, m.param(m.fresh(all)))
	}
	return all
}

// refine gives p a refinement in that scope, or none.
func (m *maker) refine(p *tree.Param, in []tree.Param) {
	if m.Intn(3) == 0 {
		p.Known = true
		p.Ref = m.predicate(append(slices.Clone(in), tree.Param{Name: "v", Base: p.Base}))
	}
}

// program returns a program with random Quals and Funs.
func (m *maker) program() tree.Program {
	var p tree.Program
	for i := range m.Intn(3) {
		q := tree.Qual{Name: "Q" + strconv.Itoa(i), Params: append([]tree.Param{m.param("v")}, m.params(3)...)}
		if m.slip() {
			q.Name = "Q0"
		}
		q.Line, q.Col = m.place()
		q.Body = m.predicate(q.Params)
		p.Quals = append(p.Quals, q)
	}
	count := 1 + m.Intn(3)
	main := m.Intn(count)
	for i := range count {
		f := tree.Fun{Name: "f" + strconv.Itoa(i), Params: m.params(3), Result: m.param("v")}
		if i == main || m.slip() {
			f.Name = "main"
		}
		if m.slip() {
			f.Name = "f1"
		}
		f.Line, f.Col = m.place()
		p.Funs = append(p.Funs, f)
	}
	m.funs = slices.Clone(p.Funs)
	for i := range p.Funs {
		f := &p.Funs[i]
		for k := range f.Params {
			m.refine(&f.Params[k], f.Params[:k])
		}
		m.refine(&f.Result, f.Params)
		f.Body = m.expr(f.Result.Base, 5, f.Params)
	}
	return p
}

// programs calls f with many programs, always the same ones.
func programs(t *testing.T, slips int, f func(m *maker, p tree.Program)) {
	t.Helper()
	m := &maker{Rand: rand.New(rand.NewSource(int64(slips)))}
	for range 4000 {
		m.slips, m.places = slips, 0
		f(m, m.program())
		if t.Failed() {
			return
		}
	}
}
