package scope

import (
	"maps"

	"litmus/api"
	"litmus/tree"
)

// A checker checks what it is given in the chapter's order. It keeps the first fault,
// and goes on: what it finds behind that doesn't count.
type checker struct {
	funs       map[string]tree.Fun
	scope      map[string]api.Base
	refinement bool // whether what is checked is one; otherwise it is a body
	err        error
}

// newChecker returns a checker without functions, with an empty scope.
func newChecker() *checker {
	return &checker{funs: map[string]tree.Fun{}, scope: map[string]api.Base{}}
}

// program checks p.
func (c *checker) program(p tree.Program) {
	quals := map[string]tree.Qual{}
	for _, q := range p.Quals {
		c.require(add(quals, q.Name, q), q.Line, q.Col, api.ErrName)
		c.qual(q)
	}
	for _, f := range p.Funs {
		c.require(add(c.funs, f.Name, f), f.Line, f.Col, api.ErrName)
	}
	_, found := Main(p)
	c.require(found, 1, 1, api.ErrNone)
	for _, f := range p.Funs {
		c.fun(f)
	}
}

// qual checks the Params and the Body of q.
func (c *checker) qual(q tree.Qual) {
	clear(c.scope)
	for _, p := range q.Params {
		c.require(add(c.scope, p.Name, p.Base), p.Line, p.Col, api.ErrName)
	}
	c.predicate(q.Body)
}

// fun checks the Params, the Result and the Body of f.
func (c *checker) fun(f tree.Fun) {
	clear(c.scope)
	for _, p := range f.Params {
		_, taken := c.scope[p.Name]
		c.require(!taken, p.Line, p.Col, api.ErrName)
		c.known(p)
		c.scope[p.Name] = p.Base
	}
	c.known(f.Result)
	c.need(f.Body, c.complete(f.Body) == f.Result.Base, api.ErrType)
}

// known checks the Ref of p, if it is Known, with v in scope.
func (c *checker) known(p tree.Param) {
	if !p.Known {
		return
	}
	outer := c.scope
	c.scope = maps.Clone(outer)
	c.scope["v"] = p.Base
	c.predicate(p.Ref)
	c.scope = outer
}

// predicate checks e as a refinement, and as a bool.
func (c *checker) predicate(e tree.Expr) {
	c.refinement = true
	c.need(e, c.complete(e) == api.Bool, api.ErrType)
	c.refinement = false
}

// complete returns the type of e, which isn't part of another expression. The chapter
// says nothing about one that isn't valid; what is called here relies on its number of
// Kids.
func (c *checker) complete(e tree.Expr) api.Base {
	if !tree.Right(e) {
		c.need(e, false, api.ErrForm)
		return 0
	}
	return c.base(e)
}

// need keeps err at the position of e, unless ok.
func (c *checker) need(e tree.Expr, ok bool, err api.Errno) {
	c.require(ok, e.Line, e.Col, err)
}

// require keeps err at that position, unless ok or there is an earlier fault.
func (c *checker) require(ok bool, line, col int, err api.Errno) {
	if !ok && c.err == nil {
		c.err = &api.At{Line: line, Col: col, Err: err}
	}
}

// add stores value under a name that isn't taken, and reports whether it did.
func add[T any](all map[string]T, name string, value T) bool {
	if _, taken := all[name]; taken {
		return false
	}
	all[name] = value
	return true
}
