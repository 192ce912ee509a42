package scope

import (
	"slices"

	"litmus/api"
	"litmus/tree"
	"litmus/whole"
)

// base returns the type of e, which is any one after a fault.
func (c *checker) base(e tree.Expr) api.Base {
	switch e.Kind {
	case tree.Let:
		return c.let(e)
	case tree.Match:
		return c.match(e)
	case tree.Assert:
		return c.assert(e)
	}
	types := make([]api.Base, len(e.Kids))
	for i, kid := range e.Kids {
		types[i] = c.base(kid)
	}
	switch e.Kind {
	case tree.Var:
		return c.variable(e)
	case tree.Call:
		return c.call(e, types)
	case tree.If:
		return c.choice(e, types)
	case tree.Eq, tree.Ne:
		c.need(e, types[0] == types[1], api.ErrType)
		return api.Bool
	}
	return c.operation(e, types)
}

// let checks a Let.
func (c *checker) let(e tree.Expr) api.Base {
	value := c.base(e.Kids[0])
	c.need(e, !c.refinement, api.ErrForm)
	c.need(e, add(c.scope, e.Name, value), api.ErrName)
	rest := c.base(e.Kids[1])
	delete(c.scope, e.Name)
	return rest
}

// match checks a Match.
func (c *checker) match(e tree.Expr) api.Base {
	list := c.base(e.Kids[0])
	c.need(e, !c.refinement, api.ErrForm)
	c.need(e, list == api.List, api.ErrType)
	_, nameTaken := c.scope[e.Name]
	_, otherTaken := c.scope[e.Other]
	c.need(e, !nameTaken && !otherTaken && e.Name != e.Other, api.ErrName)
	empty := c.base(e.Kids[1])
	c.scope[e.Name], c.scope[e.Other] = api.Int, api.List
	other := c.base(e.Kids[2])
	delete(c.scope, e.Name)
	delete(c.scope, e.Other)
	c.need(e, empty == other, api.ErrType)
	return empty
}

// assert checks an Assert.
func (c *checker) assert(e tree.Expr) api.Base {
	condition := c.base(e.Kids[0])
	c.need(e, !c.refinement, api.ErrForm)
	c.need(e, condition == api.Bool, api.ErrType)
	return c.base(e.Kids[1])
}

// variable checks a Var.
func (c *checker) variable(e tree.Expr) api.Base {
	base, ok := c.scope[e.Name]
	c.need(e, ok, api.ErrName)
	return base
}

// call checks a Call whose arguments have these types.
func (c *checker) call(e tree.Expr, args []api.Base) api.Base {
	c.need(e, !c.refinement, api.ErrForm)
	f, ok := c.funs[e.Name]
	c.need(e, ok, api.ErrName)
	var params []api.Base
	for _, p := range f.Params {
		params = append(params, p.Base)
	}
	c.need(e, slices.Equal(args, params), api.ErrType)
	return f.Result.Base
}

// choice checks an If whose parts have these types.
func (c *checker) choice(e tree.Expr, types []api.Base) api.Base {
	c.need(e, !c.refinement, api.ErrForm)
	c.need(e, types[0] == api.Bool && types[1] == types[2], api.ErrType)
	return types[1]
}

// operation checks what has a signature, and operands of these types.
func (c *checker) operation(e tree.Expr, operands []api.Base) api.Base {
	want, value := signature(e.Kind)
	c.need(e, slices.Equal(operands, want), api.ErrType)
	switch e.Kind {
	case tree.Hd, tree.Tl:
		c.need(e, c.refinement, api.ErrForm)
	case tree.Div, tree.Mod:
		c.need(e, isPositive(e.Kids[1]), api.ErrForm)
	}
	return value
}

// isPositive reports whether e is a Num of at least 1.
func isPositive(e tree.Expr) bool {
	return e.Kind == tree.Num && whole.Sign(e.Num) > 0
}

// signature returns the types that the operands of that Kind must have, and the type of
// what it makes of them.
func signature(k tree.Kind) (operands []api.Base, value api.Base) {
	switch k {
	case tree.True, tree.False:
		return nil, api.Bool
	case tree.Nil:
		return nil, api.List
	case tree.Neg:
		return []api.Base{api.Int}, api.Int
	case tree.Not:
		return []api.Base{api.Bool}, api.Bool
	case tree.Len, tree.Hd:
		return []api.Base{api.List}, api.Int
	case tree.Tl:
		return []api.Base{api.List}, api.List
	case tree.Add, tree.Sub, tree.Mul, tree.Div, tree.Mod:
		return []api.Base{api.Int, api.Int}, api.Int
	case tree.Lt, tree.Le, tree.Gt, tree.Ge:
		return []api.Base{api.Int, api.Int}, api.Bool
	case tree.And, tree.Or:
		return []api.Base{api.Bool, api.Bool}, api.Bool
	case tree.Cons:
		return []api.Base{api.Int, api.List}, api.List
	}
	return nil, api.Int // a Num
}
