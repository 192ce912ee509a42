package parse

import (
	"litmus/api"
	"litmus/lex"
	"litmus/tree"
)

// program reads quals and funs, up to what is neither.
func (p *parser) program() tree.Program {
	var all tree.Program
	for {
		switch {
		case p.accept("qualif"):
			all.Quals = append(all.Quals, p.qual(len(all.Quals)))
		case p.accept("fun"):
			all.Funs = append(all.Funs, p.fun(len(all.Funs)))
		default:
			return all
		}
	}
}

// qual reads a Qual behind its key word; there are count before it.
func (p *parser) qual(count int) tree.Qual {
	name := p.counted(count, api.MaxQuals)
	q := tree.Qual{Name: name.Text, Line: name.Line, Col: name.Col}
	p.expect("(")
	q.Params = append(q.Params, p.variable())
	for p.accept(",") {
		q.Params = append(q.Params, p.param(len(q.Params)))
	}
	p.expect(")", ":")
	q.Body = p.complete()
	return q
}

// fun reads a Fun behind its key word; there are count before it.
func (p *parser) fun(count int) tree.Fun {
	name := p.counted(count, api.MaxFuns)
	f := tree.Fun{Name: name.Text, Line: name.Line, Col: name.Col}
	p.expect("(")
	p.list(func() {
		f.Params = append(f.Params, p.refined(p.param(len(f.Params))))
	})
	p.expect(":")
	f.Result = p.result()
	p.expect("=")
	f.Body = p.complete()
	return f
}

// variable reads the v of a Qual, with its base.
func (p *parser) variable() tree.Param {
	v := p.next()
	p.expect("v", ":")
	return typed(v, p.base())
}

// param reads a NAME with its base; there are count Params before it.
func (p *parser) param(count int) tree.Param {
	name := p.counted(count, api.MaxParams)
	p.expect(":")
	return typed(name, p.base())
}

// result reads the base and the refinement of a Result.
func (p *parser) result() tree.Param {
	token := p.next()
	result := typed(token, p.base())
	result.Name = "v"
	return p.refined(result)
}

// typed returns the Param of that token.
func typed(token lex.Token, base api.Base) tree.Param {
	return tree.Param{Name: token.Text, Base: base, Line: token.Line, Col: token.Col}
}

// base reads a base.
func (p *parser) base() api.Base {
	token := p.take()
	switch token.Text {
	case "int":
		return api.Int
	case "bool":
		return api.Bool
	case "list":
		return api.List
	}
	p.fail(token, api.ErrForm)
	return 0
}

// refined returns the Param with the refinement that follows, if one does.
func (p *parser) refined(param tree.Param) tree.Param {
	if p.accept("{") {
		param.Known = true
		param.Ref = p.complete()
		p.expect("}")
	}
	return param
}

// complete reads an expression that isn't part of another one. Its Depth counts only
// then: parentheses, however many, add nothing to it.
func (p *parser) complete() tree.Expr {
	first := p.next()
	e := p.expr()
	if tree.Depth(e) > api.MaxDepth {
		p.fail(first, api.ErrLong)
	}
	return e
}
