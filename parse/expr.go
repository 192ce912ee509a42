package parse

import (
	"litmus/api"
	"litmus/lex"
	"litmus/tree"
	"litmus/whole"
)

// expr reads an expression.
func (p *parser) expr() tree.Expr {
	switch p.next().Text {
	case "let":
		return p.let()
	case "if":
		return p.choice()
	case "match":
		return p.match()
	case "assert":
		return p.assert()
	}
	return p.binary(anyLevel)
}

// let reads a Let.
func (p *parser) let() tree.Expr {
	word := p.take()
	name := p.name()
	p.expect("=")
	value := p.expr()
	p.expect("in")
	rest := p.expr()
	e := part(tree.Let, word, value, rest)
	e.Name = name.Text
	return e
}

// choice reads an If.
func (p *parser) choice() tree.Expr {
	word := p.take()
	condition := p.expr()
	p.expect("then")
	yes := p.expr()
	p.expect("else")
	no := p.expr()
	return part(tree.If, word, condition, yes, no)
}

// match reads a Match.
func (p *parser) match() tree.Expr {
	word := p.take()
	list := p.expr()
	p.expect("with", "[]", "->")
	empty := p.expr()
	p.expect("|")
	head := p.name()
	p.expect("::")
	tail := p.name()
	p.expect("->")
	other := p.expr()
	e := part(tree.Match, word, list, empty, other)
	e.Name, e.Other = head.Text, tail.Text
	return e
}

// assert reads an Assert.
func (p *parser) assert() tree.Expr {
	word := p.take()
	condition := p.expr()
	p.expect(";")
	rest := p.expr()
	return part(tree.Assert, word, condition, rest)
}

// binary reads an operand, and the binary operators of at least that level that follow,
// with their operands.
func (p *parser) binary(least int) tree.Expr {
	e, level := p.one(), operandLevel
	for {
		op, ok := binaryOperator(p.next().Text)
		if !ok || op.level < least || level < op.left {
			return e
		}
		sign := p.take()
		right := p.binary(op.right)
		e, level = part(op.kind, sign, e, right), op.level
	}
}

// one reads an operand that has no binary operators of its own.
func (p *parser) one() tree.Expr {
	kind, ok := unaryOperator(p.next().Text)
	if !ok {
		return p.atom()
	}
	sign := p.take()
	operand := p.one()
	return part(kind, sign, operand)
}

// atom reads an operand without operators.
func (p *parser) atom() tree.Expr {
	token := p.take()
	switch token.Kind {
	case lex.Number:
		e := part(tree.Num, token)
		// A token's digits are always a number: Lex has limited them.
		e.Num, _ = whole.Parse(token.Text)
		return e
	case lex.Name:
		if p.accept("(") {
			return named(tree.Call, token, p.args()...)
		}
		return named(tree.Var, token)
	}
	switch token.Text {
	case "v":
		return named(tree.Var, token)
	case "true":
		return part(tree.True, token)
	case "false":
		return part(tree.False, token)
	case "[]":
		return part(tree.Nil, token)
	case "(":
		e := p.expr()
		p.expect(")")
		return e
	}
	p.fail(token, api.ErrForm)
	return tree.Expr{}
}

// args reads the arguments of a Call, behind their parenthesis.
func (p *parser) args() []tree.Expr {
	var all []tree.Expr
	p.list(func() { all = append(all, p.expr()) })
	return all
}

// part returns an expression at the position of that token.
func part(kind tree.Kind, token lex.Token, kids ...tree.Expr) tree.Expr {
	return tree.Expr{Kind: kind, Kids: kids, Line: token.Line, Col: token.Col}
}

// named is part with the token's text as the Name.
func named(kind tree.Kind, name lex.Token, kids ...tree.Expr) tree.Expr {
	e := part(kind, name, kids...)
	e.Name = name.Text
	return e
}
