package parse

import (
	"litmus/api"
	"litmus/lex"
)

// A parser is what is left of the tokens, and the first error. Tokens are told apart
// by their texts alone where these are signs or key words: no name is a key word, and
// only End has no text.
type parser struct {
	rest []lex.Token // ends with End, which isn't taken
	err  error
}

// newParser returns a parser of all tokens of s, or Lex's error.
func newParser(s string) (*parser, error) {
	tokens, err := lex.Lex(s)
	if err != nil {
		return nil, err
	}
	return &parser{rest: tokens}, nil
}

// next returns the token that isn't taken yet.
func (p *parser) next() lex.Token {
	return p.rest[0]
}

// take returns the next token, and goes on to the one behind it.
func (p *parser) take() lex.Token {
	token := p.next()
	if token.Kind != lex.End {
		p.rest = p.rest[1:]
	}
	return token
}

// accept takes the next token if it has that text, and reports whether it has.
func (p *parser) accept(text string) bool {
	if p.next().Text != text {
		return false
	}
	p.take()
	return true
}

// expect takes tokens with these texts.
func (p *parser) expect(texts ...string) {
	for _, text := range texts {
		if !p.accept(text) {
			p.fail(p.next(), api.ErrForm)
		}
	}
}

// name takes a NAME.
func (p *parser) name() lex.Token {
	token := p.take()
	if token.Kind != lex.Name {
		p.fail(token, api.ErrForm)
	}
	return token
}

// counted takes the NAME of one more where there are count, and may be limit.
func (p *parser) counted(count, limit int) lex.Token {
	token := p.name()
	if count >= limit {
		p.fail(token, api.ErrLong)
	}
	return token
}

// list reads parts with a comma between each two, if there are any, and the ) behind
// them.
func (p *parser) list(read func()) {
	if p.accept(")") {
		return
	}
	read()
	for p.accept(",") {
		read()
	}
	p.expect(")")
}

// fail keeps err at that token, unless an earlier one failed. It leaves nothing but
// End, so that all that is being read soon comes to its end.
func (p *parser) fail(token lex.Token, err error) {
	if p.err == nil {
		p.err = &api.At{Line: token.Line, Col: token.Col, Err: err}
	}
	p.rest = p.rest[len(p.rest)-1:]
}

// finish returns the error, which is also one if tokens are left.
func (p *parser) finish() error {
	if token := p.next(); token.Kind != lex.End {
		p.fail(token, api.ErrForm)
	}
	return p.err
}
