package lex

import (
	"strings"

	"litmus/api"
)

// A reader is what is left of a source, and its position.
type reader struct {
	rest      string
	line, col int
}

// next skips the blanks and splits off the token behind them.
func (r *reader) next() (Token, error) {
	r.skip(blanks(r.rest))
	kind, length, err := measure(r.rest)
	if err != nil {
		return Token{}, r.fault(err)
	}
	// A copy, so that a token that is kept doesn't keep the whole source.
	text := strings.Clone(r.rest[:length])
	token := Token{Kind: kind, Text: text, Line: r.line, Col: r.col}
	r.skip(length)
	return token, nil
}

// skip leaves out the first n bytes.
func (r *reader) skip(n int) {
	for i := range n {
		r.col++
		if r.rest[i] == '\n' {
			r.line, r.col = r.line+1, 1
		}
	}
	r.rest = r.rest[n:]
}

// fault returns err with the position.
func (r *reader) fault(err error) error {
	return &api.At{Line: r.line, Col: r.col, Err: err}
}
