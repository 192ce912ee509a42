package tree

import (
	"strings"

	"litmus/whole"
)

// A writer collects a text.
type writer struct {
	strings.Builder
}

// Text returns the text of e, with no more parentheses than it needs, or nothing if e
// isn't valid.
func Text(e Expr) string {
	var w writer
	w.valid(e)
	return w.String()
}

// valid writes e if it is valid: what it calls relies on the number of Kids.
func (w *writer) valid(e Expr) {
	if Right(e) {
		w.expr(e, 0)
	}
}

// expr writes e where that level is required.
func (w *writer) expr(e Expr, level int) {
	if levels[e.Kind] >= level {
		w.bare(e)
		return
	}
	w.WriteByte('(')
	w.bare(e)
	w.WriteByte(')')
}

// bare writes e without parentheses around it.
func (w *writer) bare(e Expr) {
	switch e.Kind {
	case Num:
		w.WriteString(whole.Text(e.Num))
	case Var:
		w.WriteString(e.Name)
	case True, False, Nil:
		w.WriteString(signs[e.Kind])
	case Neg, Not, Len, Hd, Tl:
		w.WriteString(signs[e.Kind])
		w.expr(e.Kids[0], levels[e.Kind])
	case Call:
		w.call(e)
	case If:
		w.phrase(e, "if ", " then ", " else ")
	case Let:
		w.phrase(e, "let "+e.Name+" = ", " in ")
	case Match:
		w.phrase(e, "match ", " with [] -> ", " | "+e.Name+" :: "+e.Other+" -> ")
	case Assert:
		w.phrase(e, "assert ", "; ")
	default:
		w.binary(e)
	}
}

// call writes a Call.
func (w *writer) call(e Expr) {
	w.WriteString(e.Name)
	w.WriteByte('(')
	for i, kid := range e.Kids {
		if i > 0 {
			w.WriteString(", ")
		}
		w.expr(kid, 0)
	}
	w.WriteByte(')')
}

// phrase writes the Kids of e, each after its words.
func (w *writer) phrase(e Expr, words ...string) {
	for i, kid := range e.Kids {
		w.WriteString(words[i])
		w.expr(kid, 0)
	}
}

// binary writes an operator between its operands.
func (w *writer) binary(e Expr) {
	left, right := operandLevels(levels[e.Kind])
	w.expr(e.Kids[0], left)
	w.WriteByte(' ')
	w.WriteString(signs[e.Kind])
	w.WriteByte(' ')
	w.expr(e.Kids[1], right)
}
