package scope

import (
	"cmp"
	"iter"
	"slices"

	"litmus/tree"
)

// Sites returns the Asserts of the bodies of p, function by function, each function's in
// the order of their positions.
func Sites(p tree.Program) []tree.Expr {
	var all []tree.Expr
	for _, f := range p.Funs {
		all = append(all, asserts(f.Body)...)
	}
	return all
}

// asserts returns the Asserts within e in the order of their positions.
func asserts(e tree.Expr) []tree.Expr {
	var all []tree.Expr
	for part := range parts(e) {
		if part.Kind == tree.Assert {
			all = append(all, part)
		}
	}
	// Stable, so that those that share a position have one order, too.
	slices.SortStableFunc(all, func(a, b tree.Expr) int {
		return cmp.Or(cmp.Compare(a.Line, b.Line), cmp.Compare(a.Col, b.Col))
	})
	return all
}

// parts ranges over e and all that is within it.
func parts(e tree.Expr) iter.Seq[tree.Expr] {
	return func(yield func(tree.Expr) bool) { visit(e, yield) }
}

// visit yields e and all that is within it, and reports whether to go on.
func visit(e tree.Expr, yield func(tree.Expr) bool) bool {
	if !yield(e) {
		return false
	}
	for _, kid := range e.Kids {
		if !visit(kid, yield) {
			return false
		}
	}
	return true
}
