package machine

import (
	"slices"

	"litmus/api"
	"litmus/tree"
	"litmus/value"
	"litmus/whole"
)

// A datum is a value within a run. Only the field of its type is set; which one that is
// isn't kept, since a program without faults never asks for another one. Numbers are in
// canonical form, so that their limbs can be counted.
type datum struct {
	num  whole.Int
	yes  bool
	list *cell
}

// A cell is a list that isn't empty. Lists share their rests: a Cons or a Match costs the
// same for a long one, so it may not copy it.
type cell struct {
	first whole.Int
	rest  *cell
}

// A binding is the names that are in scope, the innermost one first.
type binding struct {
	name  string
	value datum
	outer *binding
}

// datumOf returns v in memory of its own.
func datumOf(v value.Value) datum {
	switch v.Base {
	case api.Int:
		return datum{num: canonical(v.Int)}
	case api.Bool:
		return datum{yes: v.Bool}
	}
	var list *cell
	for _, n := range slices.Backward(v.List) {
		list = &cell{canonical(n), list}
	}
	return datum{list: list}
}

// canonical returns n in canonical form.
func canonical(n whole.Int) whole.Int {
	return whole.Big(n.Neg, n.Abs)
}

// numbers returns the numbers of l.
func numbers(l *cell) []whole.Int {
	var all []whole.Int
	for ; l != nil; l = l.rest {
		all = append(all, l.first)
	}
	return all
}

// length returns the length of l.
func length(l *cell) int {
	n := 0
	for ; l != nil; l = l.rest {
		n++
	}
	return n
}

// weight returns what it costs to look at all of d: a number's limbs, and as much and 1
// more for each number of a list.
func weight(d datum) int {
	n := limbs(d.num)
	for l := d.list; l != nil; l = l.rest {
		n += 1 + limbs(l.first)
	}
	return n
}

// limbs returns the number of limbs of n.
func limbs(n whole.Int) int {
	return len(n.Abs)
}

// same reports whether a and b, which are of the same type, are equal.
func same(a, b datum) bool {
	return whole.Cmp(a.num, b.num) == 0 && a.yes == b.yes && sameLists(a.list, b.list)
}

// sameLists reports whether a and b have the same numbers.
func sameLists(a, b *cell) bool {
	for a != nil && b != nil && whole.Cmp(a.first, b.first) == 0 {
		a, b = a.rest, b.rest
	}
	return a == nil && b == nil
}

// bind returns the names of outer, and one more.
func bind(name string, value datum, outer *binding) *binding {
	return &binding{name, value, outer}
}

// bindAll returns the names of params, which have these values.
func bindAll(params []tree.Param, values []datum) *binding {
	var env *binding
	for i, p := range params {
		env = bind(p.Name, values[i], env)
	}
	return env
}

// lookup returns the value of that name, which is in scope.
func lookup(name string, env *binding) datum {
	for ; env != nil; env = env.outer {
		if env.name == name {
			return env.value
		}
	}
	return datum{}
}
