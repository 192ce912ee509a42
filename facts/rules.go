package facts

import (
	"slices"

	"litmus/logic"
	"litmus/whole"
)

// facts returns the facts of the term x, in the chapter's order.
func (s *store) facts(x id) []id {
	n := s.nodes[x]
	switch n.form.Op {
	case logic.LVar:
		return append(s.lengths(x), s.emptiness(x))
	case logic.Nil:
		return s.lengths(x)
	case logic.Cons:
		return append(s.lengths(x), s.same(s.of(logic.Hd, x), n.kids[0]), s.same(s.of(logic.Tl, x), n.kids[1]))
	case logic.Tl:
		return slices.Concat(s.lengths(x), []id{s.emptiness(x)}, s.tail(x, n.kids[0]))
	case logic.Hd:
		return []id{s.either(s.filled(n.kids[0]), s.same(x, s.number(0)))}
	case logic.Quo:
		return s.quotient(x, n.kids[0], n.form.Num)
	case logic.Mul:
		return s.product(x, n.kids[0], n.kids[1])
	}
	return nil
}

// lengths returns what holds of the length of the list x because of its Op alone.
func (s *store) lengths(x id) []id {
	all := []id{s.le(s.number(0), s.length(x))}
	switch n := s.nodes[x]; n.form.Op {
	case logic.Nil:
		return append(all, s.same(s.length(x), s.number(0)))
	case logic.Cons:
		return append(all, s.same(s.length(x), s.next(s.length(n.kids[1]))))
	}
	return all
}

// emptiness returns the fact that the list x is Nil if it has no length.
func (s *store) emptiness(x id) id {
	return s.either(s.not(s.le(s.length(x), s.number(0))), s.same(x, s.of(logic.Nil)))
}

// tail returns the facts of x as the Tl of l.
func (s *store) tail(x, l id) []id {
	filled := s.filled(l)
	ifFilled := func(fact id) id { return s.either(s.not(filled), fact) }
	return []id{
		ifFilled(s.same(s.length(l), s.next(s.length(x)))),
		s.either(filled, s.same(x, s.of(logic.Nil))),
		ifFilled(s.same(l, s.of(logic.Cons, s.of(logic.Hd, l), x))),
	}
}

// quotient returns the facts of x, the quotient of a by k.
func (s *store) quotient(x, a id, k whole.Int) []id {
	multiple := s.put(logic.Form{Op: logic.Scale, Num: k, Kids: s.forms([]id{x})}, []id{x})
	rest := s.put(logic.Form{Op: logic.Num, Num: whole.Sub(k, whole.Of(1))}, nil)
	return []id{s.le(multiple, a), s.le(a, s.of(logic.Add, multiple, rest))}
}

// product returns the facts of x, the product of a and b.
func (s *store) product(x, a, b id) []id {
	high := func(n id) id { return s.le(s.number(0), n) }
	low := func(n id) id { return s.le(n, s.number(0)) }
	ifBoth := func(p, q, r id) id { return s.either(s.not(p), s.not(q), r) }
	ifOne := func(n, other id) id { return s.either(s.not(s.same(n, s.number(1))), s.same(x, other)) }
	return []id{
		ifBoth(high(a), high(b), high(x)),
		ifBoth(low(a), low(b), high(x)),
		ifBoth(high(a), low(b), low(x)),
		ifBoth(low(a), high(b), low(x)),
		ifOne(a, b),
		ifOne(b, a),
	}
}

// filled returns the formula that the list l isn't empty.
func (s *store) filled(l id) id {
	return s.le(s.number(1), s.length(l))
}

// number returns the number n.
func (s *store) number(n int) id {
	return s.put(logic.Int(n), nil)
}

// next returns n + 1.
func (s *store) next(n id) id {
	return s.of(logic.Add, n, s.number(1))
}

// length returns the length of the list x.
func (s *store) length(x id) id {
	return s.of(logic.Len, x)
}

// le returns a <= b.
func (s *store) le(a, b id) id {
	return s.of(logic.Le, a, b)
}

// same returns a = b for terms: for them, layer 10's Same is an Eq.
func (s *store) same(a, b id) id {
	return s.of(logic.Eq, a, b)
}

// not returns that f doesn't hold: layer 10's No, for what is neither True, False nor a Not.
func (s *store) not(f id) id {
	return s.of(logic.Not, f)
}

// either returns that one of all holds: layer 10's Either, for what is neither True nor
// False.
func (s *store) either(all ...id) id {
	return s.of(logic.Or, all...)
}
