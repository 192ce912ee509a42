package logic

import (
	"slices"

	"litmus/api"
	"litmus/value"
	"litmus/whole"
)

// Eval returns the value of f, where the names are bound as env says: of several bindings
// of a name, the last one counts. A name that isn't bound, or to a value of another sort,
// is 0, false or the empty list.
func Eval(f Form, env []Bind) value.Value {
	// What is called here relies on the Kids; the chapter says nothing about other forms.
	if !Right(f) {
		return value.Value{}
	}
	return bindings(env).value(f)
}

// Holds reports whether f is true, where the names are bound as env says.
func Holds(f Form, env []Bind) bool {
	return Eval(f, env).Bool
}

// bindings are what names are bound to.
type bindings []Bind

// value returns the value of f.
func (env bindings) value(f Form) value.Value {
	switch Sort(f) {
	case api.Bool:
		return value.OfBool(env.truth(f))
	case api.List:
		return value.OfList(env.list(f)...)
	}
	return value.OfInt(env.number(f))
}

// lookup returns the value to which a name of sort b is bound; an empty one, if there is none.
func (env bindings) lookup(name string, b api.Base) value.Value {
	for _, bind := range slices.Backward(env) {
		if bind.Name != name {
			continue
		}
		if bind.Value.Base == b {
			return bind.Value
		}
		// An earlier binding doesn't count, even if it has the sort.
		break
	}
	return value.Value{}
}

// number returns the value of an int.
func (env bindings) number(f Form) whole.Int {
	switch f.Op {
	case Num:
		return f.Num
	case IVar:
		return env.lookup(f.Name, api.Int).Int
	case Len:
		return whole.Of(len(env.list(f.Kids[0])))
	case Hd:
		if l := env.list(f.Kids[0]); len(l) > 0 {
			return l[0]
		}
		return whole.Int{}
	}
	a := env.number(f.Kids[0])
	switch f.Op {
	case Scale:
		return whole.Mul(f.Num, a)
	case Quo:
		quotient, _, _ := whole.Div(a, f.Num)
		return quotient
	case Mul:
		return whole.Mul(a, env.number(f.Kids[1]))
	}
	return whole.Add(a, env.number(f.Kids[1]))
}

// list returns the value of a list, perhaps in memory of a binding.
func (env bindings) list(f Form) []whole.Int {
	switch f.Op {
	case LVar:
		return env.lookup(f.Name, api.List).List
	case Tl:
		l := env.list(f.Kids[0])
		return l[min(1, len(l)):]
	}
	// All at once: a long list isn't to be copied for each Cons.
	var firsts []whole.Int
	for ; f.Op == Cons; f = f.Kids[1] {
		firsts = append(firsts, env.number(f.Kids[0]))
	}
	if f.Op == Nil {
		return firsts
	}
	return append(firsts, env.list(f)...)
}

// truth returns the value of a bool.
func (env bindings) truth(f Form) bool {
	switch f.Op {
	case True:
		return true
	case BVar:
		return env.lookup(f.Name, api.Bool).Bool
	case Le:
		return whole.Cmp(env.number(f.Kids[0]), env.number(f.Kids[1])) <= 0
	case Eq:
		return value.Same(env.value(f.Kids[0]), env.value(f.Kids[1]))
	case Iff:
		return env.truth(f.Kids[0]) == env.truth(f.Kids[1])
	case Not:
		return !env.truth(f.Kids[0])
	case And:
		return !slices.ContainsFunc(f.Kids, func(kid Form) bool { return !env.truth(kid) })
	case Or:
		return slices.ContainsFunc(f.Kids, env.truth)
	}
	return false
}
