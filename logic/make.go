package logic

import (
	"slices"

	"litmus/api"
	"litmus/whole"
)

// Var returns a name of base type b.
func Var(name string, b api.Base) Form {
	switch b {
	case api.Bool:
		return Form{Op: BVar, Name: name}
	case api.List:
		return Form{Op: LVar, Name: name}
	}
	return Form{Op: IVar, Name: name}
}

// Int returns the number n.
func Int(n int) Form {
	return Form{Op: Num, Num: whole.Of(n)}
}

// Both returns a formula that is true if all of l are: their And, unless it is shorter
// without those that are True, or because one is False.
func Both(l ...Form) Form {
	return joined(And, True, False, l)
}

// Either returns a formula that is true if one of l is: their Or, unless it is shorter
// without those that are False, or because one is True.
func Either(l ...Form) Form {
	return joined(Or, False, True, l)
}

// joined returns the op of l, in which neutral elements don't count, and a decisive one
// alone does.
func joined(op, neutral, decisive Op, l []Form) Form {
	rest := make([]Form, 0, len(l))
	for _, f := range l {
		switch f.Op {
		case decisive:
			return of(decisive)
		case neutral:
		default:
			rest = append(rest, f)
		}
	}
	switch len(rest) {
	case 0:
		return of(neutral)
	case 1:
		return rest[0]
	}
	// Forms may share these Kids: who appends to them is to get a copy.
	return of(op, rest[:len(rest):len(rest)]...)
}

// No returns a formula that is true if f is false: the Kid of a Not, True and False for
// one another, and otherwise a Not.
func No(f Form) Form {
	switch {
	case f.Op == True:
		return of(False)
	case f.Op == False:
		return of(True)
	case f.Op == Not && len(f.Kids) == 1:
		return f.Kids[0]
	}
	return of(Not, f)
}

// Same returns a formula that is true if a and b, which have the same sort, are equal.
func Same(a, b Form) Form {
	if Sort(a) == api.Bool {
		return of(Iff, a, b)
	}
	return of(Eq, a, b)
}

// Less returns a formula that is true if a is less than b.
func Less(a, b Form) Form {
	return of(Le, of(Add, a, Int(1)), b)
}

// Sub returns a - b.
func Sub(a, b Form) Form {
	return of(Add, a, scaled(whole.Of(-1), b))
}

// Put returns f with forms in place of its names: where one of names stands, the form
// by at the same index, for a repeated name that at the first one. Names within these
// forms stay.
func Put(f Form, names []string, by []Form) Form {
	switch f.Op {
	case IVar, LVar, BVar:
		if i := slices.Index(names, f.Name); 0 <= i && i < len(by) {
			return by[i]
		}
	}
	if len(f.Kids) == 0 {
		return f
	}
	kids := make([]Form, len(f.Kids))
	for i, kid := range f.Kids {
		kids[i] = Put(kid, names, by)
	}
	f.Kids = kids
	return f
}

// of returns the form of an Op that has neither Num nor Name, with these Kids, whose
// slice it keeps.
func of(op Op, kids ...Form) Form {
	return Form{Op: op, Kids: kids}
}

// scaled returns n times f.
func scaled(n whole.Int, f Form) Form {
	return Form{Op: Scale, Num: n, Kids: []Form{f}}
}
