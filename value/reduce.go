package value

import (
	"slices"

	"litmus/api"
	"litmus/whole"
)

// Reduce returns all lists of values that result from l by one step, those of the first
// value first: an Int becomes 0 or its half; a List loses a number, or one of its numbers
// becomes 0 or its half.
func Reduce(l []Value) [][]Value {
	var all [][]Value
	for i, v := range l {
		for _, step := range steps(v) {
			all = append(all, slices.Concat(copies(l[:i]), []Value{step}, copies(l[i+1:])))
		}
	}
	return all
}

// steps returns what v becomes by one step.
func steps(v Value) []Value {
	switch v.Base {
	case api.Int:
		return intSteps(v.Int)
	case api.List:
		return append(shorter(v.List), smaller(v.List)...)
	}
	return nil
}

// intSteps returns what the Int n becomes by one step.
func intSteps(n whole.Int) []Value {
	var all []Value
	for _, m := range lesser(n) {
		all = append(all, OfInt(m))
	}
	return all
}

// shorter returns the lists that are l without one number.
func shorter(l []whole.Int) []Value {
	var all []Value
	for i := range l {
		all = append(all, OfList(slices.Concat(l[:i], l[i+1:])...))
	}
	return all
}

// smaller returns the lists that are l with one number reduced.
func smaller(l []whole.Int) []Value {
	var all []Value
	for i, n := range l {
		for _, m := range lesser(n) {
			all = append(all, OfList(slices.Concat(l[:i], []whole.Int{m}, l[i+1:])...))
		}
	}
	return all
}

// lesser returns what the number n becomes by one step: nothing, if it is 0.
func lesser(n whole.Int) []whole.Int {
	if whole.Sign(n) == 0 {
		return nil
	}
	all := []whole.Int{whole.Of(0)}
	half := whole.Half(n)
	if whole.Sign(half) != 0 {
		all = append(all, half)
	}
	return all
}

// copies returns the same values in memory of their own.
func copies(l []Value) []Value {
	all := make([]Value, len(l))
	for i, v := range l {
		all[i] = copyOf(v)
	}
	return all
}

// copyOf returns the same value in memory of its own.
func copyOf(v Value) Value {
	switch v.Base {
	case api.Int:
		return OfInt(v.Int)
	case api.Bool:
		return OfBool(v.Bool)
	}
	return OfList(v.List...)
}
