package value_test

// P0 and DOC.md's rules: each call ends, doesn't panic, doesn't modify its arguments, has
// the same result again, and gives out memory of its own.

import (
	"math"
	"slices"
	"strings"
	"testing"

	"litmus/api"
	"litmus/nat"
	"litmus/value"
	"litmus/whole"
)

// made returns all values that calls make of v, in the order of the calls.
func made(v value.Value) []value.Value {
	parsed, _ := value.Parse(value.Text(v))
	all := []value.Value{value.OfInt(v.Int), value.OfBool(v.Bool), value.OfList(v.List...), parsed}
	twice := []value.Value{v, v}
	for _, step := range value.Reduce(twice) {
		all = append(all, step...)
	}
	return all
}

// asked returns what calls tell of v.
func asked(v value.Value) []any {
	return []any{value.Same(v, v), value.SameAll([]value.Value{v}, []value.Value{v}), value.Text(v), value.Size(v, v)}
}

// spoil overwrites all memory of v, so that whatever shares it shows.
func spoil(v value.Value) {
	spoilInt(v.Int)
	for i := range v.List {
		spoilInt(v.List[i])
	}
	for i := range v.List[:cap(v.List)] {
		v.List[:cap(v.List)][i] = neg(0xDEADBEEF)
	}
}

func spoilInt(n whole.Int) {
	for i := range n.Abs[:cap(n.Abs)] {
		n.Abs[:cap(n.Abs)][i] = 0xDEADBEEF
	}
}

func TestArgumentsAndResultsAreApart(t *testing.T) {
	samples(t, func(m maker, l []value.Value) {
		if m.Intn(20) > 0 {
			return
		}
		for _, v := range l {
			before := cloned(v)
			results := made(v)
			want := clonedAll(results)
			is(t, "the same results", made(v), want)
			is(t, "the same answers", asked(v), asked(before))
			for i := range results {
				spoil(results[i])
				if i+1 < len(results) {
					is(t, "another result", results[i+1:], want[i+1:])
				}
			}
			is(t, "the argument", v, before)
			results = made(v)
			spoil(v)
			is(t, "results when the argument is gone", results, want)
		}
	})
}

// The lists of Reduce may be changed: neither another one nor the argument shows it.
func TestReduceGivesOutListsOfItsOwn(t *testing.T) {
	l := vals(t, "-4;true;[5, -1];7")
	all := value.Reduce(l)
	want := slices.Clone(all)
	for i := range want {
		want[i] = clonedAll(want[i])
	}
	for i := range all {
		_ = append(all[i], value.OfBool(true))
		clear(all[i][:cap(all[i])])
		is(t, "the next ones", all[i+1:], want[i+1:])
	}
	is(t, "the argument", textsOf(l), "-4;true;[5, -1];7")
	is(t, "the same results", value.Reduce(l), want)
}

// What is behind the end of a slice isn't touched either.
func TestCapacitiesStay(t *testing.T) {
	numbers := []whole.Int{pos(8), pos(9), pos(10), pos(11)}
	l := []value.Value{value.OfInt(pos(3)), value.OfList(), value.OfBool(true), value.OfBool(true)}
	l[1].List = numbers[:2]
	value.OfList(numbers[:2]...)
	value.Size(l[:2]...)
	value.SameAll(l[:2], l[:3])
	value.Reduce(l[:2])
	is(t, "the values", textsOf(l), "3;[8, 9];true;true")
	is(t, "the numbers", numbers, []whole.Int{pos(8), pos(9), pos(10), pos(11)})
}

// Values of another base have no promised results, but a call ends with one.
func TestOtherBasesEnd(t *testing.T) {
	m := value.Value{Int: pos(5), Bool: true, List: []whole.Int{pos(2), neg(3)}}
	for _, b := range []api.Base{-1, 3, 7, math.MinInt, math.MaxInt} {
		m.Base = b
		for _, v := range []value.Value{{Base: b}, m} {
			is(t, "the same answers", asked(v), asked(v))
			is(t, "the same results", made(v), made(v))
			for _, other := range vals(t, apart) {
				is(t, "Same", value.Same(v, other), false)
				is(t, "Same", value.Same(other, v), false)
			}
		}
	}
}

func TestOddNumbersEnd(t *testing.T) {
	for _, abs := range []nat.Nat{nil, {}, {0}, make(nat.Nat, 1000), append(nat.Nat{1}, make(nat.Nat, 1000)...), slices.Repeat(nat.Nat{0xFFFFFFFF}, 300)} {
		for _, n := range []whole.Int{{Abs: abs}, {Neg: true, Abs: abs}} {
			for _, v := range []value.Value{{Base: api.Int, Int: n}, {Base: api.List, List: []whole.Int{n, n}}} {
				is(t, "Text", value.Text(v), textOf(v))
				is(t, "the same results", made(v), made(v))
			}
		}
	}
}

func TestManyNumbers(t *testing.T) {
	const many = 1000
	l := value.OfList(slices.Repeat([]whole.Int{neg(1)}, many)...)
	is(t, "Size", value.Size(l), 2*many)
	is(t, "Same", value.Same(l, value.OfList(l.List[1:]...)), false)
	all := value.Reduce([]value.Value{l})
	is(t, "the number of steps", len(all), 2*many)
	is(t, "the last step", value.Text(all[2*many-1][0]), "["+strings.Repeat("-1, ", many-1)+"0]")
}

func TestManyValues(t *testing.T) {
	const many = 1000
	l := slices.Repeat(vals(t, "1"), many)
	is(t, "Size", value.Size(l...), many)
	is(t, "SameAll", value.SameAll(l, l[1:]), false)
	all := value.Reduce(l)
	is(t, "the number of steps", len(all), many)
	is(t, "the last step", textsOf(all[many-1]), strings.Repeat("1;", many-1)+"0")
}
