package value_test

// P8.1: OfInt, OfBool, OfList, Same, SameAll and Size.

import (
	"slices"
	"testing"

	"litmus/api"
	"litmus/value"
	"litmus/whole"
)

func TestOfInt(t *testing.T) {
	for _, c := range []struct {
		n    whole.Int
		want string
	}{
		{pos(), "0"},
		{neg(), "0"},
		{neg(0, 0), "0"},
		{pos(7), "7"},
		{neg(7, 0), "-7"},
		{pos(0, 1), "4294967296"},
		{neg(0, 0, 1), "-18446744073709551616"},
	} {
		isValue(t, "OfInt", value.OfInt(c.n), c.want)
	}
}

func TestOfBool(t *testing.T) {
	isValue(t, "OfBool", value.OfBool(true), "true")
	isValue(t, "OfBool", value.OfBool(false), "false")
}

func TestOfList(t *testing.T) {
	isValue(t, "of nothing", value.OfList(), "[]")
	isValue(t, "of no numbers", value.OfList([]whole.Int{}...), "[]")
	isValue(t, "of one number", value.OfList(pos(7)), "[7]")
	isValue(t, "of 0", value.OfList(neg(0)), "[0]")
	isValue(t, "of several numbers", value.OfList(pos(5), neg(1, 0), neg(0, 0), pos(0, 1, 0), pos(5)), "[5, -1, 0, 4294967296, 5]")
}

func TestConstructorsOfSamples(t *testing.T) {
	samples(t, func(m maker, l []value.Value) {
		for _, v := range l {
			isValue(t, "OfInt", value.OfInt(v.Int), toBig(v.Int).String())
			isValue(t, "OfList", value.OfList(v.List...), textOf(value.Value{Base: api.List, List: v.List}))
		}
	})
}

// apart has values no two of which are the same.
const apart = "0;1;-1;2;4294967296;4294967297;-4294967296;18446744073709551616;" +
	"true;false;[];[0];[1];[-1];[0, 0];[0, 1];[1, 0];[1, 2];[2, 1];[1, 2, 0];[4294967296];[1, -2]"

func TestSame(t *testing.T) {
	all := vals(t, apart)
	for i, a := range all {
		for j, b := range all {
			if got := value.Same(a, b); got != (i == j) {
				t.Errorf("Same(%s, %s): got %v", textOf(a), textOf(b), got)
			}
		}
	}
}

// What the Base doesn't use doesn't count, nor in which form a number is.
func TestSameIgnores(t *testing.T) {
	m := value.Value{Int: neg(3), Bool: true, List: []whole.Int{pos(8)}}
	for _, c := range []struct {
		what string
		a, b value.Value
	}{
		{"fields beside an Int", value.OfInt(pos(5)), value.Value{Base: api.Int, Int: pos(5), Bool: m.Bool, List: m.List}},
		{"fields beside true", value.OfBool(true), value.Value{Base: api.Bool, Bool: true, Int: m.Int, List: m.List}},
		{"fields beside false", value.OfBool(false), value.Value{Base: api.Bool, Int: m.Int, List: m.List}},
		{"fields beside a List", value.OfList(pos(5)), value.Value{Base: api.List, List: []whole.Int{pos(5)}, Int: m.Int, Bool: m.Bool}},
		{"-0", value.Value{Int: pos()}, value.Value{Int: neg(0, 0)}},
		{"needless limbs", value.Value{Int: neg(5, 6)}, value.Value{Int: neg(5, 6, 0, 0)}},
		{"-0 in a List", value.OfList(pos()), value.Value{Base: api.List, List: []whole.Int{neg(0)}}},
		{"needless limbs in a List", value.OfList(pos(1), neg(2)), value.Value{Base: api.List, List: []whole.Int{pos(1, 0), neg(2, 0)}}},
		{"an empty List", value.Value{Base: api.List}, value.Value{Base: api.List, List: []whole.Int{}}},
	} {
		is(t, c.what, value.Same(c.a, c.b), true)
		is(t, c.what, value.Same(c.b, c.a), true)
		is(t, c.what, value.SameAll([]value.Value{c.a, c.b}, []value.Value{c.b, c.a}), true)
		is(t, c.what, value.Size(c.a), value.Size(c.b))
	}
	m.Base = api.Int
	for _, base := range []api.Base{api.Bool, api.List} {
		other := m
		other.Base = base
		is(t, "only the Base differs", value.Same(m, other), false)
	}
}

func TestSameOfSamples(t *testing.T) {
	samples(t, func(m maker, l []value.Value) {
		for _, a := range l {
			is(t, "itself", value.Same(a, cloned(a)), true)
			for _, b := range l {
				is(t, textOf(a)+", "+textOf(b), value.Same(a, b), textOf(a) == textOf(b))
			}
		}
		other := m.values()
		is(t, "SameAll", value.SameAll(l, clonedAll(l)), true)
		is(t, "SameAll", value.SameAll(l, other), slices.EqualFunc(l, other, func(a, b value.Value) bool { return textOf(a) == textOf(b) }))
	})
}

func TestSameAll(t *testing.T) {
	for _, c := range []struct {
		a, b string
		want bool
	}{
		{"", "", true},
		{"", "0", false},
		{"[]", "", false},
		{"1", "1", true},
		{"1", "2", false},
		{"1;true;[2]", "1;true;[2]", true},
		{"1;true;[2]", "1;true", false},
		{"1;true", "1;true;[2]", false},
		{"1;true;[2]", "0;true;[2]", false},
		{"1;true;[2]", "1;false;[2]", false},
		{"1;true;[2]", "1;true;[3]", false},
		{"1;true;[2]", "true;1;[2]", false},
		{"1;2", "2;1", false},
		{"0", "false", false},
		{"0;0", "[0, 0]", false},
	} {
		is(t, c.a+" and "+c.b, value.SameAll(vals(t, c.a), vals(t, c.b)), c.want)
		is(t, c.b+" and "+c.a, value.SameAll(vals(t, c.b), vals(t, c.a)), c.want)
	}
	is(t, "nil and empty", value.SameAll(nil, []value.Value{}), true)
}

func TestSize(t *testing.T) {
	for _, c := range []struct {
		values string
		want   int
	}{
		{"", 0},
		{"0", 0},
		{"1", 1},
		{"-1", 1},
		{"2", 2},
		{"3", 2},
		{"-4", 3},
		{"4294967295", 32},
		{"-4294967296", 33},
		{"true", 0},
		{"false", 0},
		{"[]", 0},
		{"[0]", 1},
		{"[0, 0, 0]", 3},
		{"[5, -1]", 6},
		{"[-4294967296]", 34},
		{"[5, -1];7;true", 9},
		{"0;[];false;0", 0},
		{"1;1;[1];[1, 1]", 8},
	} {
		is(t, c.values, value.Size(vals(t, c.values)...), c.want)
	}
}

// The Size is the sum of each value's Size, by the definition of bits alone.
func TestSizeOfSamples(t *testing.T) {
	samples(t, func(m maker, l []value.Value) {
		want := 0
		for _, v := range l {
			switch v.Base {
			case api.Int:
				want += toBig(v.Int).BitLen()
			case api.List:
				for _, n := range v.List {
					want += 1 + toBig(n).BitLen()
				}
			}
		}
		is(t, textsOf(l), value.Size(l...), want)
	})
}
