package logic_test

// P10.1: the forms that calls make.

import (
	"math"
	"strconv"
	"testing"

	"litmus/api"
	"litmus/logic"
	"litmus/value"
	"litmus/whole"
)

func TestNames(t *testing.T) {
	for _, name := range []string{"x", "", "a b", "\xff"} {
		isForm(t, "Var", logic.Var(name, api.Int), iv(name))
		isForm(t, "Var", logic.Var(name, api.Bool), bv(name))
		isForm(t, "Var", logic.Var(name, api.List), lv(name))
		for base := range api.Base(3) {
			is(t, "Sort", logic.Sort(logic.Var(name, base)), base)
		}
	}
}

func TestNumbers(t *testing.T) {
	for _, n := range []int{0, 1, -1, 7, -300, math.MaxInt, math.MinInt, 1 << 32, -1 << 32} {
		f := logic.Int(n)
		isForm(t, "Int", f, num(n))
		is(t, "Right", logic.Right(f), true)
		isValue(t, "Eval", logic.Eval(f, nil), strconv.Itoa(n))
	}
}

// Each row has what Both makes of the forms; what Either makes of them has True and False
// exchanged.
func TestBothAndEither(t *testing.T) {
	le, not := of(logic.Le, x, y), of(logic.Not, c)
	for _, c := range []struct {
		l      []logic.Form
		both   logic.Form
		either logic.Form
	}{
		{nil, yes, no}, {[]logic.Form{}, yes, no},
		{[]logic.Form{yes}, yes, yes}, {[]logic.Form{no}, no, no}, {[]logic.Form{yes, yes}, yes, yes}, {[]logic.Form{no, no}, no, no}, {[]logic.Form{yes, no}, no, yes}, {[]logic.Form{no, yes}, no, yes},
		{[]logic.Form{b}, b, b}, {[]logic.Form{le}, le, le},
		{[]logic.Form{yes, b}, b, yes}, {[]logic.Form{b, yes}, b, yes}, {[]logic.Form{yes, b, yes, yes}, b, yes},
		{[]logic.Form{no, b}, no, b}, {[]logic.Form{b, no}, no, b}, {[]logic.Form{no, no, b, no}, no, b},
		{[]logic.Form{yes, b, no}, no, yes}, {[]logic.Form{b, yes, c, no}, no, yes}, {[]logic.Form{no, c, yes, b}, no, yes},
		{[]logic.Form{b, c}, of(logic.And, b, c), of(logic.Or, b, c)}, {[]logic.Form{c, b, le, not}, of(logic.And, c, b, le, not), of(logic.Or, c, b, le, not)},
		{[]logic.Form{b, yes, c, yes}, of(logic.And, b, c), yes}, {[]logic.Form{no, b, no, c}, no, of(logic.Or, b, c)}, {[]logic.Form{yes, c, b, yes}, of(logic.And, c, b), yes},
		{[]logic.Form{b, b}, of(logic.And, b, b), of(logic.Or, b, b)},
		// What is within the elements stays as it is.
		{[]logic.Form{of(logic.And), b}, of(logic.And, of(logic.And), b), of(logic.Or, of(logic.And), b)}, {[]logic.Form{of(logic.And, b, c), b}, of(logic.And, of(logic.And, b, c), b), of(logic.Or, of(logic.And, b, c), b)}, {[]logic.Form{of(logic.Or, b, c), b}, of(logic.And, of(logic.Or, b, c), b), of(logic.Or, of(logic.Or, b, c), b)},
		{[]logic.Form{of(logic.Not, yes), of(logic.Not, no)}, of(logic.And, of(logic.Not, yes), of(logic.Not, no)), of(logic.Or, of(logic.Not, yes), of(logic.Not, no))},
		{[]logic.Form{of(logic.And, no)}, of(logic.And, no), of(logic.And, no)}, {[]logic.Form{of(logic.Or, yes), no, yes}, no, yes},
	} {
		isForm(t, "Both", logic.Both(c.l...), c.both)
		isForm(t, "Either", logic.Either(c.l...), c.either)
	}
}

func TestNo(t *testing.T) {
	le, twice := of(logic.Le, x, y), of(logic.Not, of(logic.Not, b))
	for _, c := range []struct{ f, want logic.Form }{
		{yes, no}, {no, yes}, {b, of(logic.Not, b)}, {of(logic.Not, b), b}, {twice, of(logic.Not, b)}, {of(logic.Not, yes), yes}, {of(logic.Not, no), no},
		{le, of(logic.Not, le)}, {of(logic.And), of(logic.Not, of(logic.And))}, {of(logic.Or, b, c), of(logic.Not, of(logic.Or, b, c))}, {of(logic.Iff, b, c), of(logic.Not, of(logic.Iff, b, c))}, {of(logic.Eq, l, m), of(logic.Not, of(logic.Eq, l, m))},
	} {
		isForm(t, "No of "+logic.Text(c.f), logic.No(c.f), c.want)
	}
}

func TestSame(t *testing.T) {
	for _, c := range []struct {
		op   logic.Op
		a, b logic.Form
	}{
		{logic.Eq, x, y}, {logic.Eq, num(1), of(logic.Len, l)}, {logic.Eq, l, m}, {logic.Eq, void, of(logic.Tl, l)}, {logic.Eq, x, x},
		{logic.Iff, b, c}, {logic.Iff, yes, no}, {logic.Iff, of(logic.Le, x, y), of(logic.And)}, {logic.Iff, of(logic.Not, b), of(logic.Or, b, c)},
	} {
		isForm(t, "Same", logic.Same(c.a, c.b), of(c.op, c.a, c.b))
	}
	for _, f := range valid() {
		g := logic.Same(f, f)
		is(t, "Right of "+logic.Text(g), logic.Right(g), true)
		is(t, logic.Text(g), logic.Holds(g, nil), true)
	}
}

func TestDifferences(t *testing.T) {
	isForm(t, "Less", logic.Less(x, num(3)), of(logic.Le, of(logic.Add, x, num(1)), num(3)))
	isForm(t, "Less", logic.Less(num(1), num(2)), of(logic.Le, of(logic.Add, num(1), num(1)), num(2)))
	isForm(t, "Sub", logic.Sub(x, y), of(logic.Add, x, scale(-1, y)))
	isForm(t, "Sub", logic.Sub(num(3), scale(2, y)), of(logic.Add, num(3), scale(-1, scale(2, y))))
	numbers := []whole.Int{whole.Of(-2), whole.Of(-1), whole.Of(0), whole.Of(1), whole.Of(4294967295), whole.Of(4294967296), whole.Of(math.MaxInt), whole.Of(math.MinInt)}
	for _, a := range numbers {
		for _, b := range numbers {
			env := []logic.Bind{{Name: "x", Value: value.OfInt(a)}, {Name: "y", Value: value.OfInt(b)}}
			is(t, "Less", logic.Holds(logic.Less(x, y), env), whole.Cmp(a, b) < 0)
			isValue(t, "Sub", logic.Eval(logic.Sub(x, y), env), whole.Text(whole.Sub(a, b)))
		}
	}
}

// What calls make of valid forms is valid, and has the meaning that it should have.
func TestMeaningOfWhatIsMade(t *testing.T) {
	const count = 4000
	samples(t, count, "", func(m *maker, f logic.Form) {
		sort := letter(logic.Sort(f))
		env, other := m.env(), m.form(sort, 3)
		isMade := func(what string, g logic.Form, want bool) {
			t.Helper()
			is(t, "Right of "+what, logic.Right(g), true)
			is(t, what, meaning(g, env).(bool), want)
		}
		isMade("Same", logic.Same(f, other), shown(meaning(f, env)) == shown(meaning(other, env)))
		switch sort {
		case "b":
			all, truths := []logic.Form{f, other}, []bool{meaning(f, env).(bool), meaning(other, env).(bool)}
			for range m.Intn(3) {
				all = append(all, pick(m, yes, no, b))
				truths = append(truths, meaning(all[len(all)-1], env).(bool))
			}
			isMade("No", logic.No(f), !truths[0])
			isMade("Both", logic.Both(all...), !contains(truths, false))
			isMade("Either", logic.Either(all...), contains(truths, true))
		case "i":
			isMade("Less", logic.Less(f, other), toBig(logic.Eval(f, env).Int).Cmp(toBig(logic.Eval(other, env).Int)) < 0)
		}
	})
}

// contains reports whether b is one of l.
func contains(l []bool, b bool) bool {
	for _, c := range l {
		if b == c {
			return true
		}
	}
	return false
}
