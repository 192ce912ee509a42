package logic_test

// P10.1 and P10.2: forms in place of names.

import (
	"strings"
	"testing"

	"litmus/logic"
)

// puts fails unless Put of f is want, for names that are separated by blanks.
func puts(t *testing.T, f logic.Form, names string, by []logic.Form, want logic.Form) {
	t.Helper()
	got := logic.Put(f, strings.Fields(names), by)
	isForm(t, "Put in "+logic.Text(f)+" for "+names, got, want)
	is(t, "Right of "+logic.Text(got), logic.Right(got), true)
}

func TestPut(t *testing.T) {
	one, sum, le := num(1), of(logic.Add, x, y), of(logic.Le, x, y)
	long := of(logic.Cons, x, l)
	for _, c := range []struct {
		f     logic.Form
		names string
		by    []logic.Form
		want  logic.Form
	}{
		{x, "x", []logic.Form{one}, one}, {x, "y", []logic.Form{one}, x}, {x, "", nil, x}, {x, "X xx", []logic.Form{one, one}, x},
		{b, "b", []logic.Form{le}, le}, {l, "l", []logic.Form{long}, long}, {b, "x l", []logic.Form{one, long}, b},
		{sum, "x", []logic.Form{one}, of(logic.Add, one, y)}, {sum, "y", []logic.Form{one}, of(logic.Add, x, one)}, {sum, "z", []logic.Form{one}, sum},
		{of(logic.Add, x, x), "x", []logic.Form{sum}, of(logic.Add, sum, sum)},
		// At the same time, and only once.
		{sum, "x y", []logic.Form{y, x}, of(logic.Add, y, x)}, {sum, "x y", []logic.Form{sum, one}, of(logic.Add, sum, one)}, {x, "x", []logic.Form{sum}, sum},
		// The first one of a repeated name.
		{x, "x x", []logic.Form{one, y}, one}, {sum, "y x y x", []logic.Form{one, y, num(2), num(3)}, of(logic.Add, y, one)},
		// Whatever is around it stays.
		{scale(3, x), "x", []logic.Form{one}, scale(3, one)}, {quo(x, 3), "x", []logic.Form{num(7)}, quo(num(7), 3)}, {of(logic.Mul, x, y), "x", []logic.Form{one}, of(logic.Mul, one, y)},
		{of(logic.Not, b), "b", []logic.Form{yes}, of(logic.Not, yes)}, {of(logic.Not, b), "b", []logic.Form{of(logic.Not, c)}, of(logic.Not, of(logic.Not, c))}, {of(logic.And, b, c), "b", []logic.Form{yes}, of(logic.And, yes, c)}, {of(logic.Or, b), "b", []logic.Form{no}, of(logic.Or, no)}, {of(logic.And, b, of(logic.Or, c, le)), "c x", []logic.Form{of(logic.And, b, b), one}, of(logic.And, b, of(logic.Or, of(logic.And, b, b), of(logic.Le, one, y)))},
		{of(logic.Iff, b, c), "b c", []logic.Form{c, b}, of(logic.Iff, c, b)},
		{of(logic.Eq, of(logic.Hd, l), of(logic.Len, of(logic.Tl, l))), "l", []logic.Form{long}, of(logic.Eq, of(logic.Hd, long), of(logic.Len, of(logic.Tl, long)))},
		{void, "x l b", []logic.Form{one, long, le}, void}, {one, "x", []logic.Form{x}, one}, {of(logic.And), "b", []logic.Form{b}, of(logic.And)},
		// One sort may take the place of a name that has another one elsewhere.
		{of(logic.Le, iv("l"), of(logic.Len, m)), "l", []logic.Form{one}, of(logic.Le, one, of(logic.Len, m))},
	} {
		puts(t, c.f, c.names, c.by, c.want)
	}
	isForm(t, "an empty name", logic.Put(of(logic.Add, iv(""), x), []string{""}, []logic.Form{one}), of(logic.Add, one, x))
}

// P10.2.
func TestPutIsLikeBinding(t *testing.T) {
	samples(t, 20000, "", func(m *maker, f logic.Form) {
		env := m.env()
		var names []string
		var by []logic.Form
		bound := env
		for range m.Intn(5) {
			sort := pick(m, "i", "b", "l")
			names = append(names, m.name(sort))
			by = append(by, m.form(sort, 3))
		}
		for i := len(by) - 1; i >= 0; i-- { // so that of several, the first one counts
			bound = append(bound[:len(bound):len(bound)], logic.Bind{Name: names[i], Value: logic.Eval(by[i], env)})
		}
		g := logic.Put(f, names, by)
		is(t, "Right", logic.Right(g), true)
		is(t, "Sort", logic.Sort(g), logic.Sort(f))
		isValue(t, "Eval", logic.Eval(g, env), shown(meaning(f, bound)))
	})
}
