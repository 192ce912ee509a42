package logic_test

// P10.1: different forms have different texts.

import (
	"strings"
	"testing"

	"litmus/logic"
	"litmus/nat"
	"litmus/whole"
)

// apart fails unless all forms that are different have different texts, and the others the
// same one.
func apart(t *testing.T, all []logic.Form) {
	t.Helper()
	first := map[string]logic.Form{}
	for _, f := range all {
		text := logic.Text(f)
		if g, ok := first[text]; ok && !same(f, g) {
			t.Errorf("%q is the text of %v and of %v", text, f, g)
		}
		first[text] = f
		is(t, "the text of a copy", logic.Text(cloned(f)), text)
	}
}

// oddNames are names that could be taken for what is around them.
func oddNames() []string {
	all := []string{"", " ", "x", "x ", " x", "xx", "X", "1", "-1", "0", "(", ")", "x)", ",", "x, ", "\"", "\"x", "x\"", "\"x\"", "\\", "\\\"", "\\x", "\\xff", "\xff", "ÿ", "\u00ff\xff", "\x00", "\\x00", "\n", "\\n", "�", "\xef\xbf", "\u2028", "é", "e\u0301", "Num 1", "x\", Num 1)"}
	for _, f := range valid() {
		all = append(all, logic.Text(f))
	}
	return all
}

func TestTextsOfNames(t *testing.T) {
	var all []logic.Form
	for _, name := range oddNames() {
		for _, f := range []logic.Form{iv(name), bv(name), lv(name), num(1), of(logic.Len, lv(name)), of(logic.Add, iv(name), num(1)), of(logic.Add, num(1), iv(name))} {
			all = append(all, f)
		}
		for _, other := range oddNames() {
			all = append(all, of(logic.Le, iv(name), iv(other)), of(logic.Le, iv(name+other), iv("")), of(logic.And, bv(name), of(logic.And, bv(other))), of(logic.And, of(logic.And, bv(name)), bv(other)))
		}
	}
	apart(t, all)
}

// A name that is, in a text, what stands there for something else: it mustn't be read as
// that.
func TestTextsOfNamesLikeTexts(t *testing.T) {
	around := []func(f logic.Form) logic.Form{
		func(f logic.Form) logic.Form { return f },
		func(f logic.Form) logic.Form { return of(logic.Not, f) },
		func(f logic.Form) logic.Form { return of(logic.And, f) },
		func(f logic.Form) logic.Form { return of(logic.And, f, c) },
		func(f logic.Form) logic.Form { return of(logic.Or, b, f) },
	}
	const mark = "mark"
	found := 0
	for _, wrap := range around {
		before, behind, _ := strings.Cut(logic.Text(wrap(bv(mark))), mark)
		for _, other := range around {
			for _, f := range []logic.Form{other(b), other(bv("\"")), other(bv("\\")), other(of(logic.And, b, c)), of(logic.And, other(b), c), of(logic.And, b, other(c)), of(logic.Or, other(b), other(c)), of(logic.Or, other(b), c), of(logic.Or, b, b, c)} {
				name, ok := strings.CutPrefix(logic.Text(f), before)
				name, last := strings.CutSuffix(name, behind)
				if g := wrap(bv(name)); ok && last && !same(f, g) {
					found++
					is(t, "different texts", logic.Text(g) != logic.Text(f), true)
				}
			}
		}
	}
	if found < 10 {
		t.Errorf("too few such names: %d", found)
	}
}

func TestTextsOfNumbers(t *testing.T) {
	var all []logic.Form
	for _, n := range []whole.Int{{}, whole.Of(1), whole.Of(-1), whole.Of(10), whole.Of(11), whole.Of(-11), whole.Of(4294967295), whole.Of(4294967296), whole.Big(false, nat.Nat{1, 0, 0, 1}), whole.Big(true, nat.Nat{1, 0, 0, 1}), whole.Big(false, nat.Nat{1, 0, 1})} {
		for _, kid := range []logic.Form{x, iv("1"), num(0), num(1), num(-1), num(11), num(10)} {
			all = append(all, kid, logic.Form{Op: logic.Num, Num: n}, logic.Form{Op: logic.Scale, Num: n, Kids: []logic.Form{kid}}, of(logic.Add, logic.Form{Op: logic.Num, Num: n}, kid), of(logic.Add, kid, logic.Form{Op: logic.Num, Num: n}))
			if whole.Sign(n) > 0 {
				all = append(all, logic.Form{Op: logic.Quo, Num: n, Kids: []logic.Form{kid}})
			}
		}
	}
	apart(t, all)
}

// Forms of each Op, of Kids of each sort, nested in all ways.
func TestTextsOfNestedForms(t *testing.T) {
	all := []logic.Form{of(logic.And, b, c), of(logic.And, c, b), of(logic.And, b, b), of(logic.And, b, b, b), of(logic.And, of(logic.And, b, b), b), of(logic.And, b, of(logic.And, b, b)), of(logic.And, of(logic.And, b, b, b)), of(logic.And, of(logic.And), b), of(logic.And, b, of(logic.And)), of(logic.And, of(logic.And, b)), of(logic.And, of(logic.And), of(logic.And)), of(logic.And, of(logic.And, of(logic.And)))}
	forms := valid()
	for range 2 {
		for _, f := range forms {
			switch logic.Sort(f) {
			case 0:
				all = append(all, scale(1, f), scale(2, f), quo(f, 1), quo(f, 2), of(logic.Le, f, x), of(logic.Le, x, f), of(logic.Eq, f, x), of(logic.Cons, f, l), of(logic.Add, f, x), of(logic.Mul, f, x))
			case 1:
				all = append(all, of(logic.Not, f), of(logic.And, f), of(logic.Or, f), of(logic.And, f, b), of(logic.And, b, f), of(logic.Or, f, b), of(logic.Iff, f, b), of(logic.Iff, b, f))
			default:
				all = append(all, of(logic.Len, f), of(logic.Hd, f), of(logic.Tl, f), of(logic.Eq, f, l), of(logic.Eq, l, f), of(logic.Cons, x, f))
			}
		}
		all = append(all, forms...)
		forms = all
	}
	apart(t, all)
}

// All fields tell forms apart, also those that an Op doesn't use.
func TestTextsOfUnusedFields(t *testing.T) {
	var all []logic.Form
	for _, f := range valid() {
		all = append(all, f)
		f.Name += "n"
		all = append(all, f)
		f.Num = whole.Add(f.Num, whole.Of(1))
		all = append(all, f)
		f.Name = ""
		all = append(all, f)
	}
	apart(t, all)
}

func TestTextsOfRandomForms(t *testing.T) {
	var all []logic.Form
	samples(t, 20000, "", func(m *maker, f logic.Form) {
		g := cloned(f)
		p := pick(m, parts(&g)...)
		switch m.Intn(4) {
		case 0:
			p.Op = pick(m, rules...).op
		case 1:
			p.Num = m.number()
		case 2:
			p.Name = pick(m, "", "x", "l", "b", "n")
		case 3:
			*p = m.form(letter(logic.Sort(*p)), 2)
		}
		is(t, "different texts", logic.Text(f) != logic.Text(g), !same(f, g))
		all = append(all, f, g)
	})
	apart(t, all)
}

// An empty slice may be nil or not.
func TestTextsOfEmptySlices(t *testing.T) {
	for _, f := range valid() {
		if len(f.Kids) == 0 {
			g := f
			g.Kids = []logic.Form{}
			g.Num.Abs = append(nat.Nat{}, f.Num.Abs...)
			is(t, "Text", logic.Text(g), logic.Text(f))
			f.Kids = nil
			is(t, "Text", logic.Text(f), logic.Text(g))
		}
	}
}
