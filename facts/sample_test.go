package facts_test

import (
	"math/rand"
	"reflect"
	"slices"
	"strconv"
	"strings"
	"testing"

	"litmus/api"
	"litmus/facts"
	"litmus/logic"
	"litmus/parse"
	"litmus/tree"
	"litmus/value"
	"litmus/whole"
)

// Constructors, by the fields alone.

func of(op logic.Op, kids ...logic.Form) logic.Form { return logic.Form{Op: op, Kids: kids} }

func num(n int) logic.Form { return logic.Form{Op: logic.Num, Num: whole.Of(n)} }

func with(op logic.Op, n int, kid logic.Form) logic.Form {
	return logic.Form{Op: op, Num: whole.Of(n), Kids: []logic.Form{kid}}
}

// Forms that tests use.
var (
	x, y = logic.Form{Op: logic.IVar, Name: "x"}, logic.Form{Op: logic.IVar, Name: "y"}
	b, c = logic.Form{Op: logic.BVar, Name: "b"}, logic.Form{Op: logic.BVar, Name: "c"}
	l, m = logic.Form{Op: logic.LVar, Name: "l"}, logic.Form{Op: logic.LVar, Name: "m"}
	void = of(logic.Nil)
)

// names are those that texts of forms may contain, by their sorts.
var names = map[api.Base]string{api.Int: "x y z a b h", api.Bool: "p q r", api.List: "l m t"}

// scope returns the names, each with its sort. The lists are those of lists as well.
func scope(lists string) []tree.Param {
	var all []tree.Param
	for base := range api.Base(3) {
		for name := range strings.FieldsSeq(names[base]) {
			all = append(all, tree.Param{Name: name, Base: base})
		}
	}
	for name := range strings.FieldsSeq(lists) {
		all = append(all, tree.Param{Name: name, Base: api.List})
	}
	return all
}

// read returns the form of an expression, such as "len l + 1".
func read(t *testing.T, s string, scope []tree.Param) logic.Form {
	t.Helper()
	e, err := parse.Expr(s)
	if err != nil {
		t.Fatalf("%q: %v", s, err)
	}
	f, ok := logic.From(e, scope)
	if !ok {
		t.Fatalf("%q has no form", s)
	}
	return f
}

// readFact returns the form of a fact in the chapter's notation, but that "or" is "||": what
// stands between these belongs to one Either.
func readFact(t *testing.T, s string, scope []tree.Param) logic.Form {
	t.Helper()
	var all []logic.Form
	for part := range strings.SplitSeq(s, " || ") {
		all = append(all, read(t, part, scope))
	}
	return logic.Either(all...)
}

// A rule is what the chapter says about terms of an Op: what the Kids are called, and the
// facts, where x is the term, K its Num, and J that less 1.
type rule struct {
	kids  string
	facts []string
}

// isEmpty is the fact about lists that are neither Nil nor a Cons.
const isEmpty = "not (len x <= 0) || x = []"

// rules are the chapter's, for each Op that has any.
var rules = map[logic.Op]rule{
	logic.LVar: {"", []string{"0 <= len x", isEmpty}},
	logic.Nil:  {"", []string{"0 <= len x", "len x = 0"}},
	logic.Cons: {"h t", []string{"0 <= len x", "len x = len t + 1", "hd x = h", "tl x = t"}},
	logic.Tl: {"l", []string{
		"0 <= len x", isEmpty,
		"not (1 <= len l) || len l = len x + 1", "1 <= len l || x = []", "not (1 <= len l) || l = (hd l :: x)",
	}},
	logic.Hd:  {"l", []string{"1 <= len l || x = 0"}},
	logic.Quo: {"a", []string{"K * x <= a", "a <= K * x + J"}},
	logic.Mul: {"a b", []string{
		"not (0 <= a) || not (0 <= b) || 0 <= x",
		"not (a <= 0) || not (b <= 0) || 0 <= x",
		"not (0 <= a) || not (b <= 0) || x <= 0",
		"not (a <= 0) || not (0 <= b) || x <= 0",
		"not (a = 1) || x = b",
		"not (b = 1) || x = a",
	}},
}

// moreRules are the chapter's for lists that only facts have: any, a Nil, and a Cons.
var moreRules = map[logic.Op]rule{
	logic.LVar: {"", []string{"0 <= len x"}},
	logic.Tl:   {"l", []string{"0 <= len x"}},
	logic.Nil:  {"", []string{"0 <= len x", "len x = 0"}},
	logic.Cons: {"h t", []string{"0 <= len x", "len x = len t + 1"}},
}

// apply returns what the rules say about the term f.
func apply(t *testing.T, rules map[logic.Op]rule, f logic.Form) []logic.Form {
	t.Helper()
	lists := ""
	if logic.Sort(f) == api.List {
		lists = "x"
	}
	r := rules[f.Op]
	names, by := append(strings.Fields(r.kids), "x"), append(slices.Clone(f.Kids), f)
	numbers := strings.NewReplacer("K", whole.Text(f.Num), "J", whole.Text(whole.Sub(f.Num, whole.Of(1))))
	var all []logic.Form
	for _, fact := range r.facts {
		all = append(all, logic.Put(readFact(t, numbers.Replace(fact), scope(lists)), names, by))
	}
	return all
}

// partsOf returns f and all that is within it, each before its Kids.
func partsOf(f logic.Form) []logic.Form {
	all := []logic.Form{f}
	for _, kid := range f.Kids {
		all = append(all, partsOf(kid)...)
	}
	return all
}

// terms returns what Terms must return: by the chapter, word for word.
func terms(f logic.Form) []logic.Form {
	var all []logic.Form
	for _, part := range partsOf(f) {
		if logic.Sort(part) != api.Bool && !contains(all, part) {
			all = append(all, part)
		}
	}
	return all
}

// wanted returns what Of must return: by the chapter, word for word.
func wanted(t *testing.T, f logic.Form) []logic.Form {
	t.Helper()
	known := terms(f)
	var all []logic.Form
	for _, x := range known {
		all = append(all, apply(t, rules, x)...)
	}
	for _, fact := range slices.Clone(all) {
		for _, x := range terms(fact) {
			if logic.Sort(x) == api.List && !contains(known, x) {
				known = append(known, x)
				all = append(all, apply(t, moreRules, x)...)
			}
		}
	}
	return all
}

// contains reports whether f is one of all.
func contains(all []logic.Form, f logic.Form) bool {
	return slices.ContainsFunc(all, func(g logic.Form) bool { return same(f, g) })
}

// same reports whether all fields of f and g are the same, whether empty slices are nil or
// not.
func same(f, g logic.Form) bool {
	return f.Op == g.Op && f.Name == g.Name && f.Num.Neg == g.Num.Neg && slices.Equal(f.Num.Abs, g.Num.Abs) && slices.EqualFunc(f.Kids, g.Kids, same)
}

// is fails unless got is want.
func is[T any](t *testing.T, what string, got, want T) {
	t.Helper()
	if !reflect.DeepEqual(got, want) {
		t.Errorf("%s: got %v, want %v", what, got, want)
	}
}

// areForms fails unless got is want.
func areForms(t *testing.T, what string, got, want []logic.Form) {
	t.Helper()
	if !slices.EqualFunc(got, want, same) {
		t.Errorf("%s:\n got %s\nwant %s", what, shown(got), shown(want))
	}
}

// shown returns the texts of all, one in a line.
func shown(all []logic.Form) string {
	s := strconv.Itoa(len(all))
	for _, f := range all {
		s += "\n\t" + logic.Text(f)
	}
	return s
}

// A maker makes random forms and values.
type maker struct{ *rand.Rand }

// pick returns one of all.
func pick[T any](m maker, all ...T) T { return all[m.Intn(len(all))] }

// shapes are what a form of each sort is made of: an Op, and the sorts of its Kids by
// letters (i, b and l), where * is any number of the letter before it.
var shapes = [3][]struct {
	op   logic.Op
	kids string
}{
	api.Int:  {{logic.Num, ""}, {logic.IVar, ""}, {logic.Add, "ii"}, {logic.Scale, "i"}, {logic.Mul, "ii"}, {logic.Quo, "i"}, {logic.Len, "l"}, {logic.Hd, "l"}},
	api.Bool: {{logic.True, ""}, {logic.False, ""}, {logic.BVar, ""}, {logic.Le, "ii"}, {logic.Eq, "ii"}, {logic.Eq, "ll"}, {logic.Not, "b"}, {logic.And, "b*"}, {logic.Or, "b*"}, {logic.Iff, "bb"}},
	api.List: {{logic.LVar, ""}, {logic.Nil, ""}, {logic.Cons, "il"}, {logic.Tl, "l"}},
}

// form returns a valid form of that sort, with at most so many levels. There are few
// different names and numbers in it: so many parts occur again.
func (m maker) form(b api.Base, depth int) logic.Form {
	r := pick(m, shapes[b]...)
	for depth == 1 && r.kids != "" && r.kids != "b*" || depth > 2 && r.kids == "" && m.Intn(4) > 0 {
		r = pick(m, shapes[b]...)
	}
	f := logic.Form{Op: r.op}
	switch r.op {
	case logic.Num, logic.Scale:
		f.Num = whole.Of(m.Intn(5) - 2)
	case logic.Quo:
		f.Num = whole.Of(1 + m.Intn(4))
	case logic.IVar, logic.LVar, logic.BVar:
		f.Name = pick(m, strings.Fields(names[b])[:2]...)
	}
	kids := r.kids
	if kids == "b*" {
		kids = strings.Repeat("b", m.Intn(min(4, depth)))
	}
	for i := range kids {
		f.Kids = append(f.Kids, m.form(api.Base(strings.IndexByte("ibl", kids[i])), max(1, depth-1-m.Intn(2))))
	}
	return f
}

// env binds all names that forms have to values: mostly of their sorts.
func (m maker) env() []logic.Bind {
	var all []logic.Bind
	for base := range api.Base(3) {
		for name := range strings.FieldsSeq(names[base]) {
			all = append(all, logic.Bind{Name: name, Value: m.value(pick(m, base, base, base, api.Base(m.Intn(3))))})
		}
	}
	return all
}

// value returns a value of that Base.
func (m maker) value(b api.Base) value.Value {
	switch b {
	case api.Int:
		return value.OfInt(whole.Of(m.Intn(9) - 4))
	case api.Bool:
		return value.OfBool(m.Intn(2) == 0)
	}
	var all []whole.Int
	for range m.Intn(4) {
		all = append(all, whole.Of(m.Intn(5)-2))
	}
	return value.OfList(all...)
}

// samples calls f with many forms, always the same ones.
func samples(t *testing.T, count int, f func(m maker, f logic.Form)) {
	t.Helper()
	m := maker{rand.New(rand.NewSource(1))}
	for i := range count {
		form := m.form(api.Base(i%3), 1+m.Intn(8))
		f(m, form)
		if t.Failed() {
			t.Logf("with %s", logic.Text(form))
			return
		}
	}
}

// isOf fails unless Of(f) has the facts with these texts: for x and y ints, for l and m lists.
func isOf(t *testing.T, f logic.Form, texts ...string) {
	t.Helper()
	var want []logic.Form
	for _, s := range texts {
		want = append(want, readFact(t, s, scope("")))
	}
	areForms(t, "Of "+logic.Text(f), facts.Of(f), want)
}

// isTerms fails unless Terms(f) has the terms with these texts, in the same way.
func isTerms(t *testing.T, f logic.Form, texts ...string) {
	t.Helper()
	var want []logic.Form
	for _, s := range texts {
		want = append(want, read(t, s, scope("")))
	}
	areForms(t, "Terms of "+logic.Text(f), facts.Terms(f), want)
}
