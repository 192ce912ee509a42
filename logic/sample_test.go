package logic_test

import (
	"math/big"
	"math/rand"
	"reflect"
	"slices"
	"strings"
	"testing"

	"litmus/api"
	"litmus/logic"
	"litmus/nat"
	"litmus/value"
	"litmus/whole"
)

// A rule is the chapter's one for an Op: the sort, and those of the Kids, as letters (i, b
// and l). There may be several rules for the Kids; * stands for any number of the letter
// before it.
type rule struct {
	op   logic.Op
	sort string
	kids string
}

// rules are all Ops, in their order.
var rules = []rule{
	{logic.Num, "i", ""}, {logic.IVar, "i", ""}, {logic.Add, "i", "ii"}, {logic.Scale, "i", "i"}, {logic.Mul, "i", "ii"}, {logic.Quo, "i", "i"}, {logic.Len, "i", "l"}, {logic.Hd, "i", "l"},
	{logic.LVar, "l", ""}, {logic.Nil, "l", ""}, {logic.Cons, "l", "il"}, {logic.Tl, "l", "l"},
	{logic.True, "b", ""}, {logic.False, "b", ""}, {logic.BVar, "b", ""}, {logic.Le, "b", "ii"}, {logic.Eq, "b", "ii|ll"}, {logic.Not, "b", "b"}, {logic.And, "b", "b*"}, {logic.Or, "b", "b*"}, {logic.Iff, "b", "bb"},
}

// letters are those of the base types, by number.
const letters = "ibl"

// letter returns that of a base type.
func letter(b api.Base) string { return letters[b : b+1] }

// allowed reports whether the rule allows Kids of these sorts.
func (r rule) allowed(kids string) bool {
	if unit, ok := strings.CutSuffix(r.kids, "*"); ok {
		return kids == strings.Repeat(unit, len(kids))
	}
	return slices.Contains(strings.Split(r.kids, "|"), kids)
}

// Constructors, for short tests: by the fields alone.

func of(op logic.Op, kids ...logic.Form) logic.Form { return logic.Form{Op: op, Kids: kids} }

func num(n int) logic.Form { return logic.Form{Op: logic.Num, Num: whole.Of(n)} }

func iv(name string) logic.Form { return logic.Form{Op: logic.IVar, Name: name} }

func bv(name string) logic.Form { return logic.Form{Op: logic.BVar, Name: name} }

func lv(name string) logic.Form { return logic.Form{Op: logic.LVar, Name: name} }

func scale(n int, f logic.Form) logic.Form {
	return logic.Form{Op: logic.Scale, Num: whole.Of(n), Kids: []logic.Form{f}}
}

func quo(f logic.Form, n int) logic.Form {
	return logic.Form{Op: logic.Quo, Num: whole.Of(n), Kids: []logic.Form{f}}
}

// Forms of each sort that tests use.
var (
	x, y = iv("x"), iv("y")
	b, c = bv("b"), bv("c")
	l, m = lv("l"), lv("m")
	yes  = of(logic.True)
	no   = of(logic.False)
	void = of(logic.Nil)
)

// ofSort is one of them for each letter.
var ofSort = map[byte]logic.Form{'i': x, 'b': b, 'l': l}

// val returns the value with that text.
func val(t *testing.T, s string) value.Value {
	t.Helper()
	v, ok := value.Parse(s)
	if !ok {
		t.Fatalf("%q isn't a value", s)
	}
	return v
}

// binds returns the bindings with these texts, such as "x=5;l=[1, 2]".
func binds(t *testing.T, s string) []logic.Bind {
	t.Helper()
	var all []logic.Bind
	for text := range strings.SplitSeq(s, ";") {
		if name, v, ok := strings.Cut(text, "="); ok {
			all = append(all, logic.Bind{Name: name, Value: val(t, v)})
		}
	}
	return all
}

// same reports whether all fields of a and b are the same, whether empty slices are nil
// or not.
func same(a, b logic.Form) bool {
	return a.Op == b.Op && a.Name == b.Name && a.Num.Neg == b.Num.Neg && slices.Equal(a.Num.Abs, b.Num.Abs) && slices.EqualFunc(a.Kids, b.Kids, same)
}

// isForm fails unless got is want.
func isForm(t *testing.T, what string, got, want logic.Form) {
	t.Helper()
	if !same(got, want) {
		t.Errorf("%s: got %v, want %v", what, got, want)
	}
}

// is fails unless got is want.
func is[T any](t *testing.T, what string, got, want T) {
	t.Helper()
	if !reflect.DeepEqual(got, want) {
		t.Errorf("%s: got %v, want %v", what, got, want)
	}
}

// isValue fails unless v has that text, canonical numbers, and no field but its own.
func isValue(t *testing.T, what string, v value.Value, text string) {
	t.Helper()
	ok := v.Base == api.Int || len(v.Int.Abs) == 0 && !v.Int.Neg
	ok = ok && (v.Base == api.Bool || !v.Bool) && (v.Base == api.List || len(v.List) == 0)
	for _, n := range append(slices.Clone(v.List), v.Int) {
		ok = ok && same(logic.Form{Num: n}, logic.Form{Num: whole.Big(n.Neg, n.Abs)})
	}
	if !ok || value.Text(v) != text {
		t.Errorf("%s: got %#v, want %s", what, v, text)
	}
}

// toBig returns n, whatever its form, by the definition of its fields alone.
func toBig(n whole.Int) *big.Int {
	sum := new(big.Int)
	for _, limb := range slices.Backward(n.Abs) {
		sum.Lsh(sum, 32)
		sum.Or(sum, big.NewInt(int64(limb)))
	}
	if n.Neg {
		sum.Neg(sum)
	}
	return sum
}

// toBigs returns all numbers of l.
func toBigs(l []whole.Int) []*big.Int {
	var all []*big.Int
	for _, n := range l {
		all = append(all, toBig(n))
	}
	return all
}

// meaning returns the value of f, by the chapter's rules alone: a *big.Int, a bool, or a
// []*big.Int.
func meaning(f logic.Form, env []logic.Bind) any {
	number := func(i int) *big.Int { return meaning(f.Kids[i], env).(*big.Int) }
	list := func(i int) []*big.Int { return meaning(f.Kids[i], env).([]*big.Int) }
	truth := func(i int) bool { return meaning(f.Kids[i], env).(bool) }
	switch f.Op {
	case logic.Num:
		return toBig(f.Num)
	case logic.IVar, logic.LVar, logic.BVar:
		return meaningOfName(f, env)
	case logic.Add:
		return new(big.Int).Add(number(0), number(1))
	case logic.Scale:
		return new(big.Int).Mul(toBig(f.Num), number(0))
	case logic.Mul:
		return new(big.Int).Mul(number(0), number(1))
	case logic.Quo: // the divisor is positive: so this rounds down
		return new(big.Int).Div(number(0), toBig(f.Num))
	case logic.Len:
		return big.NewInt(int64(len(list(0))))
	case logic.Hd:
		return append(list(0), new(big.Int))[0]
	case logic.Cons:
		return append([]*big.Int{number(0)}, list(1)...)
	case logic.Tl:
		return append(list(0), new(big.Int))[1:max(1, len(list(0)))]
	case logic.Nil:
		return []*big.Int{}
	case logic.Le:
		return number(0).Cmp(number(1)) <= 0
	case logic.Eq, logic.Iff:
		return shown(meaning(f.Kids[0], env)) == shown(meaning(f.Kids[1], env))
	case logic.Not:
		return !truth(0)
	case logic.And, logic.Or:
		trues := 0
		for i := range f.Kids {
			if truth(i) {
				trues++
			}
		}
		return f.Op == logic.And && trues == len(f.Kids) || f.Op == logic.Or && trues > 0
	}
	return f.Op == logic.True
}

// meaningOfName returns the value of an IVar, LVar or BVar.
func meaningOfName(f logic.Form, env []logic.Bind) any {
	var bound value.Value // 0
	for _, bind := range env {
		if bind.Name == f.Name {
			bound = bind.Value
		}
	}
	switch f.Op {
	case logic.BVar:
		return bound.Base == api.Bool && bound.Bool
	case logic.LVar:
		if bound.Base != api.List {
			return []*big.Int{}
		}
		return toBigs(bound.List)
	}
	if bound.Base != api.Int {
		return new(big.Int)
	}
	return toBig(bound.Int)
}

// shown returns the text of a meaning, which is also that of the value (layer 8).
func shown(a any) string {
	switch a := a.(type) {
	case *big.Int:
		return a.String()
	case bool:
		return map[bool]string{true: "true", false: "false"}[a]
	}
	var all []string
	for _, n := range a.([]*big.Int) {
		all = append(all, n.String())
	}
	return "[" + strings.Join(all, ", ") + "]"
}

// A maker makes random forms and values.
type maker struct {
	*rand.Rand
	names []string // of any sort each; if empty, each name has one sort
}

// pick returns one of all.
func pick[T any](m *maker, all ...T) T { return all[m.Intn(len(all))] }

// edgeLimbs are the limbs at which carries and signs go wrong first.
var edgeLimbs = []uint32{0, 1, 2, 7, 0x80000000, 0xFFFFFFFF}

// number returns a number in canonical form: mostly a small one, so that comparisons of
// all outcomes are frequent.
func (m *maker) number() whole.Int {
	if m.Intn(3) > 0 {
		return whole.Of(m.Intn(7) - 3)
	}
	abs := make(nat.Nat, m.Intn(4))
	for i := range abs {
		abs[i] = pick(m, edgeLimbs...)
	}
	return whole.Big(m.Intn(2) == 0, abs)
}

// anyNumber returns a number in any form: -0 and needless limbs are among them.
func (m *maker) anyNumber() whole.Int {
	n := m.number()
	return whole.Int{Neg: m.Intn(2) == 0, Abs: append(n.Abs, make(nat.Nat, m.Intn(3))...)}
}

// value returns a value of that Base whose other fields aren't empty, either.
func (m *maker) value(b api.Base) value.Value {
	v := value.Value{Base: b, Int: m.anyNumber(), Bool: m.Intn(2) == 0}
	for range m.Intn(4) {
		v.List = append(v.List, m.anyNumber())
	}
	return v
}

// namesOf are the names of each sort, where each name has one.
var namesOf = map[string][]string{"i": {"x", "y", "z"}, "b": {"b", "c"}, "l": {"l", "m"}}

// name returns one of that sort.
func (m *maker) name(sort string) string {
	if len(m.names) > 0 {
		return pick(m, m.names...)
	}
	return pick(m, namesOf[sort]...)
}

// env binds some of all names, some of them more than once. Each one that has a sort is
// bound to a value of it.
func (m *maker) env() []logic.Bind {
	var all []logic.Bind
	for range m.Intn(12) {
		base := api.Base(m.Intn(3))
		all = append(all, logic.Bind{Name: m.name(letter(base)), Value: m.value(base)})
	}
	return all
}

// form returns a valid form of that sort, with at most so many levels, or one more.
func (m *maker) form(sort string, depth int) logic.Form {
	r := pick(m, rules...)
	for r.sort != sort || depth == 1 && r.kids != "" && r.kids != "b*" {
		r = pick(m, rules...)
	}
	f := logic.Form{Op: r.op}
	switch r.op {
	case logic.Num, logic.Scale:
		f.Num = m.number()
	case logic.Quo:
		n := m.number()
		f.Num = whole.Add(whole.Int{Abs: n.Abs}, whole.Of(1))
	case logic.IVar, logic.LVar, logic.BVar:
		f.Name = m.name(sort)
	}
	kids := pick(m, strings.Split(r.kids, "|")...)
	if unit, ok := strings.CutSuffix(kids, "*"); ok {
		kids = strings.Repeat(unit, m.Intn(min(4, depth)))
	}
	for i := range kids {
		f.Kids = append(f.Kids, m.form(kids[i:i+1], max(1, depth-1-m.Intn(2))))
	}
	return f
}

// samples calls f with many forms, always the same ones.
func samples(t *testing.T, count int, names string, f func(m *maker, f logic.Form)) {
	t.Helper()
	m := &maker{Rand: rand.New(rand.NewSource(1)), names: strings.Fields(names)}
	for i := range count {
		form := m.form(letters[i%3:i%3+1], 1+m.Intn(6))
		f(m, form)
		if t.Failed() {
			t.Logf("with %v", form)
			return
		}
	}
}

// parts returns f and all that is within it, as pointers: what is written through them
// changes f.
func parts(f *logic.Form) []*logic.Form {
	all := []*logic.Form{f}
	for i := range f.Kids {
		all = append(all, parts(&f.Kids[i])...)
	}
	return all
}

// cloned returns f in memory of its own.
func cloned(f logic.Form) logic.Form {
	f.Num.Abs = slices.Clone(f.Num.Abs)
	f.Kids = clonedAll(f.Kids)
	return f
}

// clonedAll returns the forms in memory of their own.
func clonedAll(l []logic.Form) []logic.Form {
	l = slices.Clone(l)
	for i := range l {
		l[i] = cloned(l[i])
	}
	return l
}
