package bank_test

import (
	"math/big"
	"math/rand"
	"reflect"
	"slices"
	"strconv"
	"strings"
	"testing"

	"litmus/api"
	"litmus/bank"
	"litmus/logic"
	"litmus/nat"
	"litmus/parse"
	"litmus/tree"
	"litmus/value"
	"litmus/whole"
)

// Constructors, by the fields alone.

func of(op logic.Op, kids ...logic.Form) logic.Form { return logic.Form{Op: op, Kids: kids} }

func num(n int) logic.Form { return logic.Form{Op: logic.Num, Num: whole.Of(n)} }

func with(op logic.Op, n int, kid logic.Form) logic.Form {
	return logic.Form{Op: op, Num: whole.Of(n), Kids: []logic.Form{kid}}
}

// Forms that tests use.
var (
	x, y = logic.Form{Op: logic.IVar, Name: "x"}, logic.Form{Op: logic.IVar, Name: "y"}
	l, m = logic.Form{Op: logic.LVar, Name: "l"}, logic.Form{Op: logic.LVar, Name: "m"}
	void = of(logic.Nil)
)

// names are those that texts of terms may contain, by their sorts.
var names = map[api.Base]string{api.Int: "x y z", api.List: "l m"}

// scope returns the names, each with its sort.
func scope() []tree.Param {
	var all []tree.Param
	for base, list := range names {
		for name := range strings.FieldsSeq(list) {
			all = append(all, tree.Param{Name: name, Base: base})
		}
	}
	return all
}

// read returns the term of an expression, such as "len l + 1".
func read(t *testing.T, s string) logic.Form {
	t.Helper()
	e, err := parse.Expr(s)
	if err != nil {
		t.Fatalf("%q: %v", s, err)
	}
	f, ok := logic.From(e, scope())
	if !ok {
		t.Fatalf("%q has no form", s)
	}
	return f
}

// opNames are the names of the Ops of nodes, in the chapter's order.
var opNames = strings.Fields("IVar Mul Quo Len Hd Def LVar Nil Cons Tl")

// sum returns a sum: a number, and pairs of a node and its coefficient.
func sum(c int, pairs ...int) bank.Lin {
	l := bank.Lin{Const: whole.Of(c)}
	for i := 0; i < len(pairs); i += 2 {
		l.Nodes, l.Coefs = append(l.Nodes, pairs[i]), append(l.Coefs, whole.Of(pairs[i+1]))
	}
	return l
}

// toBig returns n.
func toBig(n whole.Int) *big.Int {
	b := new(big.Int)
	for _, limb := range slices.Backward(n.Abs) {
		b.Lsh(b, 32).Add(b, big.NewInt(int64(limb)))
	}
	if n.Neg {
		b.Neg(b)
	}
	return b
}

// shownLin returns a text of a sum, such as "-6 4*n0 1*n2", in the order of its nodes.
func shownLin(l bank.Lin) string {
	if len(l.Nodes) != len(l.Coefs) {
		return "not a sum: " + strconv.Itoa(len(l.Nodes)) + " nodes, " + strconv.Itoa(len(l.Coefs)) + " coefficients"
	}
	s := toBig(l.Const).String()
	for i, n := range l.Nodes {
		s += " " + toBig(l.Coefs[i]).String() + "*n" + strconv.Itoa(n)
	}
	return s
}

// shownNode returns a text of a node: what its Op has of the fields. Where others aren't
// empty, it tells.
func shownNode(n bank.Node) string {
	fields := []string{opNames[n.Op]}
	if n.Name != "" {
		fields = append(fields, strconv.Quote(n.Name))
	}
	if len(n.Num.Abs) > 0 {
		fields = append(fields, toBig(n.Num).String())
	}
	for _, arg := range n.Args {
		fields = append(fields, "n"+strconv.Itoa(arg))
	}
	if lin := shownLin(n.Lin); lin != "0" || n.Op == bank.Def {
		fields = append(fields, "= "+lin)
	}
	return strings.Join(fields, " ")
}

// shownNodes returns the texts of all nodes of b.
func shownNodes(b *bank.Bank) []string {
	var all []string
	for _, n := range b.Nodes {
		all = append(all, shownNode(n))
	}
	return all
}

// is fails unless got is want.
func is[T any](t *testing.T, what string, got, want T) {
	t.Helper()
	if !reflect.DeepEqual(got, want) {
		t.Errorf("%s: got %v, want %v", what, got, want)
	}
}

// isLin fails unless got is the sum with that text, in canonical form.
func isLin(t *testing.T, what string, got bank.Lin, want string) {
	t.Helper()
	is(t, what, shownLin(got), want)
	is(t, what+" in canonical form", isCanonical(append(slices.Clone(got.Coefs), got.Const)...), true)
}

// isCanonical reports whether all numbers are in canonical form.
func isCanonical(all ...whole.Int) bool {
	return !slices.ContainsFunc(all, func(n whole.Int) bool {
		return n.Neg && len(n.Abs) == 0 || len(n.Abs) > 0 && n.Abs[len(n.Abs)-1] == 0
	})
}

// haveNodes fails unless b has the nodes with these texts, where lines or commas separate
// them.
func haveNodes(t *testing.T, what string, b *bank.Bank, want string) {
	t.Helper()
	var all []string
	for part := range strings.SplitSeq(want, ",") {
		if part = strings.TrimSpace(part); part != "" {
			all = append(all, part)
		}
	}
	is(t, "the nodes of "+what, shownNodes(b), all)
}

// An oracle is a bank by the chapter, word for word: it has the texts of its nodes.
type oracle struct{ nodes []string }

// node returns the number of the node with that text, which it creates unless there is one.
func (o *oracle) node(parts ...string) int {
	text := strings.Join(parts, " ")
	if i := slices.Index(o.nodes, text); i >= 0 {
		return i
	}
	o.nodes = append(o.nodes, text)
	return len(o.nodes) - 1
}

// An oracleSum is a number under -1, and coefficients by nodes.
type oracleSum map[int]*big.Int

// add adds the sum a, k times.
func (s oracleSum) add(a oracleSum, k *big.Int) {
	for n, c := range a {
		if s[n] == nil {
			s[n] = new(big.Int)
		}
		s[n].Add(s[n], new(big.Int).Mul(c, k))
		if n >= 0 && s[n].Sign() == 0 {
			delete(s, n)
		}
	}
}

// shown returns the text of a sum.
func (s oracleSum) shown() string {
	text := "0"
	if s[-1] != nil {
		text = s[-1].String()
	}
	var nodes []int
	for n := range s {
		nodes = append(nodes, n)
	}
	slices.Sort(nodes)
	for _, n := range nodes {
		if n >= 0 {
			text += " " + s[n].String() + "*n" + strconv.Itoa(n)
		}
	}
	return text
}

// sum returns the sum of an int.
func (o *oracle) sum(f logic.Form) oracleSum {
	s := oracleSum{}
	switch f.Op {
	case logic.Num:
		s[-1] = toBig(f.Num)
	case logic.Add:
		first := o.sum(f.Kids[0])
		s.add(first, big.NewInt(1))
		s.add(o.sum(f.Kids[1]), big.NewInt(1))
	case logic.Scale:
		s.add(o.sum(f.Kids[0]), toBig(f.Num))
	default:
		s[o.ofTerm(f)] = big.NewInt(1)
	}
	return s
}

// ofTerm returns the node of a term that is neither a Num nor an Add nor a Scale.
func (o *oracle) ofTerm(f logic.Form) int {
	var args []string
	for _, kid := range f.Kids {
		args = append(args, "n"+strconv.Itoa(o.of(kid)))
	}
	switch f.Op {
	case logic.IVar:
		return o.node("IVar", strconv.Quote(f.Name))
	case logic.LVar:
		return o.node("LVar", strconv.Quote(f.Name))
	case logic.Nil:
		return o.node("Nil")
	case logic.Quo:
		return o.node("Quo", toBig(f.Num).String(), args[0])
	}
	op := map[logic.Op]string{logic.Mul: "Mul", logic.Len: "Len", logic.Hd: "Hd", logic.Cons: "Cons", logic.Tl: "Tl"}[f.Op]
	return o.node(append([]string{op}, args...)...)
}

// of returns the node of a term.
func (o *oracle) of(f logic.Form) int {
	if logic.Sort(f) == api.List {
		return o.ofTerm(f)
	}
	s := o.sum(f)
	text := s.shown()
	for n := range s {
		if text == "0 1*n"+strconv.Itoa(n) {
			return n
		}
	}
	return o.node("Def", "=", text)
}

// A maker makes random terms and values.
type maker struct{ *rand.Rand }

// newMaker returns one that always makes the same.
func newMaker() maker { return maker{rand.New(rand.NewSource(1))} }

// pick returns one of all.
func pick[T any](m maker, all ...T) T { return all[m.Intn(len(all))] }

// shapes are what a term of each sort is made of: an Op, and the sorts of its Kids by
// letters (i and l).
var shapes = map[api.Base][]struct {
	op   logic.Op
	kids string
}{
	api.Int:  {{logic.Num, ""}, {logic.IVar, ""}, {logic.Add, "ii"}, {logic.Add, "ii"}, {logic.Scale, "i"}, {logic.Mul, "ii"}, {logic.Quo, "i"}, {logic.Len, "l"}, {logic.Hd, "l"}},
	api.List: {{logic.LVar, ""}, {logic.Nil, ""}, {logic.Cons, "il"}, {logic.Tl, "l"}},
}

// term returns a valid term of that sort, with at most so many levels. There are few
// different names and numbers in it: so many parts occur again.
func (m maker) term(b api.Base, depth int) logic.Form {
	r := pick(m, shapes[b]...)
	for depth == 1 && r.kids != "" || depth > 2 && r.kids == "" && m.Intn(4) > 0 {
		r = pick(m, shapes[b]...)
	}
	f := logic.Form{Op: r.op}
	switch r.op {
	case logic.Num, logic.Scale:
		f.Num = m.number()
	case logic.Quo:
		f.Num = whole.Of(1 + m.Intn(4))
	case logic.IVar, logic.LVar:
		f.Name = pick(m, strings.Fields(names[b])...)
	}
	for i := range r.kids {
		kid := api.Int
		if r.kids[i] == 'l' {
			kid = api.List
		}
		f.Kids = append(f.Kids, m.term(kid, max(1, depth-1-m.Intn(2))))
	}
	return f
}

// number returns a number: mostly a small one.
func (m maker) number() whole.Int {
	if m.Intn(12) == 0 {
		return whole.Big(m.Intn(2) == 0, nat.Nat{m.Uint32(), m.Uint32(), m.Uint32() % 2})
	}
	return whole.Of(m.Intn(7) - 3)
}

// lin returns a sum over some of the first nodes, and others times others.
func (m maker) lin(nodes int) bank.Lin {
	l := bank.Lin{Const: m.number()}
	for n := range nodes {
		if c := m.number(); m.Intn(3) > 0 && whole.Sign(c) != 0 {
			l.Nodes, l.Coefs = append(l.Nodes, n), append(l.Coefs, c)
		}
	}
	return l
}

// env binds most names that terms have to values of their sorts.
func (m maker) env() []logic.Bind {
	var all []logic.Bind
	for _, p := range []api.Base{api.Int, api.List} {
		for name := range strings.FieldsSeq(names[p]) {
			if m.Intn(12) > 0 {
				all = append(all, logic.Bind{Name: name, Value: m.value(p)})
			}
		}
	}
	return all
}

// value returns a value of that Base.
func (m maker) value(b api.Base) value.Value {
	if b == api.Int {
		return value.OfInt(m.number())
	}
	var all []whole.Int
	for range m.Intn(4) {
		all = append(all, m.number())
	}
	return value.OfList(all...)
}

// samples calls f with many terms, ints and lists, always the same ones.
func samples(t *testing.T, count int, f func(m maker, f logic.Form)) {
	t.Helper()
	m := newMaker()
	for range count {
		form := m.term(pick(m, api.Int, api.Int, api.List), 1+m.Intn(7))
		f(m, form)
		if t.Failed() {
			t.Logf("with %s", logic.Text(form))
			return
		}
	}
}

// add stores f in b, and returns its node.
func add(b *bank.Bank, f logic.Form) int {
	if logic.Sort(f) == api.List {
		return b.List(f)
	}
	return b.Node(b.Int(f))
}
