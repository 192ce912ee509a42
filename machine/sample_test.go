package machine_test

import (
	"fmt"
	"math/big"
	"math/rand"
	"reflect"
	"slices"
	"strconv"
	"strings"
	"testing"

	"litmus/api"
	"litmus/machine"
	"litmus/nat"
	"litmus/parse"
	"litmus/scope"
	"litmus/tree"
	"litmus/value"
	"litmus/whole"
)

// program returns the program with that source, which must have no faults.
func program(t *testing.T, s string) tree.Program {
	t.Helper()
	p := parsed(t, s)
	if err := scope.Check(p); err != nil {
		t.Fatalf("%s: fault at %v", s, err)
	}
	return p
}

// parsed returns the program with that source, which may have faults.
func parsed(t *testing.T, s string) tree.Program {
	t.Helper()
	p, err := parse.Parse(s)
	if err != nil {
		t.Fatalf("%s: error at %v", s, err)
	}
	return p
}

// vals returns the values with these texts, which are separated by semicolons.
func vals(t *testing.T, s string) []value.Value {
	t.Helper()
	var all []value.Value
	for text := range strings.SplitSeq(s, ";") {
		if text == "" {
			continue
		}
		v, ok := value.Parse(text)
		if !ok {
			t.Fatalf("%q isn't a value", text)
		}
		all = append(all, v)
	}
	return all
}

// plenty is fuel for all runs of the tests that end.
const plenty = 1000000

// runs fails unless the program with that source, of these arguments, has that outcome.
func runs(t *testing.T, s, args string, fuel int, want string) {
	t.Helper()
	is(t, s+" of "+args, told(machine.Run(program(t, s), vals(t, args), fuel)), want)
}

// told returns all of o as a text: such as "5 after 3", "failed at 1:2 in main 0:0, f 1:7
// after 9", "spent 12" or "wrong". Where a field isn't as it should be, the text says so.
func told(o machine.Outcome) string {
	rest := o
	rest.Kind = 0
	var s string
	switch o.Kind {
	case machine.Done:
		s = value.Text(o.Value) + " after " + strconv.Itoa(o.Steps)
		if !canonical(o.Value) {
			s += ", not canonical"
		}
		rest.Value, rest.Steps = value.Value{}, 0
	case machine.Failed:
		var calls []string
		for _, c := range o.Path {
			calls = append(calls, c.Name+" "+place(c.Line, c.Col))
		}
		s = "failed at " + place(o.Line, o.Col) + " in " + strings.Join(calls, ", ") + " after " + strconv.Itoa(o.Steps)
		rest.Line, rest.Col, rest.Path, rest.Steps = 0, 0, nil, 0
	case machine.Spent:
		s = "spent " + strconv.Itoa(o.Steps)
		rest.Steps = 0
	case machine.Wrong:
		s = "wrong"
	default:
		s = "kind " + strconv.Itoa(o.Kind)
	}
	if len(rest.Path) == 0 {
		rest.Path = nil
	}
	if !reflect.DeepEqual(rest, machine.Outcome{}) {
		s += fmt.Sprintf(", with %v", rest)
	}
	return s
}

// place returns a position as a text.
func place(line, col int) string { return strconv.Itoa(line) + ":" + strconv.Itoa(col) }

// canonical reports whether v has canonical numbers, and no field but its own.
func canonical(v value.Value) bool {
	numbers := append(slices.Clone(v.List), v.Int)
	for _, n := range numbers {
		if len(n.Abs) > 0 && n.Abs[len(n.Abs)-1] == 0 || len(n.Abs) == 0 && n.Neg {
			return false
		}
	}
	return (v.Base == api.Int || len(v.Int.Abs) == 0) && (v.Base == api.Bool || !v.Bool) && (v.Base == api.List || len(v.List) == 0)
}

// is fails unless got has exactly the fields of want.
func is(t *testing.T, what string, got, want any) {
	t.Helper()
	if !reflect.DeepEqual(got, want) {
		t.Errorf("%s: got %v, want %v", what, got, want)
	}
}

// toBig returns a, whatever its form, by the definition of its fields alone.
func toBig(a whole.Int) *big.Int {
	n := new(big.Int)
	for i := len(a.Abs) - 1; i >= 0; i-- {
		n.Lsh(n, 32)
		n.Or(n, big.NewInt(int64(a.Abs[i])))
	}
	if a.Neg {
		n.Neg(n)
	}
	return n
}

// A maker makes random programs without faults, and arguments for them.
type maker struct {
	*rand.Rand
	funs   []tree.Fun
	self   int // which of funs has the body that is being made
	places int // how many positions were given out
}

// pick returns one of all.
func pick[T any](m *maker, all ...T) T { return all[m.Intn(len(all))] }

// place returns a position that nothing else has.
func (m *maker) place() (line, col int) {
	m.places++
	n := m.places * 7919 % 100003
	return n/100 + 1, n%100 + 1
}

// edgeLimbs are the limbs at which carries and signs go wrong first.
var edgeLimbs = []uint32{0, 1, 2, 7, 0x80000000, 0xFFFFFFFF}

// natural returns a number in canonical form that isn't negative: mostly a small one.
func (m *maker) natural() whole.Int {
	if m.Intn(3) > 0 {
		return whole.Of(m.Intn(4))
	}
	abs := make(nat.Nat, m.Intn(4))
	for i := range abs {
		abs[i] = pick(m, edgeLimbs...)
	}
	return whole.Big(false, abs)
}

// number returns a number in any form: -0 and needless limbs are among them.
func (m *maker) number() whole.Int {
	n := m.natural()
	return whole.Int{Neg: m.Intn(2) == 0, Abs: append(n.Abs, make(nat.Nat, m.Intn(3))...)}
}

// value returns a value of that Base whose other fields aren't empty, either.
func (m *maker) value(b api.Base) value.Value {
	v := value.Value{Base: b, Int: m.number(), Bool: m.Intn(2) == 0}
	for range m.Intn(5) {
		v.List = append(v.List, m.number())
	}
	return v
}

// args returns arguments for params.
func (m *maker) args(params []tree.Param) []value.Value {
	var all []value.Value
	for _, p := range params {
		all = append(all, m.value(p.Base))
	}
	return all
}

// leaves and operations are the Kinds by their type.
var (
	leaves     = [...][]tree.Kind{api.Int: {tree.Num}, api.Bool: {tree.True, tree.True, tree.False}, api.List: {tree.Nil}}
	operations = [...][]tree.Kind{
		api.Int:  {tree.Neg, tree.Len, tree.Add, tree.Sub, tree.Mul, tree.Div, tree.Mod},
		api.Bool: {tree.Not, tree.Eq, tree.Ne, tree.Lt, tree.Le, tree.Gt, tree.Ge, tree.And, tree.Or},
		api.List: {tree.Cons, tree.Cons, tree.Cons},
	}
	branching = []tree.Kind{tree.If, tree.Let, tree.Match, tree.Assert, tree.Call, tree.Call, tree.Call, tree.Call}
)

// kind returns a Kind for an expression of type b.
func (m *maker) kind(b api.Base, depth int, in []tree.Param) tree.Kind {
	if depth > 1 && m.Intn(8) > 0 {
		return pick(m, append(slices.Clone(operations[b]), branching...)...)
	}
	if _, ok := m.named(b, in); ok && m.Intn(4) > 0 {
		return tree.Var
	}
	return pick(m, leaves[b]...)
}

// named returns a name of that type that is in scope.
func (m *maker) named(b api.Base, in []tree.Param) (string, bool) {
	var all []string
	for _, p := range in {
		if p.Base == b {
			all = append(all, p.Name)
		}
	}
	if len(all) == 0 {
		return "", false
	}
	return pick(m, all...), true
}

// callee returns a function with that result: mostly a later one, so that many runs end.
func (m *maker) callee(b api.Base) (tree.Fun, bool) {
	var all []tree.Fun
	for i, f := range m.funs {
		if f.Result.Base == b && (i > m.self || m.Intn(6) == 0) {
			all = append(all, f)
		}
	}
	if len(all) == 0 {
		return tree.Fun{}, false
	}
	return pick(m, all...), true
}

// expr returns an expression of type b in that scope, with a Depth of at most depth + 1.
func (m *maker) expr(b api.Base, depth int, in []tree.Param) tree.Expr {
	e := tree.Expr{Kind: m.kind(b, depth, in)}
	e.Line, e.Col = m.place()
	kids := func(bases ...api.Base) {
		for _, base := range bases {
			e.Kids = append(e.Kids, m.expr(base, max(1, depth-1-m.Intn(2)), in))
		}
	}
	switch e.Kind {
	case tree.Num:
		e.Num = m.natural()
	case tree.Var:
		e.Name, _ = m.named(b, in)
	case tree.Neg:
		kids(api.Int)
	case tree.Not:
		kids(api.Bool)
	case tree.Len:
		kids(api.List)
	case tree.Add, tree.Sub, tree.Mul, tree.Lt, tree.Le, tree.Gt, tree.Ge:
		kids(api.Int, api.Int)
	case tree.Div, tree.Mod:
		kids(api.Int)
		e.Kids = append(e.Kids, tree.Expr{Kind: tree.Num, Num: whole.Add(m.natural(), whole.Of(1))})
	case tree.Eq, tree.Ne:
		same := api.Base(m.Intn(3))
		kids(same, same)
	case tree.And, tree.Or:
		kids(api.Bool, api.Bool)
	case tree.Cons:
		kids(api.Int, api.List)
	default:
		m.branch(&e, b, depth, in, kids)
	}
	return e
}

// branch adds the parts of what isn't an operation, of type b.
func (m *maker) branch(e *tree.Expr, b api.Base, depth int, in []tree.Param, kids func(bases ...api.Base)) {
	fresh := func(base api.Base) tree.Param {
		in = append(slices.Clone(in), tree.Param{Name: "x" + strconv.Itoa(len(in)), Base: base})
		return in[len(in)-1]
	}
	rest := func() {
		e.Kids = append(e.Kids, m.expr(b, max(1, depth-1), in))
	}
	switch e.Kind {
	case tree.If:
		kids(api.Bool, b, b)
	case tree.Let:
		first := api.Base(m.Intn(3))
		kids(first)
		e.Name = fresh(first).Name
		rest()
	case tree.Match:
		kids(api.List, b)
		e.Name, e.Other = fresh(api.Int).Name, fresh(api.List).Name
		rest()
	case tree.Assert:
		kids(api.Bool)
		if m.Intn(8) > 2*m.self { // so that many runs don't fail, or where calls are active
			e.Kids[0] = tree.Expr{Kind: tree.Or, Kids: []tree.Expr{e.Kids[0], {Kind: tree.True}}}
		}
		rest()
	case tree.Call:
		f, ok := m.callee(b)
		if !ok {
			*e = m.expr(b, 1, in)
			return
		}
		e.Name = f.Name
		for _, p := range f.Params {
			kids(p.Base)
		}
	}
}

// program returns a random program with main as one of at most 5 functions.
func (m *maker) program() tree.Program {
	m.funs = make([]tree.Fun, 1+m.Intn(5))
	for i := range m.funs {
		f := tree.Fun{Name: "f" + strconv.Itoa(i), Result: tree.Param{Name: "v", Base: api.Base(m.Intn(3))}}
		if i == 0 {
			f.Name = "main"
		}
		for k := range m.Intn(4) {
			f.Params = append(f.Params, tree.Param{Name: "x" + strconv.Itoa(k), Base: api.Base(m.Intn(3))})
		}
		m.funs[i] = f
	}
	p := tree.Program{Funs: slices.Clone(m.funs)}
	for i, f := range p.Funs {
		m.self = i
		p.Funs[i].Body = m.expr(f.Result.Base, 6, f.Params)
	}
	m.Shuffle(len(p.Funs), func(i, j int) { p.Funs[i], p.Funs[j] = p.Funs[j], p.Funs[i] })
	return p
}

// samples calls f with many programs and arguments for them, always the same ones.
func samples(t *testing.T, count int, f func(m *maker, p tree.Program, args []value.Value)) {
	t.Helper()
	m := &maker{Rand: rand.New(rand.NewSource(1))}
	for range count {
		p := m.program()
		if err := scope.Check(p); err != nil {
			t.Fatalf("%s: fault at %v", tree.Print(p), err)
		}
		main, _ := scope.Main(p)
		f(m, p, m.args(main.Params))
		if t.Failed() {
			t.Log(tree.Print(p))
			return
		}
	}
}
