package tree_test

import (
	"math/rand"
	"reflect"
	"slices"
	"strconv"
	"strings"
	"testing"

	"litmus/api"
	"litmus/nat"
	"litmus/tree"
	"litmus/whole"
)

// A form is the chapter's rule for a Kind: how many Kids, the level of its text, and
// the text, where <03> is the first kid at level 3, N the Name, O the Other and D the
// digits of Num.
type form struct {
	arity, level int
	text         string
}

// forms has every Kind except Call, whose text depends on its Kids.
var forms = map[tree.Kind]form{
	tree.Num: {0, 8, "D"}, tree.True: {0, 8, "true"}, tree.False: {0, 8, "false"}, tree.Var: {0, 8, "N"}, tree.Nil: {0, 8, "[]"},
	tree.Neg: {1, 7, "-<07>"}, tree.Not: {1, 7, "not <07>"}, tree.Len: {1, 7, "len <07>"}, tree.Hd: {1, 7, "hd <07>"}, tree.Tl: {1, 7, "tl <07>"},
	tree.Add: {2, 5, "<05> + <16>"}, tree.Sub: {2, 5, "<05> - <16>"},
	tree.Mul: {2, 6, "<06> * <17>"}, tree.Div: {2, 6, "<06> / <17>"}, tree.Mod: {2, 6, "<06> % <17>"},
	tree.Eq: {2, 3, "<04> = <14>"}, tree.Ne: {2, 3, "<04> <> <14>"}, tree.Lt: {2, 3, "<04> < <14>"},
	tree.Le: {2, 3, "<04> <= <14>"}, tree.Gt: {2, 3, "<04> > <14>"}, tree.Ge: {2, 3, "<04> >= <14>"},
	tree.And: {2, 2, "<02> && <13>"}, tree.Or: {2, 1, "<01> || <12>"}, tree.Cons: {2, 4, "<05> :: <14>"},
	tree.If: {3, 0, "if <00> then <10> else <20>"}, tree.Let: {2, 0, "let N = <00> in <10>"},
	tree.Match: {3, 0, "match <00> with [] -> <10> | N :: O -> <20>"}, tree.Assert: {2, 0, "assert <00>; <10>"},
}

// lastKind is the greatest Kind.
const lastKind = tree.Assert

// formOf returns the rule for e.
func formOf(e tree.Expr) form {
	if e.Kind != tree.Call {
		return forms[e.Kind]
	}
	var args []string
	for i := range e.Kids {
		args = append(args, "<"+string(rune('0'+i))+"0>")
	}
	return form{len(e.Kids), 8, "N(" + strings.Join(args, ", ") + ")"}
}

// expected returns the text of e where that level is required, by the rules alone.
func expected(e tree.Expr, level int) string {
	f := formOf(e)
	var s strings.Builder
	for i := 0; i < len(f.text); i++ {
		switch c := f.text[i]; {
		case c == 'N':
			s.WriteString(e.Name)
		case c == 'O':
			s.WriteString(e.Other)
		case c == 'D':
			s.WriteString(whole.Text(e.Num))
		case c == '<' && i+3 < len(f.text) && f.text[i+3] == '>':
			s.WriteString(expected(e.Kids[f.text[i+1]-'0'], int(f.text[i+2]-'0')))
			i += 3
		default:
			s.WriteByte(c)
		}
	}
	if f.level < level {
		return "(" + s.String() + ")"
	}
	return s.String()
}

// expectedParam returns the text of p without its name.
func expectedParam(p tree.Param) string {
	s := []string{"int", "bool", "list"}[p.Base]
	if p.Known {
		s += "{" + expected(p.Ref, 0) + "}"
	}
	return s
}

// expectedHead returns the text of a name and its parameters.
func expectedHead(name string, params []tree.Param) string {
	var all []string
	for _, p := range params {
		all = append(all, p.Name+": "+expectedParam(p))
	}
	return name + "(" + strings.Join(all, ", ") + "): "
}

// expectedProgram returns what is printed of p, by the rules alone.
func expectedProgram(p tree.Program) string {
	var s strings.Builder
	for _, q := range p.Quals {
		s.WriteString("qualif " + expectedHead(q.Name, q.Params) + expected(q.Body, 0) + "\n")
	}
	for _, f := range p.Funs {
		s.WriteString("fun " + expectedHead(f.Name, f.Params) + expectedParam(f.Result) + " = " + expected(f.Body, 0) + "\n")
	}
	return s.String()
}

// Constructors, for short tests.

func num(n int) tree.Expr { return tree.Expr{Kind: tree.Num, Num: whole.Of(n)} }

func name(s string) tree.Expr { return tree.Expr{Kind: tree.Var, Name: s} }

func of(k tree.Kind, kids ...tree.Expr) tree.Expr { return tree.Expr{Kind: k, Kids: kids} }

func named(k tree.Kind, s string, kids ...tree.Expr) tree.Expr {
	return tree.Expr{Kind: k, Name: s, Kids: kids}
}

// A maker makes random trees.
type maker struct {
	*rand.Rand
}

// pick returns one of all.
func (m maker) pick(all ...string) string { return all[m.Intn(len(all))] }

// name returns a name, which may be one that occurs elsewhere.
func (m maker) name() string { return m.pick("x", "y", "v", "long_name", "X1", "_") }

// num returns a number that may have several limbs.
func (m maker) num() whole.Int {
	switch m.Intn(4) {
	case 0:
		return whole.Of(m.Intn(3))
	case 1:
		return whole.Of(m.Int())
	}
	limbs := make(nat.Nat, m.Intn(5))
	for i := range limbs {
		limbs[i] = m.Uint32()
	}
	return whole.Big(false, limbs)
}

// expr returns a valid expression with a Depth of at most depth, at random positions.
func (m maker) expr(depth int) tree.Expr {
	e := tree.Expr{Kind: tree.Kind(m.Intn(int(lastKind) + 1)), Line: m.Intn(9), Col: m.Intn(9)}
	if depth == 1 {
		e.Kind = tree.Kind(m.Intn(int(tree.Nil) + 1))
	}
	n := forms[e.Kind].arity
	switch e.Kind {
	case tree.Call:
		n = m.Intn(4)
		fallthrough
	case tree.Var, tree.Let:
		e.Name = m.name()
	case tree.Match:
		e.Name, e.Other = m.name(), m.name()
	case tree.Num:
		e.Num = m.num()
	}
	for range n {
		e.Kids = append(e.Kids, m.expr(max(1, depth-1-m.Intn(2))))
	}
	return e
}

// param returns a Param of that name.
func (m maker) param(name string) tree.Param {
	p := tree.Param{Name: name, Base: api.Base(m.Intn(3)), Known: m.Intn(2) == 0, Line: m.Intn(9), Col: m.Intn(9)}
	if p.Known {
		p.Ref = m.expr(3)
	}
	return p
}

// params returns from least to 3 Params.
func (m maker) params(least int) []tree.Param {
	var all []tree.Param
	for range least + m.Intn(4-least) {
		all = append(all, m.param(m.name()))
	}
	return all
}

// program returns a program with random Quals and Funs.
func (m maker) program() tree.Program {
	var p tree.Program
	for range m.Intn(3) {
		p.Quals = append(p.Quals, tree.Qual{Name: m.name(), Params: m.params(1), Body: m.expr(4), Line: m.Intn(9), Col: m.Intn(9)})
	}
	for range m.Intn(4) {
		p.Funs = append(p.Funs, tree.Fun{Name: m.name(), Params: m.params(0), Result: m.param("v"), Body: m.expr(4), Line: m.Intn(9), Col: m.Intn(9)})
	}
	return p
}

// samples calls f with many valid expressions, always the same ones.
func samples(t *testing.T, f func(m maker, e tree.Expr)) {
	t.Helper()
	m := maker{rand.New(rand.NewSource(1))}
	for i := range 4000 {
		f(m, m.expr(1+i%6))
		if t.Failed() {
			return
		}
	}
}

// programs calls f with many programs, always the same ones.
func programs(t *testing.T, f func(m maker, p tree.Program)) {
	t.Helper()
	m := maker{rand.New(rand.NewSource(2))}
	for range 1500 {
		f(m, m.program())
		if t.Failed() {
			return
		}
	}
}

// parts returns e and all that is within it, as pointers: what is written through
// them changes e.
func parts(e *tree.Expr) []*tree.Expr {
	all := []*tree.Expr{e}
	for i := range e.Kids {
		all = append(all, parts(&e.Kids[i])...)
	}
	return all
}

// cloned returns e in memory of its own.
func cloned(e tree.Expr) tree.Expr {
	e.Name, e.Other, e.Num.Abs = strings.Clone(e.Name), strings.Clone(e.Other), slices.Clone(e.Num.Abs)
	e.Kids = slices.Clone(e.Kids)
	for i := range e.Kids {
		e.Kids[i] = cloned(e.Kids[i])
	}
	return e
}

// clonedParams returns the Params in memory of their own.
func clonedParams(all []tree.Param) []tree.Param {
	all = slices.Clone(all)
	for i := range all {
		all[i].Ref = cloned(all[i].Ref)
	}
	return all
}

// clonedProgram returns p in memory of its own.
func clonedProgram(p tree.Program) tree.Program {
	p.Quals, p.Funs = slices.Clone(p.Quals), slices.Clone(p.Funs)
	for i, q := range p.Quals {
		p.Quals[i].Params, p.Quals[i].Body = clonedParams(q.Params), cloned(q.Body)
	}
	for i, f := range p.Funs {
		p.Funs[i].Params, p.Funs[i].Body, p.Funs[i].Result.Ref = clonedParams(f.Params), cloned(f.Body), cloned(f.Result.Ref)
	}
	return p
}

// is fails unless got is want; what says of what.
func is[T any](t *testing.T, what string, got, want T) {
	t.Helper()
	if !reflect.DeepEqual(got, want) {
		t.Errorf("%s: got %v, want %v", what, got, want)
	}
}

// prints fails unless Text(e) is want.
func prints(t *testing.T, e tree.Expr, want string) {
	t.Helper()
	is(t, "Text", tree.Text(e), want)
}

// kindName names a Kind in messages.
func kindName(k tree.Kind) string { return "Kind " + strconv.Itoa(int(k)) }
