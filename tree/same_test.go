package tree_test

// P5.1: Same and SamePrograms.

import (
	"testing"

	"litmus/api"
	"litmus/nat"
	"litmus/tree"
	"litmus/whole"
)

// same fails unless Same has that result, in both directions.
func same(t *testing.T, a, b tree.Expr, want bool) {
	t.Helper()
	is(t, "Same of "+tree.Text(a)+" and "+tree.Text(b), tree.Same(a, b), want)
	is(t, "Same of "+tree.Text(b)+" and "+tree.Text(a), tree.Same(b, a), want)
}

// samePrograms is same for programs.
func samePrograms(t *testing.T, p, q tree.Program, want bool) {
	t.Helper()
	is(t, "SamePrograms of\n"+tree.Print(p)+"and\n"+tree.Print(q), tree.SamePrograms(p, q), want)
	is(t, "SamePrograms of\n"+tree.Print(q)+"and\n"+tree.Print(p), tree.SamePrograms(q, p), want)
}

// scribble changes what doesn't count in e: positions, and the fields that the Kinds
// don't use.
func scribble(e *tree.Expr) {
	for _, p := range parts(e) {
		p.Line, p.Col = p.Line+1, -p.Col-7
		switch p.Kind {
		case tree.Var, tree.Call, tree.Let, tree.Match:
		default:
			p.Name += "?"
		}
		if p.Kind != tree.Match {
			p.Other += "?"
		}
		if p.Kind != tree.Num {
			p.Num = whole.Int{Neg: true, Abs: nat.Nat{9, 0}}
		}
		if len(p.Kids) == 0 {
			p.Kids = []tree.Expr{}
		}
	}
}

// unseen changes what doesn't count in p: positions, unused fields, and a Ref that
// isn't Known.
func unseen(m maker, p *tree.Program) {
	param := func(p *tree.Param) {
		p.Line, p.Col = p.Line+1, p.Col-5
		if p.Known {
			scribble(&p.Ref)
		} else {
			p.Ref = []tree.Expr{num(1), name("x"), of(-1), of(tree.Neg)}[m.Intn(4)]
		}
	}
	for i := range p.Quals {
		q := &p.Quals[i]
		q.Line, q.Col = q.Line+1, q.Col-5
		scribble(&q.Body)
		for j := range q.Params {
			param(&q.Params[j])
		}
	}
	for i := range p.Funs {
		f := &p.Funs[i]
		f.Line, f.Col = f.Line+1, f.Col-5
		scribble(&f.Body)
		param(&f.Result)
		for j := range f.Params {
			param(&f.Params[j])
		}
	}
}

// variants returns expressions that differ from e in one thing that counts.
func variants(e tree.Expr) []tree.Expr {
	var all []tree.Expr
	add := func(change func(e *tree.Expr)) {
		other := e
		change(&other)
		all = append(all, other)
	}
	switch e.Kind {
	case tree.Num:
		add(func(e *tree.Expr) { e.Num = whole.Add(e.Num, whole.Of(1)) })
		add(func(e *tree.Expr) { e.Num = whole.Add(e.Num, whole.Big(false, nat.Nat{0, 1})) })
	case tree.Match:
		add(func(e *tree.Expr) { e.Other += "s" })
		add(func(e *tree.Expr) { e.Name, e.Other = e.Other+"1", e.Name })
		fallthrough
	case tree.Var, tree.Call, tree.Let:
		add(func(e *tree.Expr) { e.Name += "1" })
	}
	if e.Kind == tree.Call {
		add(func(e *tree.Expr) { e.Kids = append(append([]tree.Expr{}, e.Kids...), num(1)) })
		if len(e.Kids) > 0 {
			add(func(e *tree.Expr) { e.Kids = e.Kids[1:] })
		}
	}
	for k := range lastKind + 1 {
		if k != e.Kind && (k == tree.Call || forms[k].arity == len(e.Kids)) {
			add(func(e *tree.Expr) { e.Kind = k })
		}
	}
	return all
}

func TestSame(t *testing.T) {
	x, y := name("x"), name("y")
	same(t, x, tree.Expr{Kind: tree.Var, Name: "x", Line: 3, Col: 4}, true)
	same(t, x, y, false)
	same(t, x, named(tree.Call, "x"), false)
	same(t, of(tree.Add, x, y), of(tree.Add, y, x), false)
	same(t, of(tree.Add, x, y), of(tree.Sub, x, y), false)
	same(t, of(tree.True), of(tree.False), false)
	same(t, num(0), num(0), true)
	same(t, num(0), num(1), false)
	same(t, tree.Expr{Kind: tree.Num, Num: whole.Int{Abs: nat.Nat{}}}, num(0), true)
	same(t, tree.Expr{Kind: tree.Num, Num: whole.Big(false, nat.Nat{1, 1})}, num(1), false)
	same(t, named(tree.Call, "f", x, x), named(tree.Call, "f", x), false)
	same(t, named(tree.Call, "f", x, x), named(tree.Call, "f", x, y), false)
	same(t, named(tree.Call, "f"), tree.Expr{Kind: tree.Call, Name: "f", Kids: []tree.Expr{}}, true)
	same(t, named(tree.Let, "x", x, y), named(tree.Let, "y", x, y), false)
	match := tree.Expr{Kind: tree.Match, Name: "h", Other: "t", Kids: []tree.Expr{x, x, x}}
	swapped := match
	swapped.Name, swapped.Other = "t", "h"
	same(t, match, swapped, false)
}

func TestSameIgnoresPositionsAndUnusedFields(t *testing.T) {
	samples(t, func(m maker, e tree.Expr) {
		other := cloned(e)
		same(t, e, other, true)
		scribble(&other)
		same(t, e, other, true)
	})
}

func TestSameSeesEachDifference(t *testing.T) {
	samples(t, func(m maker, e tree.Expr) {
		other := cloned(e)
		all := parts(&other)
		part := all[m.Intn(len(all))]
		before := *part
		for _, variant := range variants(before) {
			*part = variant
			same(t, e, other, false)
		}
	})
}

// programVariants returns programs that differ from p in one thing that counts.
func programVariants(p tree.Program) []tree.Program {
	var all []tree.Program
	add := func(change func(p *tree.Program)) {
		other := clonedProgram(p)
		change(&other)
		all = append(all, other)
	}
	add(func(p *tree.Program) { p.Quals = append(p.Quals, tree.Qual{}) })
	add(func(p *tree.Program) { p.Funs = append(p.Funs, tree.Fun{}) })
	for i := range p.Quals {
		add(func(p *tree.Program) { p.Quals = append(p.Quals[:i], p.Quals[i+1:]...) })
		add(func(p *tree.Program) { p.Quals[i].Name += "1" })
		add(func(p *tree.Program) { p.Quals[i].Body = of(tree.Not, p.Quals[i].Body) })
		add(func(p *tree.Program) { p.Quals[i].Params = append(p.Quals[i].Params, tree.Param{}) })
		paramVariants(len(p.Quals[i].Params), add, func(p *tree.Program, j int) *tree.Param { return &p.Quals[i].Params[j] })
	}
	for i := range p.Funs {
		add(func(p *tree.Program) { p.Funs = append(p.Funs[:i], p.Funs[i+1:]...) })
		add(func(p *tree.Program) { p.Funs[i].Name += "1" })
		add(func(p *tree.Program) { p.Funs[i].Body = of(tree.Not, p.Funs[i].Body) })
		add(func(p *tree.Program) { p.Funs[i].Params = append(p.Funs[i].Params, tree.Param{}) })
		paramVariants(len(p.Funs[i].Params), add, func(p *tree.Program, j int) *tree.Param { return &p.Funs[i].Params[j] })
		paramVariants(1, add, func(p *tree.Program, j int) *tree.Param { return &p.Funs[i].Result })
	}
	return all
}

// paramVariants adds what differs in one of n Params.
func paramVariants(n int, add func(func(p *tree.Program)), at func(p *tree.Program, j int) *tree.Param) {
	for j := range n {
		add(func(p *tree.Program) { at(p, j).Name += "1" })
		add(func(p *tree.Program) { at(p, j).Base = (at(p, j).Base + 1) % 3 })
		add(func(p *tree.Program) { at(p, j).Known = !at(p, j).Known })
		add(func(p *tree.Program) {
			at(p, j).Ref = of(tree.Not, at(p, j).Ref)
			at(p, j).Known = true
		})
	}
}

func TestSamePrograms(t *testing.T) {
	samePrograms(t, tree.Program{}, tree.Program{Quals: []tree.Qual{}, Funs: []tree.Fun{}}, true)
	one := func(p tree.Param) tree.Program {
		return tree.Program{Funs: []tree.Fun{{Name: "main", Params: []tree.Param{p}, Result: tree.Param{Name: "v"}, Body: num(1)}}}
	}
	x := tree.Param{Name: "x", Base: api.Int}
	unknown, known := x, x
	unknown.Ref = of(tree.False)
	known.Known, known.Ref = true, of(tree.False)
	samePrograms(t, one(x), one(unknown), true)
	samePrograms(t, one(x), one(known), false)
	samePrograms(t, one(unknown), one(known), false)
	a, b := tree.Fun{Name: "a"}, tree.Fun{Name: "b"}
	samePrograms(t, tree.Program{Funs: []tree.Fun{a, b}}, tree.Program{Funs: []tree.Fun{b, a}}, false)
}

func TestSameProgramsOfSamples(t *testing.T) {
	programs(t, func(m maker, p tree.Program) {
		other := clonedProgram(p)
		samePrograms(t, p, other, true)
		unseen(m, &other)
		samePrograms(t, p, other, true)
		for _, variant := range programVariants(p) {
			samePrograms(t, p, variant, false)
		}
	})
}
