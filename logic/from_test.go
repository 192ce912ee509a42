package logic_test

// P10.1: the forms of expressions.

import (
	"math/rand"
	"slices"
	"strings"
	"testing"

	"litmus/api"
	"litmus/logic"
	"litmus/machine"
	"litmus/nat"
	"litmus/parse"
	"litmus/scope"
	"litmus/tree"
	"litmus/value"
	"litmus/whole"
)

// params is a scope, and given are values for it.
func params() []tree.Param {
	return []tree.Param{{Name: "x"}, {Name: "y"}, {Name: "b", Base: api.Bool}, {Name: "c", Base: api.Bool}, {Name: "l", Base: api.List}, {Name: "m", Base: api.List}}
}

const given = "x=5;y=-7;b=true;c=false;l=[3, -4];m=[]"

// expr returns the expression with that source.
func expr(t *testing.T, s string) tree.Expr {
	t.Helper()
	e, err := parse.Expr(s)
	if err != nil {
		t.Fatalf("%s: error at %v", s, err)
	}
	return e
}

// means fails unless s has a form, with that value.
func means(t *testing.T, s, want string) {
	t.Helper()
	f, ok := logic.From(expr(t, s), params())
	if !ok || !logic.Right(f) {
		t.Errorf("%s: got %v, %v", s, f, ok)
		return
	}
	isValue(t, s, logic.Eval(f, binds(t, given)), want)
}

func TestExpressions(t *testing.T) {
	for s, want := range map[string]string{
		"0": "0", "340282366920938463463374607431768211456": "340282366920938463463374607431768211456", "true": "true", "false": "false", "[]": "[]", "x": "5", "y": "-7", "b": "true", "c": "false", "l": "[3, -4]", "m": "[]",
		"-x": "-5", "-y": "7", "- - y": "-7", "-0": "0", "not b": "false", "not c": "true", "not not b": "true", "not not not b": "false", "not true": "false",
		"len l": "2", "len m": "0", "len (x :: l)": "3", "hd l": "3", "hd m": "0", "hd tl l": "-4", "hd tl tl l": "0", "hd tl m": "0", "tl l": "[-4]", "tl tl l": "[]", "tl m": "[]", "tl tl tl l": "[]", "hd (y :: m)": "-7",
		"x + y": "-2", "x - y": "12", "y - x": "-12", "x - x": "0", "x - y - x": "7", "1 - x": "-4", "x + 1": "6", "1 + 2": "3", "1 - 2": "-1", "- 1": "-1",
		"x * y": "-35", "x * x * x": "125", "2 * x": "10", "x * 2": "10", "0 * x": "0", "x * 0": "0", "-2 * x": "-10", "x * (1 + 1)": "10", "(3 - 5) * y": "14", "2 * 3": "6", "(7 / 2) * x": "15", "x * (-7 / 2)": "-20", "(7 % 4) * x": "15", "2 * 3 * x": "30", "x * 2 * 3": "30", "2 * (x + y) * 3": "-12", "len l * x": "10", "hd l * hd l": "9", "(x - x) * y": "0", "len [] * y": "0",
		"x / 2": "2", "y / 2": "-4", "y / 7": "-1", "y / 8": "-1", "y / 1": "-7", "x / 6": "0", "(x + y) / 2": "-1", "-1 / 2": "-1", "0 / 5": "0", "x / 2 / 2": "1", "y / 18446744073709551616": "-1",
		"x % 2": "1", "y % 2": "1", "y % 7": "0", "y % 8": "1", "y % 1": "0", "x % 6": "5", "-1 % 5": "4", "7 % 4": "3", "y % 4 % 2": "1", "y % 5 * x": "15", "y % 18446744073709551616": "18446744073709551609", "1 - y % 4": "0", "(x - y) % (5)": "2",
		"x = 5": "true", "x = y": "false", "x <> y": "true", "x <> 5": "false", "l = m": "false", "l = 3 :: -4 :: []": "true", "l <> l": "false", "l <> []": "true", "m = []": "true", "b = c": "false", "b = b": "true", "b <> c": "true", "c <> c": "false", "(x = 5) = b": "true", "(x < y) <> c": "false",
		"x < y": "false", "y < x": "true", "x < x": "false", "x <= y": "false", "y <= x": "true", "x <= x": "true", "x > y": "true", "y > x": "false", "x > x": "false", "x >= y": "true", "y >= x": "false", "x >= x": "true", "x < 6": "true", "4 < x": "true", "x >= 6": "false", "1 < 2": "true", "1 >= 2": "false",
		"b && b": "true", "b && c": "false", "c && b": "false", "c && c": "false", "b || b": "true", "b || c": "true", "c || b": "true", "c || c": "false", "true && b": "true", "b && true": "true", "c || false": "false", "false && b": "false", "true || c": "true", "true && true": "true", "false || false": "false", "b && x < 6 && y < x": "true", "not (b && c) || c": "true", "c && b || b": "true",
		"x :: l": "[5, 3, -4]", "x :: y :: []": "[5, -7]", "x + y :: tl l": "[-2, -4]", "hd l :: tl l": "[3, -4]",
	} {
		means(t, s, want)
	}
}

// A name has the value that it is bound to, whatever its place in the scope is.
func TestScopes(t *testing.T) {
	v := tree.Expr{Kind: tree.Var, Name: "v"}
	for _, c := range []struct {
		scope []tree.Param
		want  logic.Form
		ok    bool
	}{
		{nil, logic.Form{}, false}, {[]tree.Param{{Name: "x"}, {Name: "V"}, {Name: ""}}, logic.Form{}, false},
		{[]tree.Param{{Name: "v"}}, iv("v"), true}, {[]tree.Param{{Name: "v", Base: api.Bool}}, bv("v"), true}, {[]tree.Param{{Name: "v", Base: api.List}}, lv("v"), true},
		{[]tree.Param{{Name: "x", Base: api.Bool}, {Name: "v"}, {Name: "y", Base: api.List}}, iv("v"), true},
		// As for layer 7: the last one counts.
		{[]tree.Param{{Name: "v"}, {Name: "v", Base: api.List}}, lv("v"), true}, {[]tree.Param{{Name: "v", Base: api.List}, {Name: "v"}}, iv("v"), true},
		// What else a Param has plays no part.
		{[]tree.Param{{Name: "v", Known: true, Ref: tree.Expr{Kind: -1}, Line: 7, Col: 8}}, iv("v"), true},
	} {
		f, ok := logic.From(v, c.scope)
		is(t, "From", ok, c.ok)
		isForm(t, "From", f, c.want)
	}
}

func TestExpressionsWithoutForms(t *testing.T) {
	for _, s := range []string{
		"z", "X", "-z", "x + z", "z :: l", "len z", "b && z", "z = z",
		"f()", "f(x)", "main(x)", "x + f(x)", "f(x) :: l", "not f(b)", "x()",
		"if b then x else y", "if true then 1 else 2", "1 + (if b then x else y)", "let z = x in z", "let z = x in x", "-(let z = x in z)", "match l with [] -> 0 | h :: t -> h", "len (match l with [] -> l | h :: t -> t)", "assert b; x", "assert true; true", "b && (assert b; c)",
		"x / 0", "x % 0", "x / y", "x % y", "x / x", "x / (0 - 1)", "x / - 1", "x % - 1", "x / (1 + 1)", "x % (1 + 1)", "x / (2 * 1)", "x / (4 / 2)", "x / - - 2", "x / len l", "0 / 0", "1 % 0", "1 + x / 0", "x / 2 / 0", "(x / 0) / 2", "x / hd l",
		"-b", "-l", "not x", "not l", "not 1", "len x", "len b", "hd x", "hd b", "tl x", "tl b", "hd hd l", "tl hd l", "len len l",
		"x + b", "b + x", "x + l", "l + l", "b + b", "x - b", "b - x", "l - x", "true - 1", "x * b", "b * x", "2 * b", "b * 2", "2 * l", "l * 2", "b / 2", "l / 2", "b % 2", "l % 2", "true / 2", "[] % 2", "x / b", "x / l", "x / true", "x / []",
		"x = b", "b = x", "x = l", "l = x", "b = l", "l = b", "x <> b", "b <> l", "1 = true", "[] = 0", "x = (x = y)", "(x = y) = x",
		"x < b", "b < x", "b < b", "l < l", "x <= l", "l <= x", "b <= c", "x > b", "l > l", "b >= c", "x >= l", "l >= x",
		"b && x", "x && b", "true && x", "x && true", "false && x", "x && false", "true && 1", "false && l", "l && false", "b || x", "x || b", "false || x", "x || false", "true || x", "x || true", "true || l", "l || true", "x && y", "l || m", "not not x", "not not l",
		"x :: x", "b :: l", "l :: l", "l :: x", "x :: b", "x :: y", "true :: []", "1 :: 2", "x :: b :: l",
	} {
		f, ok := logic.From(expr(t, s), params())
		is(t, s, ok, false)
		isForm(t, s, f, logic.Form{})
	}
}

// walk calls visit for f and all that is within it.
func walk(f logic.Form, visit func(f logic.Form)) {
	for _, p := range parts(&f) {
		visit(*p)
	}
}

// isConstant reports whether f consists only of Num, Add, Scale and Quo.
func isConstant(f logic.Form) bool {
	ok := true
	walk(f, func(f logic.Form) {
		ok = ok && slices.Contains([]logic.Op{logic.Num, logic.Add, logic.Scale, logic.Quo}, f.Op)
	})
	return ok
}

// isNumeric reports whether e has neither names nor lists: then a form of it consists only
// of Num, Add, Scale and Quo.
func isNumeric(e tree.Expr) bool {
	return e.Kind != tree.Var && e.Kind != tree.Len && e.Kind != tree.Hd && !slices.ContainsFunc(e.Kids, func(kid tree.Expr) bool { return !isNumeric(kid) })
}

// needsMul reports whether e contains a product of two operands that aren't numeric.
func needsMul(e tree.Expr) bool {
	return e.Kind == tree.Mul && !isNumeric(e.Kids[0]) && !isNumeric(e.Kids[1]) || slices.ContainsFunc(e.Kids, needsMul)
}

// muls returns the number of Muls in f. It fails if one isn't allowed.
func muls(t *testing.T, f logic.Form) int {
	t.Helper()
	n := 0
	walk(f, func(f logic.Form) {
		if f.Op != logic.Mul {
			return
		}
		n++
		if isConstant(f.Kids[0]) || isConstant(f.Kids[1]) {
			t.Errorf("a Mul that isn't needed: %v", f)
		}
	})
	return n
}

func TestProducts(t *testing.T) {
	for s, want := range map[string]int{
		"x * y": 1, "x * x": 1, "x * x * x": 2, "(x + 1) * (y - 1)": 1, "len l * x": 1, "hd l * 2": 0, "(x * y) * 2": 1, "2 * (x * y)": 1, "(x / 2) * y": 1, "(x - x) * y": 1, "x * -y": 1, "x * y + x * y": 2, "x * (2 * y)": 1, "len l * 3 * hd l": 1,
		"2 * x": 0, "x * 2": 0, "0 * x": 0, "-2 * x": 0, "x * -2": 0, "(1 + 2) * x": 0, "x * (1 - 2)": 0, "2 * 3": 0, "2 * 3 * x": 0, "x * (2 * 3)": 0, "x * 2 * 3": 0, "2 * (3 * x)": 0, "(7 / 2) * x": 0, "x * (7 / 2)": 0, "(7 % 4) * x": 0, "x * (-(7 % 4) / 2 - 2 * 3)": 0, "2 * (x + 3 * y)": 0, "(2 * x + y) * (3 - 1)": 0, "7 / 2 * (5 % 3)": 0, "(2 * 3 * (4 * 5)) * x": 0,
		"-x": 0, "x - y": 0, "x / 3": 0, "x % 3": 0, "x % 3 % 2": 0, "len l": 0, "x < y": 0,
	} {
		f, _ := logic.From(expr(t, s), params())
		is(t, "the number of Muls for "+s, muls(t, f), want)
	}
}

// Divisors and factors may be of any size.
func TestBigNumbers(t *testing.T) {
	n := strings.Repeat("7", 80)
	for s, want := range map[string]string{
		n + " * x / " + n: "5", "(" + n + " * x + 1) % " + n: "1", n + " * " + n + " / " + n: n, "-" + n + " / 7": "-" + strings.Repeat("1", 80), n + " - " + n: "0", "x < " + n: "true", "y * " + n + " < -" + n: "true",
	} {
		means(t, s, want)
	}
}

// exprMaker makes random expressions in the scope of params.
type exprMaker struct {
	*maker
}

// kindsOf are the Kinds by the type of what they make, with the types of their operands.
var kindsOf = map[string]map[tree.Kind]string{
	"i": {tree.Num: "", tree.Neg: "i", tree.Len: "l", tree.Hd: "l", tree.Add: "ii", tree.Sub: "ii", tree.Mul: "ii", tree.Div: "in", tree.Mod: "in"},
	"b": {tree.True: "", tree.False: "", tree.Not: "b", tree.Eq: "ss", tree.Ne: "ss", tree.Lt: "ii", tree.Le: "ii", tree.Gt: "ii", tree.Ge: "ii", tree.And: "bb", tree.Or: "bb"},
	"l": {tree.Nil: "", tree.Tl: "l", tree.Cons: "il"},
}

// expr returns an expression of that type.
func (m exprMaker) expr(sort string, depth int) tree.Expr {
	kinds := []tree.Kind{tree.Var, tree.Var}
	for k, operands := range kindsOf[sort] {
		if depth > 1 || operands == "" {
			kinds = append(kinds, k)
		}
	}
	slices.Sort(kinds)
	e := tree.Expr{Kind: pick(m.maker, kinds...), Line: m.Intn(9), Col: m.Intn(9)}
	switch e.Kind {
	case tree.Var:
		e.Name = pick(m.maker, map[string][]string{"i": {"x", "y"}, "b": {"b", "c"}, "l": {"l", "m"}}[sort]...)
	case tree.Num:
		e.Num = m.natural()
	}
	same := pick(m.maker, "i", "b", "l")
	for _, operand := range kindsOf[sort][e.Kind] {
		kid := strings.Replace(string(operand), "s", same, 1)
		if kid == "n" {
			e.Kids = append(e.Kids, tree.Expr{Kind: tree.Num, Num: whole.Add(m.natural(), whole.Of(1))})
			continue
		}
		e.Kids = append(e.Kids, m.expr(kid, max(1, depth-1-m.Intn(2))))
	}
	return e
}

// natural returns a number that isn't negative.
func (m exprMaker) natural() whole.Int { return whole.Big(false, m.number().Abs) }

// exprs calls f with many expressions, always the same ones.
func exprs(t *testing.T, count int, f func(m exprMaker, e tree.Expr)) {
	t.Helper()
	m := exprMaker{&maker{Rand: rand.New(rand.NewSource(1))}}
	for i := range count {
		e := m.expr(letters[i%3:i%3+1], 1+m.Intn(7))
		f(m, e)
		if t.Failed() {
			t.Logf("with %s", tree.Text(e))
			return
		}
	}
}

// asProgram returns a program whose main has the body e, where functions stand for hd
// and tl, which a run doesn't know.
func asProgram(t *testing.T, e tree.Expr) tree.Program {
	t.Helper()
	p, err := parse.Parse("fun first(l: list): int = match l with [] -> 0 | h :: t -> h fun rest(l: list): list = match l with [] -> [] | h :: t -> t")
	if err != nil {
		t.Fatal(err)
	}
	base, err := scope.Base(withCalls(e), params(), p.Funs)
	if err != nil {
		t.Fatalf("%s: fault at %v", tree.Text(e), err)
	}
	main := tree.Fun{Name: "main", Params: params(), Result: tree.Param{Name: "v", Base: base}, Body: withCalls(e)}
	p.Funs = append(p.Funs, main)
	return p
}

// withCalls returns e with calls in place of hd and tl.
func withCalls(e tree.Expr) tree.Expr {
	e.Kids = slices.Clone(e.Kids)
	for i := range e.Kids {
		e.Kids[i] = withCalls(e.Kids[i])
	}
	switch e.Kind {
	case tree.Hd:
		e.Kind, e.Name = tree.Call, "first"
	case tree.Tl:
		e.Kind, e.Name = tree.Call, "rest"
	}
	return e
}

// A form has the value that a run has, and a Mul only where it is needed.
func TestFormsLikeRuns(t *testing.T) {
	values := map[string]int{}
	exprs(t, 20000, func(m exprMaker, e tree.Expr) {
		f, ok := logic.From(e, params())
		is(t, "From", ok, true)
		is(t, "Right", logic.Right(f), true)
		if n := muls(t, f); n > 0 && !needsMul(e) {
			t.Errorf("%v has %d Muls", f, n)
		}
		p := asProgram(t, e)
		var args []value.Value
		var env []logic.Bind
		for _, param := range params() {
			args = append(args, m.value(param.Base))
			env = append(env, logic.Bind{Name: param.Name, Value: args[len(args)-1]})
		}
		o := machine.Run(p, args, 1000000)
		is(t, "the kind of the outcome", o.Kind, machine.Done)
		isValue(t, "Eval", logic.Eval(f, env), value.Text(o.Value))
		is(t, "the meaning", shown(meaning(f, env)), value.Text(o.Value))
		values[value.Text(o.Value)]++
	})
	if len(values) < 1000 || values["true"] < 1000 || values["false"] < 1000 {
		t.Errorf("too few different values: %d, %d of them true", len(values), values["true"])
	}
}

// sound reports whether e, as a part of a refinement, has no fault (layer 7): then it has
// no Call, If, Let, Match or Assert either.
func sound(e tree.Expr) bool {
	main := tree.Fun{Name: "main", Body: tree.Expr{Kind: tree.Num}}
	q := tree.Qual{Name: "q", Params: params(), Body: tree.Expr{Kind: tree.Eq, Kids: []tree.Expr{e, e}}}
	return scope.Check(tree.Program{Quals: []tree.Qual{q}, Funs: []tree.Fun{main}}) == nil
}

// Any valid expression has a form if it has no fault, and otherwise none.
func TestFormsOrFaults(t *testing.T) {
	counts := map[bool]int{}
	exprs(t, 60000, func(m exprMaker, e tree.Expr) {
		e = m.changed(e)
		is(t, "tree.Right", tree.Right(e), true)
		f, ok := logic.From(e, params())
		counts[ok]++
		is(t, "From of "+tree.Text(e), ok, sound(e))
		is(t, "Right", logic.Right(f), true)
		if !ok {
			isForm(t, "From", f, logic.Form{})
		}
	})
	if counts[true] < 10000 || counts[false] < 10000 {
		t.Errorf("too few of both: %v", counts)
	}
}

// changed returns e with another valid expression in place of a part, or another Kind.
func (m exprMaker) changed(e tree.Expr) tree.Expr {
	if n := len(e.Kids); n > 0 && m.Intn(3) > 0 {
		e.Kids = slices.Clone(e.Kids)
		i := m.Intn(n)
		e.Kids[i] = m.changed(e.Kids[i])
		return e
	}
	if m.Intn(2) == 0 {
		return m.anyExpr(e.Kids)
	}
	return m.expr(pick(m.maker, "i", "b", "l"), 2)
}

// anyExpr returns an expression of any Kind, with these Kids as far as it has some.
func (m exprMaker) anyExpr(kids []tree.Expr) tree.Expr {
	e := tree.Expr{Kind: tree.Kind(m.Intn(int(tree.Assert) + 1)), Name: pick(m.maker, "x", "b", "l", "z", "v"), Other: "t", Num: whole.Of(m.Intn(3))}
	arity := tree.Arity(e.Kind)
	if arity < 0 {
		arity = m.Intn(3)
	}
	for i := range arity {
		if i < len(kids) {
			e.Kids = append(e.Kids, kids[i])
		} else {
			e.Kids = append(e.Kids, m.expr(pick(m.maker, "i", "b", "l"), 2))
		}
	}
	return e
}

// Fields that a Kind doesn't use are ignored, as are positions.
func TestUnusedFields(t *testing.T) {
	exprs(t, 2000, func(m exprMaker, e tree.Expr) {
		f, _ := logic.From(e, params())
		g, ok := logic.From(filled(e), params())
		is(t, "From", ok, true)
		isForm(t, "From", g, f)
	})
}

// filled returns e with values in all fields that aren't used.
func filled(e tree.Expr) tree.Expr {
	if e.Kind != tree.Var {
		e.Name = "x"
	}
	if e.Kind != tree.Num {
		e.Num = whole.Int{Neg: true, Abs: nat.Nat{5, 0}}
	}
	e.Other, e.Line, e.Col = "y", -5, 7
	e.Kids = slices.Clone(e.Kids)
	for i := range e.Kids {
		e.Kids[i] = filled(e.Kids[i])
	}
	return e
}
