package parse_test

// P6.1: the trees, and their positions.

import (
	"strings"
	"testing"

	"litmus/tree"
)

// Each rule of the grammar by itself.
func TestEachForm(t *testing.T) {
	for _, c := range []struct{ s, want string }{
		{"7", "Num.7@1:1"},
		{"0", "Num.0@1:1"},
		{"340282366920938463463374607431768211456", "Num.340282366920938463463374607431768211456@1:1"},
		{"true", "True@1:1"},
		{"false", "False@1:1"},
		{"[]", "Nil@1:1"},
		{"v", "Var.v@1:1"},
		{"x1", "Var.x1@1:1"},
		{"_", "Var._@1:1"},
		{"(x)", "Var.x@1:2"},
		{"((( 7)))", "Num.7@1:5"},
		{"f()", "Call.f@1:1"},
		{"f (x)", "Call.f@1:1(Var.x@1:4)"},
		{"f(1, g(), v)", "Call.f@1:1(Num.1@1:3 Call.g@1:6 Var.v@1:11)"},
		{"-x", "Neg@1:1(Var.x@1:2)"},
		{"not x", "Not@1:1(Var.x@1:5)"},
		{"len x", "Len@1:1(Var.x@1:5)"},
		{"hd x", "Hd@1:1(Var.x@1:4)"},
		{"tl x", "Tl@1:1(Var.x@1:4)"},
		{"a + b", "Add@1:3(Var.a@1:1 Var.b@1:5)"},
		{"a - b", "Sub@1:3(Var.a@1:1 Var.b@1:5)"},
		{"a * b", "Mul@1:3(Var.a@1:1 Var.b@1:5)"},
		{"a / b", "Div@1:3(Var.a@1:1 Var.b@1:5)"},
		{"a % b", "Mod@1:3(Var.a@1:1 Var.b@1:5)"},
		{"a = b", "Eq@1:3(Var.a@1:1 Var.b@1:5)"},
		{"a <> b", "Ne@1:3(Var.a@1:1 Var.b@1:6)"},
		{"a < b", "Lt@1:3(Var.a@1:1 Var.b@1:5)"},
		{"a <= b", "Le@1:3(Var.a@1:1 Var.b@1:6)"},
		{"a > b", "Gt@1:3(Var.a@1:1 Var.b@1:5)"},
		{"a >= b", "Ge@1:3(Var.a@1:1 Var.b@1:6)"},
		{"a && b", "And@1:3(Var.a@1:1 Var.b@1:6)"},
		{"a || b", "Or@1:3(Var.a@1:1 Var.b@1:6)"},
		{"a :: b", "Cons@1:3(Var.a@1:1 Var.b@1:6)"},
		{"let x = a in b", "Let.x@1:1(Var.a@1:9 Var.b@1:14)"},
		{"if a then b else c", "If@1:1(Var.a@1:4 Var.b@1:11 Var.c@1:18)"},
		{"match a with [] -> b | h :: t -> c", "Match.h,t@1:1(Var.a@1:7 Var.b@1:20 Var.c@1:34)"},
		{"assert a; b", "Assert@1:1(Var.a@1:8 Var.b@1:11)"},
	} {
		reads(t, c.s, c.want)
		reads(t, c.s+" # end\n", c.want)
	}
	reads(t, strings.Repeat("7", 300), "Num."+strings.Repeat("7", 300)+"@1:1")
	reads(t, strings.Repeat("n", 40), "Var."+strings.Repeat("n", 40)+"@1:1")
}

// The chapter's example.
func TestExample(t *testing.T) {
	reads(t, "1 - 2 - 3", "Sub@1:7(Sub@1:3(Num.1@1:1 Num.2@1:5) Num.3@1:9)")
}

// The operators, by their levels, and where they associate to.
var levels = []struct {
	kinds []tree.Kind
	side  string
}{
	{[]tree.Kind{tree.Or}, "left"},
	{[]tree.Kind{tree.And}, "left"},
	{[]tree.Kind{tree.Eq, tree.Ne, tree.Lt, tree.Le, tree.Gt, tree.Ge}, "none"},
	{[]tree.Kind{tree.Cons}, "right"},
	{[]tree.Kind{tree.Add, tree.Sub}, "left"},
	{[]tree.Kind{tree.Mul, tree.Div, tree.Mod}, "left"},
}

// sign returns the sign of a binary operator.
func sign(k tree.Kind) string { return strings.Fields(forms[k].tokens)[1] }

func TestTwoOperators(t *testing.T) {
	for i, outer := range levels {
		for j, inner := range levels {
			for _, a := range outer.kinds {
				for _, b := range inner.kinds {
					s := "x " + sign(a) + " y " + sign(b) + " z"
					left := forms[b].name + "(" + forms[a].name + "(Var.x Var.y) Var.z)"
					right := forms[a].name + "(Var.x " + forms[b].name + "(Var.y Var.z))"
					switch {
					case i > j || i == j && outer.side == "left":
						shapes(t, s, left)
					case i < j || outer.side == "right":
						shapes(t, s, right)
					default:
						exprFails(t, s, 1, 1, len("x "+sign(a)+" y ")+1)
					}
				}
			}
		}
	}
}

func TestManyOperators(t *testing.T) {
	for _, c := range []struct{ s, want string }{
		{"a || b && c = d :: e + f * g", "Or(Var.a And(Var.b Eq(Var.c Cons(Var.d Add(Var.e Mul(Var.f Var.g))))))"},
		{"a * b + c :: d = e && f || g", "Or(And(Eq(Cons(Add(Mul(Var.a Var.b) Var.c) Var.d) Var.e) Var.f) Var.g)"},
		{"a - b - c - d", "Sub(Sub(Sub(Var.a Var.b) Var.c) Var.d)"},
		{"a - b + c - d", "Sub(Add(Sub(Var.a Var.b) Var.c) Var.d)"},
		{"a / b * c % d", "Mod(Mul(Div(Var.a Var.b) Var.c) Var.d)"},
		{"a :: b :: c :: d", "Cons(Var.a Cons(Var.b Cons(Var.c Var.d)))"},
		{"a + b :: c - d :: e", "Cons(Add(Var.a Var.b) Cons(Sub(Var.c Var.d) Var.e))"},
		{"a || b || c || d", "Or(Or(Or(Var.a Var.b) Var.c) Var.d)"},
		{"a && b && c && d", "And(And(And(Var.a Var.b) Var.c) Var.d)"},
		{"a && b || c && d", "Or(And(Var.a Var.b) And(Var.c Var.d))"},
		{"a || b && c || d", "Or(Or(Var.a And(Var.b Var.c)) Var.d)"},
		{"a < b && c = d || e >= f", "Or(And(Lt(Var.a Var.b) Eq(Var.c Var.d)) Ge(Var.e Var.f))"},
		{"a * b + c * d", "Add(Mul(Var.a Var.b) Mul(Var.c Var.d))"},
		{"a + b * c + d", "Add(Add(Var.a Mul(Var.b Var.c)) Var.d)"},
		{"(a - b) - (c - d)", "Sub(Sub(Var.a Var.b) Sub(Var.c Var.d))"},
		{"a - (b - c)", "Sub(Var.a Sub(Var.b Var.c))"},
		{"(a :: b) :: c", "Cons(Cons(Var.a Var.b) Var.c)"},
		{"(a < b) < c", "Lt(Lt(Var.a Var.b) Var.c)"},
		{"a < (b < c)", "Lt(Var.a Lt(Var.b Var.c))"},
		{"(a || b) && c", "And(Or(Var.a Var.b) Var.c)"},
	} {
		shapes(t, c.s, c.want)
	}
}

func TestUnaryOperators(t *testing.T) {
	for _, c := range []struct{ s, want string }{
		{"--a", "Neg(Neg(Var.a))"},
		{"- - a", "Neg(Neg(Var.a))"},
		{"not not a", "Not(Not(Var.a))"},
		{"not len hd tl -a", "Not(Len(Hd(Tl(Neg(Var.a)))))"},
		{"-1", "Neg(Num.1)"},
		{"a - -b", "Sub(Var.a Neg(Var.b))"},
		{"a--b", "Sub(Var.a Neg(Var.b))"},
		{"-a * -b", "Mul(Neg(Var.a) Neg(Var.b))"},
		{"not a = b", "Eq(Not(Var.a) Var.b)"},
		{"not a && b", "And(Not(Var.a) Var.b)"},
		{"hd a :: tl b", "Cons(Hd(Var.a) Tl(Var.b))"},
		{"len f(x) + 1", "Add(Len(Call.f(Var.x)) Num.1)"},
		{"-(a + b)", "Neg(Add(Var.a Var.b))"},
		{"not (if a then b else c)", "Not(If(Var.a Var.b Var.c))"},
		{"tl []", "Tl(Nil)"},
	} {
		shapes(t, c.s, c.want)
	}
}

// The last part of a phrase is as long as possible, and so are those between words.
func TestPhrases(t *testing.T) {
	for _, c := range []struct{ s, want string }{
		{"if a || b then c || d else e || f", "If(Or(Var.a Var.b) Or(Var.c Var.d) Or(Var.e Var.f))"},
		{"if if a then b else c then if d then e else f else if g then h else i", "If(If(Var.a Var.b Var.c) If(Var.d Var.e Var.f) If(Var.g Var.h Var.i))"},
		{"let x = y = z in x", "Let.x(Eq(Var.y Var.z) Var.x)"},
		{"let x = let y = 1 in y in let z = x in z", "Let.x(Let.y(Num.1 Var.y) Let.z(Var.x Var.z))"},
		{"assert assert a; b; assert c; d", "Assert(Assert(Var.a Var.b) Assert(Var.c Var.d))"},
		{"match a with [] -> match b with [] -> 1 | h :: t -> 2 | i :: u -> 3", "Match.i,u(Var.a Match.h,t(Var.b Num.1 Num.2) Num.3)"},
		{"match a with [] -> 1 | h :: t -> match t with [] -> 2 | i :: u -> 3", "Match.h,t(Var.a Num.1 Match.i,u(Var.t Num.2 Num.3))"},
		{"match match a with [] -> [] | h :: t -> t with [] -> 1 | h :: h -> h :: a", "Match.h,h(Match.h,t(Var.a Nil Var.t) Num.1 Cons(Var.h Var.a))"},
		{"f(let x = 1 in x, if a then b else c, assert a; b)", "Call.f(Let.x(Num.1 Var.x) If(Var.a Var.b Var.c) Assert(Var.a Var.b))"},
		{"1 + (assert a; 2) + 3", "Add(Add(Num.1 Assert(Var.a Num.2)) Num.3)"},
		{"let f = f in f(f)", "Let.f(Var.f Call.f(Var.f))"},
	} {
		shapes(t, c.s, c.want)
	}
}

// Arguments aren't limited, unlike parameters.
func TestCalls(t *testing.T) {
	shapes(t, "f(g(h()), -1)", "Call.f(Call.g(Call.h) Neg(Num.1))")
	e := expr(t, "f("+strings.Repeat("1, ", 5000)+"1)")
	if len(e.Kids) != 5001 {
		t.Errorf("%d arguments, want 5001", len(e.Kids))
	}
}

func TestProgram(t *testing.T) {
	programReads(t, strings.Join([]string{
		"# a source",
		"fun f(a: int{0 <= v}, l: list, b: bool{true}): int{v >= a} =",
		"  a",
		"qualif Ge(v: int, x: int): x <= v",
		"fun main(): bool = true qualif",
		"Q (",
		"  v: list) : false",
		"fun id(x: list): list = x",
		"fun neg(x: bool): bool{v} = (",
		"not x)",
	}, "\n"),
		"qualif Ge@4:8 v:int@4:11 x:int@4:19 is Le@4:30(Var.x@4:28 Var.v@4:33)",
		"qualif Q@6:1 v:list@7:3 is False@7:14",
		"fun f@2:5 a:int@2:7{Le@2:16(Num.0@2:14 Var.v@2:19)} l:list@2:23 b:bool@2:32{True@2:40} to v:int@2:48{Ge@2:54(Var.v@2:52 Var.a@2:57)} is Var.a@3:3",
		"fun main@5:5 to v:bool@5:13 is True@5:20",
		"fun id@8:5 x:list@8:8 to v:list@8:18 is Var.x@8:25",
		"fun neg@9:5 x:bool@9:9 to v:bool@9:19{Var.v@9:24} is Not@10:1(Var.x@10:5)")
}

func TestEmptyPrograms(t *testing.T) {
	for _, s := range []string{"", " ", "\n\n", "# fun", "\r\n# é\n"} {
		programReads(t, s)
	}
}

// Names aren't resolved: that is layer 7.
func TestNamesAreAnyNames(t *testing.T) {
	programReads(t, "fun f(x: int, x: int): int = y fun f(): int = g() qualif f(v: int, x: int, x: int): f(x)",
		"qualif f@1:58 v:int@1:60 x:int@1:68 x:int@1:76 is Call.f@1:85(Var.x@1:87)",
		"fun f@1:5 x:int@1:7 x:int@1:15 to v:int@1:24 is Var.y@1:30",
		"fun f@1:36 to v:int@1:41 is Call.g@1:47")
}

// Blanks, comments and parentheses change nothing but positions.
func TestPositionsOfSamples(t *testing.T) {
	samples(t, func(m maker, e tree.Expr) {
		s := laidOut(m, func(l *layout) { l.expr(&e, 0) })
		reads(t, s, dump(e))
	})
	programs(t, func(m maker, p tree.Program) {
		s := laidOut(m, func(l *layout) { l.program(&p) })
		is(t, s, dumpProgram(program(t, s)), dumpProgram(p))
	})
}
