package parse_test

// P6.1: the limits, each just met and just passed.

import (
	"strconv"
	"strings"
	"testing"

	"litmus/api"
	"litmus/tree"
)

// A nest is a way to write an expression of any Depth: around one of a lower Depth.
type nest struct{ before, after string }

// nests are all ways in which the grammar nests expressions.
var nests = []nest{
	{"-", ""}, {"not ", ""}, {"len ", ""}, {"hd ", ""}, {"tl ", ""},
	{"1 + (", ")"}, {"1 - (", ")"}, {"1 * (", ")"}, {"1 / (", ")"}, {"1 % (", ")"},
	{"", " + 1"}, {"", " - 1"}, {"", " * 1"}, {"", " / 1"}, {"", " % 1"},
	{"1 :: ", ""}, {"(", ") :: 1"},
	{"", " && 1"}, {"", " || 1"}, {"1 && (", ")"}, {"1 || (", ")"},
	{"(", ") = 1"}, {"(", ") <> 1"}, {"(", ") < 1"}, {"(", ") <= 1"}, {"(", ") > 1"}, {"(", ") >= 1"},
	{"1 = (", ")"}, {"1 <> (", ")"}, {"1 < (", ")"}, {"1 <= (", ")"}, {"1 > (", ")"}, {"1 >= (", ")"},
	{"f(", ")"}, {"f(1, ", ", 1)"},
	{"let x = ", " in 1"}, {"let x = 1 in ", ""},
	{"if ", " then 1 else 1"}, {"if 1 then ", " else 1"}, {"if 1 then 1 else ", ""},
	{"match ", " with [] -> 1 | h :: t -> 1"}, {"match 1 with [] -> ", " | h :: t -> 1"}, {"match 1 with [] -> 1 | h :: t -> ", ""},
	{"assert ", "; 1"}, {"assert 1; ", ""},
}

// around returns inner with n nests around it.
func (n nest) around(inner string, times int) string {
	return strings.Repeat(n.before, times) + inner + strings.Repeat(n.after, times)
}

// places are where a complete expression may stand in a program.
var places = []nest{
	{"qualif Q(v: int): ", " fun f(): int = 1"},
	{"fun f(): int = ", ""},
	{"fun f(): int = 1 fun g(): int = ", " qualif Q(v: int): 1"},
	{"fun f(x: int{", "}): int = 1"},
	{"fun f(y: int, x: int{", "}, z: int): int = 1"},
	{"fun f(): int{", "} = 1"},
}

func TestDepth(t *testing.T) {
	for _, n := range nests {
		met, passed := n.around("x", 59), n.around("x", 60)
		e := expr(t, met)
		if tree.Depth(e) != 60 {
			t.Errorf("%q: a Depth of %d, want 60", met, tree.Depth(e))
		}
		exprFails(t, passed, api.ErrLong, 1, 1)
		exprFails(t, " \n  "+passed+" ", api.ErrLong, 2, 3)
		for _, p := range places {
			program(t, p.around(met, 1))
			programFails(t, p.around(passed, 1), api.ErrLong, 1, len(p.before)+1)
		}
	}
}

// Parentheses don't count, but the first token may be one.
func TestDepthInParentheses(t *testing.T) {
	parens := func(s string, n int) string { return nest{"(", ")"}.around(s, n) }
	shapes(t, parens("x", 9999), "Var.x")
	for _, n := range nests {
		shapes(t, parens(n.around("x", 1), 50), shape(expr(t, n.around("x", 1))))
		expr(t, parens(n.around(parens("x", 50), 59), 50))
		exprFails(t, parens(n.around(parens("x", 50), 60), 50), api.ErrLong, 1, 1)
	}
	programFails(t, "fun f(x: int): int = ("+nests[0].around("x", 60)+")", api.ErrLong, 1, 22)
}

// A Depth is that of the deepest part.
func TestDepthOfManyParts(t *testing.T) {
	met, passed := nests[0].around("x", 58), nests[0].around("x", 59)
	for _, n := range nests {
		expr(t, n.around("("+met+")", 1))
		exprFails(t, n.around("("+passed+")", 1), api.ErrLong, 1, 1)
	}
	expr(t, met+" + "+met)
	exprFails(t, met+" + "+passed, api.ErrLong, 1, 1)
	exprFails(t, strings.Repeat("1+", 9999)+"1", api.ErrLong, 1, 1)
	exprFails(t, strings.Repeat("-", 19999)+"1", api.ErrLong, 1, 1)
	// Each expression has a Depth of its own.
	for _, p := range places {
		program(t, strings.ReplaceAll(p.around("x", 1), "1", nests[0].around("1", 59)))
	}
}

// A Depth is detected when the expression has been read: after what is wrong in it, and
// before what is wrong behind it.
func TestDepthAndOtherErrors(t *testing.T) {
	deep := nests[0].around("x", 60)
	exprFails(t, "("+deep, api.ErrForm, 1, 63)
	exprFails(t, "f("+deep+" 1)", api.ErrForm, 1, 65)
	exprFails(t, deep+" + ", api.ErrForm, 1, 65)
	exprFails(t, deep+" x", api.ErrLong, 1, 1)
	exprFails(t, deep+")", api.ErrLong, 1, 1)
	exprFails(t, deep+" $", api.ErrForm, 1, 63)
	for _, p := range places {
		programFails(t, p.before+deep, api.ErrLong, 1, len(p.before)+1)
		programFails(t, p.before+deep+"; 1", api.ErrLong, 1, len(p.before)+1)
		programFails(t, p.before+deep+" *", api.ErrForm, 1, len(p.before)+64)
		programFails(t, p.around(deep, 1)+" )", api.ErrLong, 1, len(p.before)+1)
	}
	// The first of two.
	programFails(t, "fun f(x: int{"+deep+"}): int = "+deep, api.ErrLong, 1, 14)
	programFails(t, "fun f(x: int): int{"+deep+"} = "+deep, api.ErrLong, 1, 20)
	programFails(t, "fun f(x: int{)}): int = "+deep, api.ErrForm, 1, 14)
}

// repeated returns n texts, in each of which each # is its number.
func repeated(s string, n int) string {
	var all strings.Builder
	for i := range n {
		all.WriteString(strings.ReplaceAll(s, "#", strconv.Itoa(i+1)))
	}
	return all.String()
}

const (
	aQual = "qualif Q#(v: int): true\n"
	aFun  = "fun f#(): int = 1\n"
)

// largest returns programs that just meet the limits.
func largest() []string {
	params := repeated(", a#: int", 5)
	return []string{
		repeated(aQual, 20), repeated(aFun, 20), repeated(aQual+aFun, 20), repeated(aFun, 20) + repeated(aQual, 20),
		"qualif Q(v: int" + params + "): true", "fun f(x: int" + params + "): int = 1", "fun f(x: int{v}" + params + "{true}): int = 1",
		repeated("qualif Q#(v: int"+params+"): true fun f#(x: int"+params+"): int = 1\n", 20),
	}
}

func TestLargestPrograms(t *testing.T) {
	for _, s := range largest() {
		program(t, s)
	}
	p := program(t, repeated(aFun+aQual, 20))
	if len(p.Quals) != 20 || len(p.Funs) != 20 || p.Quals[19].Name != "Q20" || p.Funs[19].Name != "f20" {
		t.Errorf("got %s", dumpProgram(p))
	}
}

func TestTooManyQualsAndFuns(t *testing.T) {
	programFails(t, repeated(aQual, 21), api.ErrLong, 21, 8)
	programFails(t, repeated(aFun, 21), api.ErrLong, 21, 5)
	programFails(t, repeated(aQual, 50), api.ErrLong, 21, 8)
	programFails(t, repeated(aFun, 50), api.ErrLong, 21, 5)
	programFails(t, repeated(aQual+aFun, 21), api.ErrLong, 41, 8)
	programFails(t, repeated(aFun+aQual, 21), api.ErrLong, 41, 5)
	programFails(t, repeated(aQual, 20)+repeated(aFun, 21), api.ErrLong, 41, 5)
	programFails(t, repeated(aFun, 20)+"fun\n main", api.ErrLong, 22, 2)
	// What follows the NAME doesn't matter, what precedes it does.
	programFails(t, repeated(aQual, 20)+"qualif Q ! ", api.ErrForm, 21, 10)
	programFails(t, repeated(aQual, 20)+"qualif Q)", api.ErrLong, 21, 8)
	programFails(t, repeated(aQual, 20)+"qualif Q", api.ErrLong, 21, 8)
	programFails(t, repeated(aQual, 20)+"qualif (", api.ErrForm, 21, 8)
	programFails(t, repeated(aQual, 20)+"qualif", api.ErrForm, 21, 7)
	programFails(t, repeated(aQual, 20)+"qualif v", api.ErrForm, 21, 8)
	programFails(t, repeated(aFun, 20)+"fun f fun", api.ErrLong, 21, 5)
	programFails(t, repeated(aFun, 20)+"fun in", api.ErrForm, 21, 5)
	programFails(t, repeated(aFun, 19)+"fun f(): int\n"+repeated(aFun, 5), api.ErrForm, 21, 1)
}

func TestTooManyParams(t *testing.T) {
	seven, six := repeated("a#: int, ", 6), repeated("a#: int, ", 5)
	programFails(t, "fun f("+seven+"b: int): int = 1", api.ErrLong, 1, 7+len(seven))
	programFails(t, "fun f("+seven+"b: int, c: int): int = 1", api.ErrLong, 1, 7+len(seven))
	programFails(t, "fun f("+seven+"b)", api.ErrLong, 1, 7+len(seven))
	programFails(t, "fun f("+seven+"b", api.ErrLong, 1, 7+len(seven))
	programFails(t, "fun f("+seven+"v: int): int = 1", api.ErrForm, 1, 7+len(seven))
	programFails(t, "fun f("+seven+"): int = 1", api.ErrForm, 1, 7+len(seven))
	programFails(t, "qualif Q(v: int, "+six+"b: int): true", api.ErrLong, 1, 18+len(six))
	programFails(t, "qualif Q(v: int, "+six+"b", api.ErrLong, 1, 18+len(six))
	programFails(t, "qualif Q(v: int, "+six+"1", api.ErrForm, 1, 18+len(six))
	// Each Qual and Fun has its own.
	program(t, repeated("fun f#(a: int, b: int, c: int, d: int): int = 1 ", 9))
	deep := nests[0].around("x", 60)
	programFails(t, "fun f("+seven+"b: int{"+deep+"}): int = 1", api.ErrLong, 1, 7+len(seven))
	programFails(t, "fun f(a: int{"+deep+"}, "+seven+"b: int): int = 1", api.ErrLong, 1, 14)
}

func TestLimitsOfTokens(t *testing.T) {
	exprFails(t, "x + "+strings.Repeat("n", 41), api.ErrLong, 1, 5)
	exprFails(t, "x + "+strings.Repeat("7", 301), api.ErrLong, 1, 5)
	exprFails(t, strings.Repeat(" ", 20000)+"x", api.ErrLong, 1, 1)
	programFails(t, strings.Repeat(" ", 20001), api.ErrLong, 1, 1)
	programReads(t, strings.Repeat(" ", 20000))
	reads(t, strings.Repeat(" ", 19999)+"x", "Var.x@1:20000")
}
