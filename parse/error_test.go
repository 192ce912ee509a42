package parse_test

// P6.1: the errors of what isn't a program or an expression, and their positions.

import (
	"errors"
	"testing"

	"litmus/api"
	"litmus/parse"
)

// The chapter's example.
func TestErrorExample(t *testing.T) {
	exprFails(t, "a < b < c", api.ErrForm, 1, 7)
}

func TestInvalidExpressions(t *testing.T) {
	for _, c := range []struct {
		s   string
		col int
	}{
		{"", 1}, {" ", 2}, {"1 +", 4}, {"1 + # x", 8}, {"1 2", 3}, {"x y", 3}, {"x 1", 3}, {"v v", 3}, {"v(1)", 2}, {"1(2)", 2}, {"f(1)(2)", 5}, {"(f)(1)", 4},
		{"()", 2}, {"(1", 3}, {"1)", 2}, {"(1))", 4}, {"(1, 2)", 3}, {"[] []", 4}, {"{1}", 1}, {"1 }", 3}, {")", 1},
		{"f(", 3}, {"f(,", 3}, {"f(1", 4}, {"f(1,", 5}, {"f(1,)", 5}, {"f(1 2)", 5}, {"f(1,,2)", 5}, {"f(1;2)", 4}, {"f)", 2},
		{"+ 1", 1}, {"* 1", 1}, {"= 1", 1}, {":: 1", 1}, {"&& 1", 1}, {"1 + * 2", 5}, {"1 * + 2", 5}, {"1 && || 2", 6}, {"1 :: :: 2", 6}, {"1 ::", 5},
		{"a = b = c", 7}, {"a = b <> c", 7}, {"a <= b >= c", 8}, {"a < b :: c < d", 12}, {"a < b + c < d", 11}, {"a && b < c < d", 12}, {"a < b < c && d", 7}, {"a || b = c && d = e = f", 21},
		{"(a < b < c)", 8}, {"f(a < b < c)", 9}, {"if a < b < c then 1 else 2", 10},
		{"-", 2}, {"not", 4}, {"- + 1", 3}, {"not if a then b else c", 5}, {"1 + if a then b else c", 5}, {"1 :: let x = 1 in x", 6}, {"a && assert b; c", 6}, {"a = match b", 5}, {"- let x = 1 in x", 3},
		{"let", 4}, {"let 1", 5}, {"let v = 1 in v", 5}, {"let in = 1 in 2", 5}, {"let x", 6}, {"let x 1", 7}, {"let x : int = 1", 7}, {"let x = in", 9}, {"let x = 1", 10}, {"let x = 1 x", 11}, {"let x = 1 in", 13}, {"let x = 1 in in", 14},
		{"if", 3}, {"if then", 4}, {"if a b", 6}, {"if a else b", 6}, {"if a then b", 12}, {"if a then b then c", 13}, {"if a then b else", 17}, {"if a then else b", 11},
		{"match", 6}, {"match a", 8}, {"match a with 1", 14}, {"match a with []", 16}, {"match a with [] 1", 17}, {"match a with [] -> | h :: t -> 1", 20}, {"match a with [] -> 1", 21}, {"match a with [] -> 1 || h :: t -> 2", 32},
		{"match a with | [] -> 1", 14}, {"match a with [] -> 1 | 2", 24}, {"match a with [] -> 1 | v :: t -> 2", 24}, {"match a with [] -> 1 | h t", 26}, {"match a with [] -> 1 | h :: v -> 2", 29}, {"match a with [] -> 1 | h :: t 2", 31},
		{"match a with [] -> 1 | h :: t ->", 33}, {"match a with [] -> 1 | h :: t -> 2 | h :: t -> 3", 36}, {"match a with [] -> 1 | [] -> 2", 24},
		{"assert", 7}, {"assert ;", 8}, {"assert a", 9}, {"assert a b", 10}, {"assert a;", 10}, {"assert a; b; c", 12}, {"assert a, b", 9},
		{"then", 1}, {"int", 1}, {"fun", 1}, {"fun f(): int = 1", 1}, {"1 fun f(): int = 1", 3}, {"qualif Q(v: int): 1", 1}, {"1 -> 2", 3}, {"1 | 2", 3}, {"1 ; 2", 3}, {"x : int", 3}, {"x{1}", 2},
	} {
		exprFails(t, c.s, api.ErrForm, 1, c.col)
		exprFails(t, "\n "+c.s, api.ErrForm, 2, c.col+1)
	}
}

func TestInvalidPrograms(t *testing.T) {
	for _, c := range []struct {
		s   string
		col int
	}{
		{"main", 1}, {"1", 1}, {"v", 1}, {"(", 1}, {"x + 1", 1}, {"let x = 1 in x", 1}, {"in", 1}, {";", 1},
		{"fun", 4}, {"fun 1", 5}, {"fun v()", 5}, {"fun int()", 5}, {"fun f", 6}, {"fun f:", 6}, {"fun f g", 7}, {"fun f{", 6},
		{"fun f(", 7}, {"fun f(,", 7}, {"fun f(1", 7}, {"fun f(v: int): int = 1", 7}, {"fun f(a", 8}, {"fun f(a)", 8}, {"fun f(a int", 9}, {"fun f(a:", 9}, {"fun f(a: 1", 10}, {"fun f(a: x", 10}, {"fun f(a: v", 10},
		{"fun f(a: int", 13}, {"fun f(a: int b", 14}, {"fun f(a: int,", 14}, {"fun f(a: int,)", 14}, {"fun f(a: int;", 13}, {"fun f(a: int, v: int)", 15}, {"fun f(a: int{", 14}, {"fun f(a: int{}", 14}, {"fun f(a: int{1)", 15}, {"fun f(a: int{1}", 16}, {"fun f(a: int{1}{1}", 16}, {"fun f(a: int{1} b", 17},
		{"fun f()", 8}, {"fun f() int", 9}, {"fun f() = 1", 9}, {"fun f():", 9}, {"fun f(): x", 10}, {"fun f(): = 1", 10}, {"fun f(): {1}", 10}, {"fun f(): int", 13}, {"fun f(): int 1", 14}, {"fun f(): int{", 14}, {"fun f(): int{}", 14}, {"fun f(): int{1", 15}, {"fun f(): int{1}", 16}, {"fun f(): int{1}{1} = 1", 16},
		{"fun f(): int =", 15}, {"fun f(): int = fun", 16}, {"fun f(): int = 1 2", 18}, {"fun f(): int = 1;", 17}, {"fun f(): int = 1 )", 18}, {"fun f(): int = 1 = 2 = 3", 22}, {"fun f(): int == 1", 15}, {"fun f(): int = 1 main", 18}, {"fun f(): int = 1 fun", 21}, {"fun f(): int = 1 qualif", 24},
		{"qualif", 7}, {"qualif 1", 8}, {"qualif v", 8}, {"qualif Q", 9}, {"qualif Q:", 9}, {"qualif Q(", 10}, {"qualif Q()", 10}, {"qualif Q(): true", 10}, {"qualif Q(x: int): true", 10}, {"qualif Q(,", 10},
		{"qualif Q(v", 11}, {"qualif Q(v)", 11}, {"qualif Q(v: x", 13}, {"qualif Q(v: int", 16}, {"qualif Q(v: int{true}): true", 16}, {"qualif Q(v: int x", 17}, {"qualif Q(v: int,", 17}, {"qualif Q(v: int,)", 17}, {"qualif Q(v: int, v: int)", 18}, {"qualif Q(v: int, x)", 19},
		{"qualif Q(v: int, x: int{v}): true", 24}, {"qualif Q(v: int, x: int,): true", 25},
		{"qualif Q(v: int)", 17}, {"qualif Q(v: int) true", 18}, {"qualif Q(v: int): int", 19}, {"qualif Q(v: int) = true", 18}, {"qualif Q(v: int): true = false = true", 32}, {"qualif Q(v: int):", 18}, {"qualif Q(v: int): true;", 23}, {"qualif Q(v: int): qualif", 19}, {"qualif Q(v: int): true x", 24},
	} {
		programFails(t, c.s, api.ErrForm, 1, c.col)
		programFails(t, "fun g(): int = 1\nqualif R(v: int): 1\n"+c.s, api.ErrForm, 3, c.col)
	}
}

// Lex's errors come first, wherever they are.
func TestLexErrorsComeFirst(t *testing.T) {
	exprFails(t, "[ ]", api.ErrForm, 1, 1)
	exprFails(t, ") ) [", api.ErrForm, 1, 5)
	exprFails(t, "1 2\n 007", api.ErrForm, 2, 2)
	programFails(t, "main & x", api.ErrForm, 1, 6)
	programFails(t, "fun ) \n\x00", api.ErrForm, 2, 1)
	programFails(t, repeated(aFun, 30)+" !", api.ErrForm, 31, 2)
	programFails(t, "fun f(): int = "+nests[0].around("1", 90)+"\n 00", api.ErrForm, 2, 2)
}

// Errors are found as DOC.md says.
func TestErrorsAreWrapped(t *testing.T) {
	_, first := parse.Expr("1 +\n  )")
	_, second := parse.Parse("fun f(): int = 1\n  2")
	for _, err := range []error{first, second} {
		var at *api.At
		if !errors.As(err, &at) || at.Line != 2 || at.Col != 3 {
			t.Errorf("errors.As: %v", err)
		}
		if !errors.Is(err, api.ErrForm) || errors.Is(err, api.ErrLong) {
			t.Errorf("errors.Is: %v", err)
		}
	}
	if _, err := parse.Parse(repeated(aFun, 21)); !errors.Is(err, api.ErrLong) || errors.Is(err, api.ErrForm) {
		t.Errorf("errors.Is: %v", err)
	}
}
