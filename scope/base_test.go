package scope_test

// P7.1: the types and faults of expressions.

import (
	"strings"
	"testing"

	"litmus/api"
	"litmus/scope"
	"litmus/tree"
)

func TestPartsWithoutOperands(t *testing.T) {
	for s, want := range map[string]string{
		"0": "i", "7": "i", "340282366920938463463374607431768211456": "i",
		"true": "b", "false": "b", "[]": "l",
		"x": "i", "y": "i", "b": "b", "c": "b", "l": "l", "m": "l",
	} {
		typed(t, s, want)
		typed(t, "("+s+")", strings.Replace(want, "at 1:1", "at 1:2", 1))
	}
}

func TestUnknownNames(t *testing.T) {
	for _, s := range []string{"z", "X", "xx", "x1", "zero", "main", "f", "_"} {
		typed(t, s, fault(api.ErrName, 1, 1))
		typed(t, "x + "+s, fault(api.ErrName, 1, 5))
	}
	is(t, "v in a body", asBody(t, "v"), fault(api.ErrName, 1, 1))
	is(t, "v in a refinement", asRefinement(t, "v"), "i")
}

// operators are all signs whose operands have fixed types, and the type of what they
// make of them.
var operators = map[string]string{
	"-": "i>i", "not": "b>b", "len": "l>i",
	"+": "ii>i", "*": "ii>i",
	"<": "ii>b", "<=": "ii>b", ">": "ii>b", ">=": "ii>b",
	"&&": "bb>b", "||": "bb>b", "::": "il>l",
}

// Each operator, for operands of each type.
func TestOperators(t *testing.T) {
	for sign, rule := range operators {
		want, value, _ := strings.Cut(rule, ">")
		for i, name := range ofBase {
			if len(want) == 1 {
				operator(t, sign+" "+name, 1, letters[i:i+1] == want, value)
				continue
			}
			for j, other := range ofBase {
				operator(t, name+" "+sign+" "+other, 3, letters[i:i+1]+letters[j:j+1] == want, value)
			}
		}
	}
	for i, name := range ofBase {
		for j, other := range ofBase {
			operator(t, name+" - "+other, 3, i == 0 && j == 0, "i")
			operator(t, name+" = "+other, 3, i == j, "b")
			operator(t, name+" <> "+other, 3, i == j, "b")
		}
	}
}

// operator fails unless s, whose sign is in that column, has the type value, or ErrType
// unless ok.
func operator(t *testing.T, s string, col int, ok bool, value string) {
	t.Helper()
	if !ok {
		value = fault(api.ErrType, 1, col)
	}
	typed(t, s, value)
}

// Hd and Tl may only stand in refinements, but their operand comes first.
func TestHeadsAndTails(t *testing.T) {
	for s, value := range map[string]string{"hd": "i", "tl": "l"} {
		is(t, s, asBody(t, s+" l"), fault(api.ErrForm, 1, 1))
		is(t, s, asRefinement(t, s+" l"), value)
		typed(t, s+" x", fault(api.ErrType, 1, 1))
		typed(t, s+" b", fault(api.ErrType, 1, 1))
		typed(t, s+" z", fault(api.ErrName, 1, 4))
		is(t, s, asBody(t, "x + "+s+" (x :: m)"), fault(api.ErrForm, 1, 5))
		is(t, s, asBody(t, "if b then len l else "+s+" l"), fault(api.ErrForm, 1, 22))
	}
	is(t, "nested", asRefinement(t, "hd tl tl l"), "i")
	is(t, "nested", asRefinement(t, "tl hd l"), fault(api.ErrType, 1, 1))
	is(t, "nested", asBody(t, "hd tl l"), fault(api.ErrForm, 1, 4))
}

// Divisors are Nums of at least 1, if the types are right.
func TestDivisors(t *testing.T) {
	for _, sign := range []string{"/", "%"} {
		for s, want := range map[string]string{
			"1": "i", "2": "i", "340282366920938463463374607431768211456": "i", "(3)": "i",
			"0": fault(api.ErrForm, 1, 3), "x": fault(api.ErrForm, 1, 3), "- 1": fault(api.ErrForm, 1, 3), "(1 + 1)": fault(api.ErrForm, 1, 3), "(2 * 1)": fault(api.ErrForm, 1, 3), "len l": fault(api.ErrForm, 1, 3),
			"b": fault(api.ErrType, 1, 3), "true": fault(api.ErrType, 1, 3), "[]": fault(api.ErrType, 1, 3), "(x < y)": fault(api.ErrType, 1, 3),
			"z": fault(api.ErrName, 1, 5),
		} {
			typed(t, "x "+sign+" "+s, want)
		}
		typed(t, "b "+sign+" 2", fault(api.ErrType, 1, 3))
		typed(t, "l "+sign+" 2", fault(api.ErrType, 1, 3))
		typed(t, "b "+sign+" 0", fault(api.ErrType, 1, 3))
		typed(t, "l "+sign+" y", fault(api.ErrType, 1, 3))
		typed(t, "1 "+sign+" 1", "i")
		typed(t, "0 "+sign+" 1", "i")
		typed(t, "x "+sign+" 2 "+sign+" 3", "i")
		typed(t, "x "+sign+" (y "+sign+" 2)", fault(api.ErrForm, 1, 3))
		typed(t, "x "+sign+" (y "+sign+" 0)", fault(api.ErrForm, 1, 8))
	}
}

func TestCalls(t *testing.T) {
	for s, want := range map[string]string{
		"zero()": "i", "one(x)": "b", "one(1 + y)": "b", "two(b, l)": "l", "two(one(zero()), two(c, m))": "l", "six(x, y, b, c, l, m)": "i",
		"one()": fault(api.ErrType, 1, 1), "zero(x)": fault(api.ErrType, 1, 1), "one(x, y)": fault(api.ErrType, 1, 1), "two(b)": fault(api.ErrType, 1, 1), "two(b, l, l)": fault(api.ErrType, 1, 1),
		"six(x, y, b, c, l)": fault(api.ErrType, 1, 1), "six(x, y, b, c, l, x)": fault(api.ErrType, 1, 1), "six(x, b, y, c, l, m)": fault(api.ErrType, 1, 1),
		"one(b)": fault(api.ErrType, 1, 1), "one(l)": fault(api.ErrType, 1, 1), "two(l, b)": fault(api.ErrType, 1, 1), "two(b, b)": fault(api.ErrType, 1, 1),
		"f()": fault(api.ErrName, 1, 1), "x()": fault(api.ErrName, 1, 1), "x(x)": fault(api.ErrName, 1, 1), "Zero()": fault(api.ErrName, 1, 1), "main()": fault(api.ErrName, 1, 1),
		"f(z)": fault(api.ErrName, 1, 3), "zero(z)": fault(api.ErrName, 1, 6), "one(x + b)": fault(api.ErrType, 1, 7), "one(hd l)": fault(api.ErrForm, 1, 5), "two(z, 1 + b)": fault(api.ErrName, 1, 5), "two(1 + b, z)": fault(api.ErrType, 1, 7),
		"one(one(x))": fault(api.ErrType, 1, 1), "one(one(b))": fault(api.ErrType, 1, 5), "one(x) + 1": fault(api.ErrType, 1, 8), "not one(x)": "b",
	} {
		is(t, s, asBody(t, s), want)
	}
}

// A function's parameters and results are those of its declaration, wherever that is.
func TestCallsOfLaterFunctions(t *testing.T) {
	sound(t, "fun main(x: int): int = g(x) fun g(x: int): int = main(x) + h([]) fun h(l: list): int = len l")
	faulty(t, "fun main(x: int): int = g(x) fun g(x: int): bool = true", api.ErrType, 1, 25)
	faulty(t, "fun main(x: int): int = g(x) fun g(x: list): int = 1", api.ErrType, 1, 25)
	faulty(t, "qualif g(v: int): true fun main(x: int): int = g(x)", api.ErrName, 1, 48)
}

func TestIfs(t *testing.T) {
	for i, first := range ofBase {
		for j, second := range ofBase {
			for k, third := range ofBase {
				want := letters[j : j+1]
				if i != int(api.Bool) || j != k {
					want = fault(api.ErrType, 1, 1)
				}
				is(t, "If", asBody(t, "if "+first+" then "+second+" else "+third), want)
			}
		}
	}
	// All parts come before it.
	is(t, "If", asBody(t, "if z then 1 else 2"), fault(api.ErrName, 1, 4))
	is(t, "If", asBody(t, "if x then z else b"), fault(api.ErrName, 1, 11))
	is(t, "If", asBody(t, "if x then y else z"), fault(api.ErrName, 1, 18))
	is(t, "If", asBody(t, "if b then -b else z"), fault(api.ErrType, 1, 11))
}

func TestLets(t *testing.T) {
	for i, first := range ofBase {
		is(t, "Let", asBody(t, "let z = "+first+" in z"), letters[i:i+1])
		for j, second := range ofBase {
			is(t, "Let", asBody(t, "let z = "+first+" in "+second), letters[j:j+1])
		}
	}
	for s, want := range map[string]string{
		"let x = 1 in x": fault(api.ErrName, 1, 1), "let m = true in 1": fault(api.ErrName, 1, 1), "let zero = 1 in zero + zero()": "i", "let z = z in 1": fault(api.ErrName, 1, 9),
		"let z = 1 in let z = 2 in z": fault(api.ErrName, 1, 14), "let z = 1 in let w = z in w + z": "i", "let z = 1 in let w = b in w": "b",
		"let z = let z = 1 in z in z": "i", "let z = let w = 1 in w in w": fault(api.ErrName, 1, 27),
		"(let z = 1 in z) + (let z = 2 in z)": "i", "(let z = 1 in z) + z": fault(api.ErrName, 1, 20), "z + (let z = 1 in z)": fault(api.ErrName, 1, 1), "if b then let z = 1 in z else let z = 2 in z": "i", "if b then let z = 1 in z else z": fault(api.ErrName, 1, 31),
		"let x = w in x": fault(api.ErrName, 1, 9), "let x = 1 + b in w": fault(api.ErrType, 1, 11), "let x = 1 in w": fault(api.ErrName, 1, 1), "let z = 1 in w": fault(api.ErrName, 1, 14), "let z = 1 in z && b": fault(api.ErrType, 1, 16), "let z = hd l in z": fault(api.ErrForm, 1, 9),
		"let x1 = 1 in let x2 = b in let x3 = l in if x2 then x1 :: x3 else x3": "l",
	} {
		is(t, s, asBody(t, s), want)
	}
}

func TestMatches(t *testing.T) {
	for i, first := range ofBase {
		for j, second := range ofBase {
			for k, third := range ofBase {
				want := letters[j : j+1]
				if i != int(api.List) || j != k {
					want = fault(api.ErrType, 1, 1)
				}
				is(t, "Match", asBody(t, "match "+first+" with [] -> "+second+" | h :: t -> "+third), want)
			}
		}
	}
	for s, want := range map[string]string{
		"match l with [] -> 0 | h :: t -> h": "i", "match l with [] -> l | h :: t -> t": "l", "match l with [] -> 0 | h :: t -> h + len t + x": "i", "match l with [] -> b | h :: t -> t = h :: t": "b",
		"match l with [] -> h | h :: t -> h": fault(api.ErrName, 1, 20), "match l with [] -> t | h :: t -> t": fault(api.ErrName, 1, 20), "match h with [] -> 0 | h :: t -> h": fault(api.ErrName, 1, 7),
		"match l with [] -> 0 | x :: t -> x": fault(api.ErrName, 1, 1), "match l with [] -> 0 | h :: m -> h": fault(api.ErrName, 1, 1), "match l with [] -> 0 | h :: h -> h": fault(api.ErrName, 1, 1), "match l with [] -> 0 | x :: x -> x": fault(api.ErrName, 1, 1), "match l with [] -> 0 | l :: t -> 1": fault(api.ErrName, 1, 1),
		"match l with [] -> 0 | zero :: one -> zero": "i",
		"match x with [] -> 0 | x :: y -> z":         fault(api.ErrType, 1, 1), "match x with [] -> 0 | h :: h -> z": fault(api.ErrType, 1, 1), "match z with [] -> 0 | x :: y -> 0": fault(api.ErrName, 1, 7), "match hd l with [] -> 0 | x :: y -> 0": fault(api.ErrForm, 1, 7),
		"match l with [] -> z | x :: t -> 0": fault(api.ErrName, 1, 1), "match l with [] -> -b | h :: t -> z": fault(api.ErrType, 1, 20), "match l with [] -> b | h :: t -> z": fault(api.ErrName, 1, 34), "match l with [] -> b | h :: t -> -t": fault(api.ErrType, 1, 34), "match l with [] -> b | h :: t -> h": fault(api.ErrType, 1, 1),
		"match l with [] -> let h = 1 in h | h :: t -> h": "i", "match l with [] -> 0 | h :: t -> let h = 1 in h": fault(api.ErrName, 1, 34), "match l with [] -> 0 | h :: t -> let t = 1 in h": fault(api.ErrName, 1, 34),
		"match l with [] -> 0 | h :: t -> match t with [] -> h | i :: u -> h + i + len u": "i", "match l with [] -> 0 | h :: t -> match t with [] -> h | i :: t -> i": fault(api.ErrName, 1, 34), "match l with [] -> 0 | h :: t -> match t with [] -> h | h :: u -> h": fault(api.ErrName, 1, 34),
		"match let h = l in h with [] -> 0 | h :: t -> h": "i", "(match l with [] -> 0 | h :: t -> h) + h": fault(api.ErrName, 1, 40), "(match l with [] -> 0 | h :: t -> h) + len t": fault(api.ErrName, 1, 44), "(match l with [] -> 0 | h :: t -> h) + (match m with [] -> 0 | t :: h -> t)": "i",
	} {
		is(t, s, asBody(t, s), want)
	}
}

func TestAsserts(t *testing.T) {
	for i, first := range ofBase {
		for j, second := range ofBase {
			want := letters[j : j+1]
			if i != int(api.Bool) {
				want = fault(api.ErrType, 1, 1)
			}
			is(t, "Assert", asBody(t, "assert "+first+"; "+second), want)
		}
	}
	for s, want := range map[string]string{
		"assert z; 1": fault(api.ErrName, 1, 8), "assert z; w": fault(api.ErrName, 1, 8), "assert x; z": fault(api.ErrType, 1, 1), "assert b; z": fault(api.ErrName, 1, 11), "assert b; assert x; z": fault(api.ErrType, 1, 11),
		"assert let z = b in z; z": fault(api.ErrName, 1, 24), "assert assert b; c; x": "i", "assert assert x; c; z": fault(api.ErrType, 1, 8),
	} {
		is(t, s, asBody(t, s), want)
	}
}

// What may not stand in a refinement: after its first part, or after all of them.
func TestForbiddenInRefinements(t *testing.T) {
	for s, want := range map[string]string{
		"zero()": fault(api.ErrForm, 1, 1), "one(x)": fault(api.ErrForm, 1, 1), "none(x)": fault(api.ErrForm, 1, 1), "one(b)": fault(api.ErrForm, 1, 1), "one()": fault(api.ErrForm, 1, 1), "one(z)": fault(api.ErrName, 1, 5), "one(zero())": fault(api.ErrForm, 1, 5), "two(x + b, z)": fault(api.ErrType, 1, 7), "two(b, z)": fault(api.ErrName, 1, 8),
		"if b then x else y": fault(api.ErrForm, 1, 1), "if x then x else b": fault(api.ErrForm, 1, 1), "if z then x else y": fault(api.ErrName, 1, 4), "if b then z else y": fault(api.ErrName, 1, 11), "if b then x else -b": fault(api.ErrType, 1, 18), "if b then if c then x else y else z": fault(api.ErrForm, 1, 11),
		"let z = x in z": fault(api.ErrForm, 1, 1), "let x = x in x": fault(api.ErrForm, 1, 1), "let z = w in z": fault(api.ErrName, 1, 9), "let z = x in w": fault(api.ErrForm, 1, 1), "let z = zero() in w": fault(api.ErrForm, 1, 9), "let z = -b in w": fault(api.ErrType, 1, 9),
		"match l with [] -> 0 | h :: t -> h": fault(api.ErrForm, 1, 1), "match x with [] -> 0 | h :: t -> h": fault(api.ErrForm, 1, 1), "match l with [] -> 0 | x :: x -> h": fault(api.ErrForm, 1, 1), "match z with [] -> 0 | h :: t -> h": fault(api.ErrName, 1, 7), "match l with [] -> z | h :: t -> h": fault(api.ErrForm, 1, 1),
		"assert b; x": fault(api.ErrForm, 1, 1), "assert x; x": fault(api.ErrForm, 1, 1), "assert z; x": fault(api.ErrName, 1, 8), "assert b; z": fault(api.ErrForm, 1, 1),
		"x + zero()": fault(api.ErrForm, 1, 5), "b && (assert b; c)": fault(api.ErrForm, 1, 7), "hd (let z = l in z)": fault(api.ErrForm, 1, 5), "b + zero()": fault(api.ErrForm, 1, 5),
	} {
		is(t, s, asRefinement(t, s), want)
	}
}

// Parts are checked from left to right, each before what contains it.
func TestFirstFaults(t *testing.T) {
	for s, want := range map[string]string{
		"z + w": fault(api.ErrName, 1, 1), "x + w": fault(api.ErrName, 1, 5), "b + w": fault(api.ErrName, 1, 5), "w + b": fault(api.ErrName, 1, 1), "-b + w": fault(api.ErrType, 1, 1), "w + -b": fault(api.ErrName, 1, 1), "x + -b": fault(api.ErrType, 1, 5),
		"(x + b) + (y + c)": fault(api.ErrType, 1, 4), "x + b + c": fault(api.ErrType, 1, 3), "b + x + c": fault(api.ErrType, 1, 3), "x + y + c": fault(api.ErrType, 1, 7), "not not x": fault(api.ErrType, 1, 5), "not -b": fault(api.ErrType, 1, 5), "not -x": fault(api.ErrType, 1, 1),
		"x / 0 + z": fault(api.ErrForm, 1, 3), "z / 0": fault(api.ErrName, 1, 1), "x / (z + 0)": fault(api.ErrName, 1, 6), "-b / 0": fault(api.ErrType, 1, 1), "b :: l = z": fault(api.ErrType, 1, 3), "x :: b :: z": fault(api.ErrName, 1, 11), "x :: b :: l": fault(api.ErrType, 1, 8), "l :: x :: l": fault(api.ErrType, 1, 3),
		"x = b": fault(api.ErrType, 1, 3), "x = z": fault(api.ErrName, 1, 5), "(x = y) = b": "b", "(x = y) = (l = m)": "b", "(x = y) <> x": fault(api.ErrType, 1, 9),
	} {
		typed(t, s, want)
	}
}

// Positions are those of the source, whatever its layout.
func TestPositionsOfFaults(t *testing.T) {
	is(t, "a later line", asBody(t, "x +\n  y\n    + b"), fault(api.ErrType, 3, 5))
	is(t, "a later line", asBody(t, "\n\n (z)"), fault(api.ErrName, 3, 3))
	is(t, "a later line", asBody(t, "if\nx then 1\nelse 2"), fault(api.ErrType, 1, 1))
	e := expr(t, "z")
	e.Line, e.Col = -3, 0
	_, err := scope.Base(e, nil, nil)
	is(t, "any position", found(err), fault(api.ErrName, -3, 0))
}

// Base's scope and functions may be anything.
func TestBaseInOtherScopes(t *testing.T) {
	base := func(s string, scopes, program []tree.Param, all []tree.Fun) string {
		b, err := scope.Base(expr(t, s), append(scopes, program...), all)
		if err != nil {
			return found(err)
		}
		return letter(b)
	}
	x := func(b api.Base) tree.Param { return tree.Param{Name: "x", Base: b} }
	y := tree.Param{Name: "y", Base: api.List}
	is(t, "no scope", base("x", nil, nil, nil), fault(api.ErrName, 1, 1))
	is(t, "no scope", base("1 + 2", nil, nil, nil), "i")
	is(t, "no functions", base("f(x)", []tree.Param{x(api.Int)}, nil, nil), fault(api.ErrName, 1, 1))
	for b := range api.List + 1 {
		for other := range api.List + 1 {
			// The last one counts.
			is(t, "duplicate names", base("x", []tree.Param{x(other), x(b)}, nil, nil), letter(b))
			is(t, "duplicate names", base("x", []tree.Param{x(other), y, x(b), y}, nil, nil), letter(b))
			is(t, "duplicate names", base("x", []tree.Param{x(b), x(other), y, x(b)}, nil, nil), letter(b))
		}
	}
	is(t, "v", base("v", []tree.Param{{Name: "v", Base: api.List}}, nil, nil), "l")
	is(t, "a name that is twice in scope", base("let x = 1 in x", []tree.Param{x(0), x(0)}, nil, nil), fault(api.ErrName, 1, 1))
	refined := tree.Param{Name: "x", Base: api.Int, Known: true, Ref: expr(t, "z")}
	is(t, "a Ref isn't checked", base("x", []tree.Param{refined}, nil, nil), "i")
	f := tree.Fun{Name: "f", Params: []tree.Param{refined, refined}, Result: tree.Param{Base: api.List}, Body: expr(t, "z")}
	is(t, "a function isn't checked", base("f(1, 2)", nil, nil, []tree.Fun{f}), "l")
	is(t, "an expression as a body", base("hd x", []tree.Param{x(api.List)}, nil, nil), fault(api.ErrForm, 1, 1))
}
