package machine_test

// P9.1: what each expression results in, and what it costs.

import (
	"math"
	"strings"
	"testing"

	"litmus/api"
	"litmus/machine"
	"litmus/parse"
	"litmus/scope"
	"litmus/tree"
	"litmus/value"
)

// funs are what the tests of single expressions may call.
const funs = `
fun zero(): int = 0
fun yes(): bool = true
fun one(x: int): int = x
fun two(y: int, x: int): int = x - y
fun both(b: bool, l: list): list = if b then l else []
`

// names are the parameters of main for these tests, and given are their values: n has 2
// limbs, and k has 5.
const (
	names = "x;y;n;k;b;c;l;m"
	given = "5;-7;4294967296;-340282366920938463463374607431768211456;true;false;[1, -4294967296];[]"
)

// evaluates fails unless the expression s, of type base, has that outcome as the body of
// main: positions are those within s.
func evaluates(t *testing.T, base api.Base, s, want string) {
	t.Helper()
	p, args := parsed(t, funs), vals(t, given)
	body, err := parse.Expr(s)
	if err != nil {
		t.Fatalf("%s: error at %v", s, err)
	}
	main := tree.Fun{Name: "main", Result: tree.Param{Name: "v", Base: base}, Body: body}
	for i, name := range strings.Split(names, ";") {
		main.Params = append(main.Params, tree.Param{Name: name, Base: args[i].Base})
	}
	p.Funs = append(p.Funs, main)
	if err := scope.Check(p); err != nil {
		t.Fatalf("%s: fault at %v", s, err)
	}
	is(t, s, told(machine.Run(p, args, plenty)), want)
}

func TestParts(t *testing.T) {
	for s, want := range map[string]string{
		"0": "0 after 1", "7": "7 after 1", "x": "5 after 1", "y": "-7 after 1",
		"340282366920938463463374607431768211456": "340282366920938463463374607431768211456 after 1",
		"k": "-340282366920938463463374607431768211456 after 1", "((x))": "5 after 1",
	} {
		evaluates(t, api.Int, s, want)
	}
	for s, want := range map[string]string{"true": "true after 1", "false": "false after 1", "b": "true after 1", "c": "false after 1"} {
		evaluates(t, api.Bool, s, want)
	}
	for s, want := range map[string]string{"[]": "[] after 1", "l": "[1, -4294967296] after 1", "m": "[] after 1"} {
		evaluates(t, api.List, s, want)
	}
}

// The cost depends on the limbs of the operands, not on those of the result.
func TestSums(t *testing.T) {
	for s, want := range map[string]string{
		"-x": "-5 after 3", "-0": "0 after 2", "-n": "-4294967296 after 4", "-k": "340282366920938463463374607431768211456 after 7", "- - x": "5 after 5",
		"x + y": "-2 after 5", "x + 0": "5 after 4", "0 + 0": "0 after 3", "0 + n": "4294967296 after 5", "n + n": "8589934592 after 7", "x + k": "-340282366920938463463374607431768211451 after 9",
		"4294967295 + 1": "4294967296 after 5", "n - 1": "4294967295 after 6", "x - x": "0 after 5", "x - y": "12 after 5", "0 - n": "-4294967296 after 5", "n - n": "0 after 7",
		"x + x + x": "15 after 9", "x - (x - x)": "5 after 8",
	} {
		evaluates(t, api.Int, s, want)
	}
}

func TestProducts(t *testing.T) {
	for s, want := range map[string]string{
		"x * y": "-35 after 4", "y * y": "49 after 4", "0 * k": "0 after 3", "k * 0": "0 after 3", "0 * 0": "0 after 3",
		"n * n": "18446744073709551616 after 7", "n * k": "-1461501637330902918203684832716283019655932542976 after 13", "k * x": "-1701411834604692317316873037158841057280 after 8", "4294967295 * 4294967295": "18446744065119617025 after 4",
	} {
		evaluates(t, api.Int, s, want)
	}
}

// Quotients are rounded down. Of the operands, only the left one's limbs count.
func TestQuotients(t *testing.T) {
	for s, want := range map[string]string{
		"x / 2": "2 after 4", "y / 2": "-4 after 4", "0 / 2": "0 after 3", "-1 / 2": "-1 after 6", "x / 5": "1 after 4", "y / 7": "-1 after 4", "y / 8": "-1 after 4", "x / 1": "5 after 4", "x / 18446744073709551616": "0 after 4", "y / 18446744073709551616": "-1 after 4",
		"n / 3": "1431655765 after 5", "k / 18446744073709551616": "-18446744073709551616 after 8", "k / 3": "-113427455640312821154458202477256070486 after 8",
		"x % 2": "1 after 4", "y % 2": "1 after 4", "y % 7": "0 after 4", "0 % 2": "0 after 3", "y % 5": "3 after 4", "x % 6": "5 after 4", "y % 18446744073709551616": "18446744073709551609 after 4", "x % 1": "0 after 4", "n % 3": "1 after 5", "k % 3": "2 after 8",
	} {
		evaluates(t, api.Int, s, want)
	}
}

func TestComparisons(t *testing.T) {
	less := "< <= <>"
	for pair, which := range map[string]string{"y x": less, "x n": less, "k y": less, "0 x": less, "k 0": less, "x x": "<= >= =", "0 0": "<= >= =", "k k": "<= >= =", "n x": "> >= <>", "x y": "> >= <>", "0 y": "> >= <>"} {
		left, right, _ := strings.Cut(pair, " ")
		limbs := map[string]int{"0": 0, "x": 1, "y": 1, "n": 2, "k": 5}
		cost := 3 + limbs[left] + limbs[right]
		for _, sign := range []string{"<", "<=", ">", ">=", "=", "<>"} {
			holds := strings.Contains(" "+which+" ", " "+sign+" ")
			evaluates(t, api.Bool, left+" "+sign+" "+right, told(machine.Outcome{Value: value.OfBool(holds), Steps: cost}))
		}
	}
}

func TestEqualityOfBools(t *testing.T) {
	for s, want := range map[string]string{
		"b = b": "true after 3", "b = c": "false after 3", "c = b": "false after 3", "c = false": "true after 3",
		"b <> b": "false after 3", "b <> c": "true after 3", "false <> b": "true after 3", "c <> c": "false after 3",
		"(x = x) = b": "true after 7",
	} {
		evaluates(t, api.Bool, s, want)
	}
}

// All numbers of both lists count, wherever they differ.
func TestEqualityOfLists(t *testing.T) {
	for s, want := range map[string]string{
		"l = l": "true after 13", "m = m": "true after 3", "[] = m": "true after 3", "l = m": "false after 8", "m = l": "false after 8",
		"l <> l": "false after 13", "m <> m": "false after 3", "l <> m": "true after 8",
		"0 :: m = 0 :: m":       "true after 9",
		"0 :: m = m":            "false after 6",
		"1 :: m = 2 :: m":       "false after 11",
		"x :: l = y :: l":       "false after 21",
		"x :: l = l":            "false after 17",
		"l = 1 :: -n :: m":      "true after 10 + 5 + 5",
		"l <> 1 :: n :: m":      "true after 13 + 4",
		"1 :: l = 1 :: 1 :: m":  "false after 9 + 7 + 4",
		"1 :: 2 :: m = 1 :: []": "false after 9 + 4 + 2",
	} {
		evaluates(t, api.Bool, s, summed(want))
	}
}

// summed replaces the sum at the end of s by its number.
func summed(s string) string {
	text, sum, _ := strings.Cut(s, " after ")
	steps := 0
	for part := range strings.SplitSeq(sum, " + ") {
		n := 0
		for _, c := range part {
			n = 10*n + int(c-'0')
		}
		steps += n
	}
	return text + told(machine.Outcome{Steps: steps})[1:]
}

func TestLists(t *testing.T) {
	for s, want := range map[string]string{
		"x :: l": "[5, 1, -4294967296] after 3", "k :: m": "[-340282366920938463463374607431768211456] after 3", "0 :: 1 :: []": "[0, 1] after 5", "x + x :: m": "[10] after 7",
	} {
		evaluates(t, api.List, s, want)
	}
	for s, want := range map[string]string{"len l": "2 after 4", "len m": "0 after 2", "len []": "0 after 2", "len (k :: k :: l)": "4 after 10"} {
		evaluates(t, api.Int, s, want)
	}
}

// Only the parts that are needed are evaluated.
func TestConnectives(t *testing.T) {
	for s, want := range map[string]string{
		"not b": "false after 2", "not c": "true after 2", "not not c": "false after 3",
		"b && b": "true after 3", "b && c": "false after 3", "c && b": "false after 2", "c && c": "false after 2",
		"b || b": "true after 2", "b || c": "true after 2", "c || b": "true after 3", "c || c": "false after 3",
		"c && (assert false; b)": "false after 2", "b || (assert false; b)": "true after 2",
		"b && x < n": "true after 8", "c || x > n": "false after 8",
		"c && b || b": "true after 4", "b || b && c": "true after 2", "c && b && b": "false after 3", "b && c || c && b": "false after 6",
	} {
		evaluates(t, api.Bool, s, want)
	}
}

func TestBranches(t *testing.T) {
	for s, want := range map[string]string{
		"if b then x else y":                                                      "5 after 3",
		"if c then x else y":                                                      "-7 after 3",
		"if x < y then x else y + 1":                                              "-6 after 11",
		"if b then x else (assert false; y)":                                      "5 after 3",
		"if c then (assert false; x) else y":                                      "-7 after 3",
		"match l with [] -> x | h :: t -> h":                                      "1 after 3",
		"match m with [] -> x | h :: t -> h":                                      "5 after 3",
		"match l with [] -> x | h :: t -> len t":                                  "1 after 5",
		"match l with [] -> (assert c; x) | h :: t -> x + h":                      "6 after 7",
		"match m with [] -> x + y | h :: t -> assert c; h":                        "-2 after 7",
		"match x :: [] with [] -> 3 | h :: t -> len t - h":                        "-5 after 9",
		"match l with [] -> 0 | h :: t -> match t with [] -> 1 | i :: u -> h * i": "-4294967296 after 9",
		"assert b; x":                       "5 after 3",
		"assert x > y; assert b; y":         "-7 after 9",
		"let z = x in z":                    "5 after 3",
		"let z = x + y in z * z":            "4 after 10",
		"let z = l in len z + len (x :: z)": "5 after 16",
		"let z = 1 in let w = z + 1 in let u = w + z in u + w + z": "6 after 23",
	} {
		evaluates(t, api.Int, s, want)
	}
	evaluates(t, api.List, "match l with [] -> m | h :: t -> t", "[-4294967296] after 3")
	evaluates(t, api.Bool, "let z = b in z && not z", "false after 6")
}

func TestCalls(t *testing.T) {
	for s, want := range map[string]string{
		"zero()": "0 after 2", "one(x)": "5 after 3", "two(x, y)": "-12 after 8", "two(y, x)": "12 after 8", "one(one(one(n)))": "4294967296 after 7", "two(zero(), one(x))": "5 after 10", "zero() + zero()": "0 after 5",
		"if yes() then one(y) else zero()": "-7 after 6",
	} {
		evaluates(t, api.Int, s, want)
	}
	evaluates(t, api.List, "both(b, x :: l)", "[5, 1, -4294967296] after 8")
	evaluates(t, api.Bool, "yes() && not yes()", "false after 6")
}

// A name means what it is bound to in the same body, whatever it means elsewhere.
func TestScopes(t *testing.T) {
	for _, c := range []struct{ s, args, want string }{
		{"fun f(y: int): int = y fun main(x: int): int = let y = 3 in f(x) - y", "9", "6 after 9"},
		{"fun f(y: int): int = let x = y + 1 in x fun main(x: int): int = f(x) - x", "9", "1 after 13"},
		{"fun f(l: list): int = match l with [] -> 0 | h :: t -> f(t) + h fun main(h: int, t: list): int = f(t) + h", "100;[1, 2, 3]", "106 after 32"},
		{"fun main(a: int, b: int): int = if a <= 0 then b else main(b - 1, a) + a", "2;2", "5 after 53"},
		{"fun main(x: int): int = let y = (let z = x in z + 1) in let z = 5 in y * z", "1", "10 after 14"},
		{"fun main(x: int): int = (let y = 1 in y) + (let y = 2 in y + x)", "3", "6 after 13"},
		{"fun main(l: list): list = match l with [] -> l | a :: b -> match b with [] -> a :: l | c :: d -> c :: a :: d", "[1, 2, 3]", "[2, 1, 3] after 9"},
		{"fun f(v1: int): int = v1 fun main(f: int, main: int): int = f(main) - f", "4;6", "2 after 7"},
	} {
		runs(t, c.s, c.args, plenty, c.want)
	}
}

func TestRecursion(t *testing.T) {
	fac := "fun fac(n: int): int = if n <= 1 then 1 else n * fac(n - 1) fun main(n: int): int = fac(n)"
	runs(t, fac, "0", plenty, "1 after 8")
	runs(t, fac, "3", plenty, "6 after 39")
	runs(t, fac, "30", 10000, "265252859812191058636308480000000 after 472")
	reverse := "fun r(l: list, m: list): list = match l with [] -> m | h :: t -> r(t, h :: m) fun main(l: list): list = r(l, [])"
	runs(t, reverse, "[1, -2, 3]", plenty, "[3, -2, 1] after 27")
	parity := "fun odd(n: int): bool = n <> 0 && even(n - 1) fun even(n: int): bool = n = 0 || odd(n - 1) fun main(n: int): bool = odd(n)"
	runs(t, parity, "1", plenty, "true after 17")
	runs(t, parity, "2", plenty, "false after 28")
}

// The chapter's example.
func TestExample(t *testing.T) {
	s := "fun main(x: int): int = assert x > 0; x"
	runs(t, s, "0", plenty, "failed at 1:25 in main 0:0 after 4")
	runs(t, s, "0", 4, "failed at 1:25 in main 0:0 after 4")
	runs(t, s, "0", 3, "spent 3")
	runs(t, s, "1", plenty, "1 after 6")
	runs(t, s, "-1", plenty, "failed at 1:25 in main 0:0 after 5")
}

// A run fails at the first Assert whose condition is false; what would come later costs
// nothing.
func TestFailures(t *testing.T) {
	for s, want := range map[string]string{
		"x + (assert c; y)":                                "6 after 4",
		"(assert c; k) * k":                                "2 after 3",
		"k - (if b then assert x > n; y else x)":           "16 after 11",
		"let z = assert x < y; x in assert c; z":           "9 after 7",
		"assert b; assert (assert c; b); x":                "19 after 5",
		"assert (assert b; c); assert c; x":                "1 after 4",
		"len ((assert c; x) :: m)":                         "7 after 4",
		"match (assert c; l) with [] -> 0 | h :: t -> h":   "8 after 3",
		"match l with [] -> 0 | h :: t -> assert h > x; h": "34 after 8",
		"if (assert c; b) then x else y":                   "5 after 3",
		"if b && (assert c; b) then x else y":              "10 after 5",
		"if c || (assert c; b) then x else y":              "10 after 5",
	} {
		evaluates(t, api.Int, s, "failed at 1:"+strings.Replace(want, " ", " in main 0:0 ", 1))
	}
}

// Only calls whose bodies are being evaluated are active.
func TestPaths(t *testing.T) {
	const head = "fun f(x: int): int = assert x > 0; x\nfun g(x: int): int = f(x - 1)\nfun h(): int = assert false; 1\nfun two(x: int, y: int): int = x + h() + y\n"
	for s, want := range map[string]string{
		"f(0)":                            "1:22 in main 0:0, f 5:25",
		"g(1)":                            "1:22 in main 0:0, g 5:25, f 2:22",
		"h()":                             "3:16 in main 0:0, h 5:25",
		"1 + h()":                         "3:16 in main 0:0, h 5:29",
		"f(1) + f(0)":                     "1:22 in main 0:0, f 5:32",
		"f(f(f(1) - 1))":                  "1:22 in main 0:0, f 5:27",
		"g(f(h()))":                       "3:16 in main 0:0, h 5:29",
		"two(f(1), g(1))":                 "1:22 in main 0:0, g 5:35, f 2:22",
		"two(1, 2)":                       "3:16 in main 0:0, two 5:25, h 4:36",
		"let y = f(1) in assert y > 1; y": "5:41 in main 0:0",
		"f(assert x > 0; x)":              "5:27 in main 0:0",
		"two(f(1), assert x > 0; x)":      "5:35 in main 0:0",
		"if f(1) = 1 then g(1) else h()":  "1:22 in main 0:0, g 5:42, f 2:22",
		"match f(2) :: [] with [] -> 0 | i :: t -> h()": "3:16 in main 0:0, h 5:67",
		"if x < 2 then 1 - main(x + 1) else g(x - 1)":   "1:22 in main 0:0, main 5:43, main 5:43, g 5:60, f 2:22",
	} {
		o := machine.Run(program(t, head+"fun main(x: int): int = "+s), vals(t, "0"), plenty)
		got, _, _ := strings.Cut(told(o), " after ")
		is(t, s, got, "failed at "+want)
	}
}

// Positions are those of the trees, whatever they are.
func TestOddPositions(t *testing.T) {
	no := tree.Expr{Kind: tree.False}
	body := tree.Expr{Kind: tree.Assert, Kids: []tree.Expr{no, no}, Line: -3, Col: math.MaxInt}
	call := tree.Expr{Kind: tree.Call, Name: "f", Line: math.MinInt, Col: 0}
	result := tree.Param{Name: "v", Base: 1}
	p := tree.Program{Funs: []tree.Fun{{Name: "main", Result: result, Body: call}, {Name: "f", Result: result, Body: body}}}
	is(t, "Run", told(machine.Run(p, nil, plenty)), "failed at -3:9223372036854775807 in main 0:0, f -9223372036854775808:0 after 3")
}

func TestWrong(t *testing.T) {
	for _, c := range []struct{ params, args string }{
		{"", "1"}, {"", "true;[]"}, {"x: int", ""}, {"x: int", "1;1"}, {"x: int, y: int", "1"},
		{"x: int", "true"}, {"x: int", "false"}, {"x: int", "[]"}, {"x: int", "[1]"}, {"b: bool", "0"}, {"b: bool", "1"}, {"b: bool", "[]"}, {"l: list", "0"}, {"l: list", "true"},
		{"x: int, l: list", "[];1"}, {"x: int, l: list", "1;1"}, {"x: int, b: bool, l: list", "1;true;true"}, {"x: int, b: bool, l: list", "1;true"}, {"x: int, b: bool, l: list", "1;true;[];1"},
	} {
		s := "fun main(" + c.params + "): int = assert false; 1"
		// Also where the fuel suffices for nothing.
		for _, fuel := range []int{plenty, 1, 0, -1} {
			runs(t, s, c.args, fuel, "wrong")
		}
	}
	runs(t, "fun f(x: int): int = x fun main(): int = f(1)", "", plenty, "1 after 3")
	runs(t, "fun f(x: int): int = x fun main(): int = f(1)", "1", plenty, "wrong")
	runs(t, "fun f(): int = 1 fun main(x: int): int = f()", "1", plenty, "1 after 2")
}

func TestFuel(t *testing.T) {
	const most = 1000000
	for _, s := range []string{"fun main(): int = main()", "fun main(): int = 1 + main()", "fun f(x: int): int = f(x) fun main(): int = f(0)", "fun f(x: int): int = f(x * x + 2) fun main(): int = f(1)"} {
		for fuel, steps := range map[int]string{
			math.MinInt: "0", -1: "0", 0: "0", 1: "1", 2: "2", 77: "77", most - 1: "999999", most: "1000000", most + 1: "1000000", math.MaxInt: "1000000",
		} {
			runs(t, s, "", fuel, "spent "+steps)
		}
	}
	runs(t, "fun main(): int = 1", "", 0, "spent 0")
	runs(t, "fun main(): int = 1", "", 1, "1 after 1")
	// The greatest cost that any fuel suffices for, and one more.
	long := func(n int) []value.Value { return []value.Value{listOf(n)} }
	p := program(t, "fun main(l: list): int = len l")
	for _, fuel := range []int{most, most + 1, math.MaxInt} {
		is(t, "at the limit", told(machine.Run(p, long(most-2), fuel)), "999998 after 1000000")
		is(t, "beyond the limit", told(machine.Run(p, long(most-1), fuel)), "spent 1000000")
	}
	is(t, "below the limit", told(machine.Run(p, long(most-2), most-1)), "spent 999999")
}

// Refinements and qualifiers play no part.
func TestRefinements(t *testing.T) {
	s := "qualif Pos(v: int): v > 0 fun f(x: int{v > 9}): int{v > 99} = x fun main(x: int{v > 0}, l: list{len v = x}): int{hd l = v - 1} = f(x)"
	runs(t, s, "-1;[7]", plenty, "-1 after 3")
	runs(t, s, "0;[]", plenty, "0 after 3")
}

// main may stand anywhere, and be called like others.
func TestMainAnywhere(t *testing.T) {
	for _, s := range []string{
		"fun main(n: int): int = f(n) fun f(n: int): int = n + 1",
		"fun f(n: int): int = n + 1 fun main(n: int): int = f(n)",
		"fun g(): int = main(3) fun main(n: int): int = f(n) fun f(n: int): int = n + 1",
	} {
		runs(t, s, "6", plenty, "7 after 7")
	}
}
