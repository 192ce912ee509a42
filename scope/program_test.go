package scope_test

// P7.1: the faults of programs, and their order.

import (
	"reflect"
	"testing"

	"litmus/api"
	"litmus/scope"
	"litmus/tree"
)

// aMain is a main without faults, on a line of its own.
const aMain = "\nfun main(): int = 1"

// The chapter's and DOC.md's examples.
func TestExamples(t *testing.T) {
	faulty(t, "fun main(x: int): int = y", api.ErrName, 1, 25)
	faulty(t, "fun main(x: int): int = x\nfun f(): int = 1\n  fun f(): int = 1", api.ErrName, 3, 7)
	sound(t, "fun main(x: int): int = assert x <> 3; x")
}

func TestSoundPrograms(t *testing.T) {
	for _, s := range []string{
		aMain,
		"fun main(x: int{v > 0}, y: int{v > x}): int{v > x && v > y} = x + y",
		"fun main(main: int): int = main + 1",
		"fun main(x: int): int = if x < 1 then 0 else main(x - 1)",
		"qualif Q(v: int, x: int): x <= v\nqualif main(v: list, l: list, m: list): len v = len l + len m" + aMain,
		"fun append(l: list, m: list): list{len v = len l + len m} = match l with [] -> m | h :: t -> h :: append(t, m)" + aMain,
		"fun f(x: int): bool = x < 1 fun g(x: bool): list = [] fun main(x: int): list = let y = f(x) in g(y)",
		"fun main(l: list{len v > 0 && hd v = 3}): list{v = tl l} = match l with [] -> [] | h :: t -> t",
	} {
		sound(t, s)
	}
}

func TestQuals(t *testing.T) {
	for _, s := range []string{
		"qualif Q(v: int): v > 0", "qualif Q(v: bool): v", "qualif Q(v: list): hd tl v = len v", "qualif Q(v: int): true",
		"qualif Q(v: int, x: int, y: bool, l: list): y && x :: l = l", "qualif Q(v: int): true qualif R(v: int): true qualif q(v: int): true",
		"qualif Q(v: int, Q: int): Q < v",
	} {
		sound(t, s+aMain)
	}
	faulty(t, "qualif Q(v: int): true qualif Q(v: int): true"+aMain, api.ErrName, 1, 31)
	faulty(t, "qualif Q(v: int): true qualif R(v: int): true qualif Q(v: int): true"+aMain, api.ErrName, 1, 54)
	faulty(t, "qualif Q(v: int): true"+aMain+" qualif Q(v: int): true", api.ErrName, 2, 28)
	faulty(t, "qualif Q(v: int, x: int, x: int): true"+aMain, api.ErrName, 1, 26)
	faulty(t, "qualif Q(v: int, x: int, y: int, x: bool): true"+aMain, api.ErrName, 1, 34)
	faulty(t, "qualif Q(v: int): v"+aMain, api.ErrType, 1, 19)
	faulty(t, "qualif Q(v: list): v"+aMain, api.ErrType, 1, 20)
	faulty(t, "qualif Q(v: int): v + 1"+aMain, api.ErrType, 1, 21)
	faulty(t, "qualif Q(v: int): x"+aMain, api.ErrName, 1, 19)
	faulty(t, "qualif Q(v: int): main() = v"+aMain, api.ErrForm, 1, 19)
	faulty(t, "qualif Q(v: int): if true then true else true"+aMain, api.ErrForm, 1, 19)
	// The names of one aren't in scope in another one.
	faulty(t, "qualif Q(v: int, x: int): x < v qualif R(v: int): x < v"+aMain, api.ErrName, 1, 51)
	sound(t, "qualif Q(v: int, x: int): x < v qualif R(v: int, x: bool): x"+aMain)
	faulty(t, "qualif Q(v: int, x: int): x < v fun main(): int = x", api.ErrName, 1, 51)
	faulty(t, "qualif Q(v: int, x: int): x < v fun main(): int{x < v} = 1", api.ErrName, 1, 49)
}

func TestFuns(t *testing.T) {
	faulty(t, "fun main(): int = 1 fun main(): int = 1", api.ErrName, 1, 25)
	faulty(t, "fun main(): int = 1 fun f(): int = 1 fun g(): int = 1 fun f(): bool = 1", api.ErrName, 1, 59)
	faulty(t, "fun f(): int = 1 fun f(): int = 1 fun f(): int = 1", api.ErrName, 1, 22)
	sound(t, "fun f(): int = 1 fun F(): int = 1 fun ff(): int = 1"+aMain)
	faulty(t, "", api.ErrNone, 1, 1)
	faulty(t, "\n\n fun f(): int = 1", api.ErrNone, 1, 1)
	faulty(t, "\n\n fun Main(): int = 1 fun main1(): int = 1", api.ErrNone, 1, 1)
	faulty(t, "qualif main(v: int): true", api.ErrNone, 1, 1)
	faulty(t, "fun f(main: int): int = main", api.ErrNone, 1, 1)
}

// Of each function the result's type is that of the body.
func TestBodies(t *testing.T) {
	for b, value := range ofBase {
		for r, result := range []string{"int", "bool", "list"} {
			for _, s := range []string{"fun main(x: int, b: bool, l: list): " + result + " = ", "fun main(): int = 1 fun f(x: int, b: bool, l: list): " + result + "{true} = "} {
				if b == r {
					sound(t, s+value)
				} else {
					faulty(t, s+value, api.ErrType, 1, len(s)+1)
				}
			}
		}
	}
	faulty(t, "fun main(x: int): bool = x + x", api.ErrType, 1, 28)
	faulty(t, "fun main(x: int): int = let y = x in x = y", api.ErrType, 1, 25)
	faulty(t, "fun main(x: int): int = v", api.ErrName, 1, 25)
	faulty(t, "fun main(x: int{v > 0}): int{v > 0} = v", api.ErrName, 1, 39)
	faulty(t, "fun main(x: int): int = let x = 1 in x", api.ErrName, 1, 25)
	faulty(t, "fun main(l: list): int = hd l", api.ErrForm, 1, 26)
	faulty(t, "fun f(x: int): int = x fun main(): int = x", api.ErrName, 1, 42)
	faulty(t, "fun f(x: int): int = let y = x in y fun main(x: bool): int = y", api.ErrName, 1, 62)
	sound(t, "fun f(x: int): int = let y = x in y fun main(x: bool, y: list): bool = x && y = []")
}

func TestParams(t *testing.T) {
	faulty(t, "fun main(x: int, x: int): int = 1", api.ErrName, 1, 18)
	faulty(t, "fun main(x: int, y: int, x: bool, y: int): int = 1", api.ErrName, 1, 26)
	faulty(t, "fun main(): int = 1 fun f(a: list, a: list): int = 1", api.ErrName, 1, 36)
	sound(t, "fun main(x: int): int = x fun f(x: bool): bool = x fun g(f: list, g: int): list = g :: f")
}

// Refinements may name v, of the parameter's base, and earlier parameters.
func TestRefinements(t *testing.T) {
	for _, s := range []string{
		"fun main(x: int{v > 0}): int = x", "fun main(b: bool{v}): bool{v || b} = b", "fun main(l: list{len v = 0}): list{v = l} = l",
		"fun main(x: int, b: bool, l: list{b && v = x :: tl v}): int = 1", "fun main(x: int{v > 0}, y: int{v > x}, z: int{v > x + y}): int{v > x + y + z} = 1",
		"fun main(x: int{true}): int{false} = 1", "fun main(x: bool{v = (v = v)}): int = 1",
	} {
		sound(t, s)
	}
	faulty(t, "fun main(x: int{x > 0}): int = x", api.ErrName, 1, 17)
	faulty(t, "fun main(x: int{v > y}, y: int): int = x", api.ErrName, 1, 21)
	faulty(t, "fun main(x: int, y: int{v > y}): int = x", api.ErrName, 1, 29)
	faulty(t, "fun main(x: int, y: int{v > z}, z: int): int = x", api.ErrName, 1, 29)
	faulty(t, "fun main(x: int): int{v = main} = x", api.ErrName, 1, 27)
	faulty(t, "fun main(x: int): int{v > y} = let y = x in y", api.ErrName, 1, 27)
	faulty(t, "fun f(x: int): int = x fun main(y: int{v > x}): int = y", api.ErrName, 1, 44)
	faulty(t, "fun main(x: int{v}): int = x", api.ErrType, 1, 17)
	faulty(t, "fun main(x: list{v}): int = 1", api.ErrType, 1, 18)
	faulty(t, "fun main(x: int{v + 1}): int = x", api.ErrType, 1, 19)
	faulty(t, "fun main(x: int, b: bool{v < x}): int = x", api.ErrType, 1, 28)
	faulty(t, "fun main(x: int): int{v} = x", api.ErrType, 1, 23)
	faulty(t, "fun main(x: bool): int{x = v} = 1", api.ErrType, 1, 26)
	faulty(t, "fun main(x: int): list{len v} = []", api.ErrType, 1, 24)
	faulty(t, "fun main(x: int{main(v) = 1}): int = x", api.ErrForm, 1, 17)
	faulty(t, "fun main(x: int): int{main(v) = 1} = x", api.ErrForm, 1, 23)
	faulty(t, "fun main(x: int{assert true; true}): int = x", api.ErrForm, 1, 17)
	faulty(t, "fun main(x: int): int{let y = v in true} = x", api.ErrForm, 1, 23)
	// v isn't in scope behind them.
	faulty(t, "fun main(x: int{v > 0}): int{v > 0} = x + v", api.ErrName, 1, 43)
	// What a refinement may name, and what a body may do, is so again behind it.
	sound(t, "fun main(x: int{v > 0}, y: int): int{v > y} = let z = main(x, y) in if z > 0 then x else y")
	faulty(t, "fun main(l: list{hd v = 1}): int{v = hd l} = hd l", api.ErrForm, 1, 46)
}

// A Ref that isn't Known isn't checked.
func TestUnknownRefs(t *testing.T) {
	p := program(t, "fun main(x: int{v}): int{v} = x")
	p.Funs[0].Params[0].Known = false
	p.Funs[0].Result.Known = false
	is(t, "not Known", found(scope.Check(p)), none)
	q := program(t, "qualif Q(v: int, x: int): true"+aMain)
	q.Quals[0].Params[1].Ref = expr(t, "z")
	is(t, "not Known", found(scope.Check(q)), none)
}

// All faults of a program at once; the one that is found is then mended.
func TestOrderOfFaults(t *testing.T) {
	const (
		first  = "qualif A(v: int, x: int, x: int): z\n"
		second = "qualif A(v: int): v\n"
		third  = "fun f(x: int{z}, x: int{v}, y: int{v}): int{z} = b\n"
		fourth = "fun f(x: int, x: bool): int = x\n"
	)
	steps := []struct {
		lines     [4]string
		err       api.Errno
		line, col int
	}{
		{[4]string{first, second, third, fourth}, api.ErrName, 1, 26},
		{[4]string{"qualif A(v: int, x: int, y: int): z\n", second, third, fourth}, api.ErrName, 1, 35},
		{[4]string{"qualif A(v: int, x: int, y: int): x\n", second, third, fourth}, api.ErrType, 1, 35},
		{[4]string{"qualif A(v: int): true\n", second, third, fourth}, api.ErrName, 2, 8},
		{[4]string{"qualif A(v: int): true\n", "qualif B(v: int): v\n", third, fourth}, api.ErrType, 2, 19},
		{[4]string{"\n", "\n", third, fourth}, api.ErrName, 4, 5},
		{[4]string{"\n", "\n", third, "fun g(x: int, x: bool): int = x\n"}, api.ErrNone, 1, 1},
		{[4]string{"\n", "\n", third, "fun main(x: int, x: bool): int = x\n"}, api.ErrName, 3, 14},
		{[4]string{"\n", "\n", "fun f(x: int{v}, x: int{v}, y: int{v}): int{z} = b\n", "fun main(x: int, x: bool): int = x\n"}, api.ErrType, 3, 14},
		{[4]string{"\n", "\n", "fun f(x: int{true}, x: int{v}, y: int{v}): int{z} = b\n", "fun main(x: int, x: bool): int = x\n"}, api.ErrName, 3, 21},
		{[4]string{"\n", "\n", "fun f(x: int{true}, w: int{v}, y: int{z}): int{z} = b\n", "fun main(x: int, x: bool): int = x\n"}, api.ErrType, 3, 28},
		{[4]string{"\n", "\n", "fun f(x: int, w: int, y: int{z}): int{z} = b\n", "fun main(x: int, x: bool): int = x\n"}, api.ErrName, 3, 30},
		{[4]string{"\n", "\n", "fun f(x: int, w: int, y: int): int{z} = b\n", "fun main(x: int, x: bool): int = x\n"}, api.ErrName, 3, 36},
		{[4]string{"\n", "\n", "fun f(x: int, w: int, y: int): int{v} = b\n", "fun main(x: int, x: bool): int = x\n"}, api.ErrType, 3, 36},
		{[4]string{"\n", "\n", "fun f(x: int, w: int, y: int): int = b\n", "fun main(x: int, x: bool): int = x\n"}, api.ErrName, 3, 38},
		{[4]string{"\n", "\n", "fun f(x: int, w: int, y: int): int = []\n", "fun main(x: int, x: bool): int = x\n"}, api.ErrType, 3, 38},
		{[4]string{"\n", "\n", "fun f(x: int, w: int, y: int): int = y\n", "fun main(x: int, x: bool): int = x\n"}, api.ErrName, 4, 18},
		{[4]string{"\n", "\n", "fun f(x: int, w: int, y: int): int = y\n", "fun main(x: int, y: bool): int = y\n"}, api.ErrType, 4, 34},
	}
	for _, step := range steps {
		s := ""
		for _, line := range step.lines {
			s += line
		}
		faulty(t, s, step.err, step.line, step.col)
	}
}

// Quals come before Funs, wherever they are in the source.
func TestQualsComeFirst(t *testing.T) {
	faulty(t, "fun main(): int = z\nqualif Q(v: int): v", api.ErrType, 2, 19)
	faulty(t, "fun f(): int = 1\nfun f(): int = 1\nqualif Q(v: int): v", api.ErrType, 3, 19)
	faulty(t, "fun f(): int = 1\nqualif Q(v: int, v1: int, v1: int): true", api.ErrName, 2, 27)
	faulty(t, "fun main(): int = z\nfun f(): int = 1\nfun f(): int = 1", api.ErrName, 3, 5)
	faulty(t, "fun f(): int = z", api.ErrNone, 1, 1)
}

// Funs are checked in their order, not in that of their calls.
func TestFunsComeInOrder(t *testing.T) {
	faulty(t, "fun f(): int = g()\nfun main(): int = z\nfun g(): int = y", api.ErrName, 2, 19)
	faulty(t, "fun main(): int = g()\nfun g(): int = y\nfun f(): int = z", api.ErrName, 2, 16)
}

func TestMain(t *testing.T) {
	for _, s := range []string{"", "fun f(): int = 1", "fun Main(): int = 1 fun main1(): int = 1", "qualif main(v: int): true", "fun f(main: int): int = let main = 1 in main"} {
		f, ok := scope.Main(program(t, s))
		if ok || !reflect.DeepEqual(f, tree.Fun{}) {
			t.Errorf("%q: Main returns %v, %v", s, f, ok)
		}
	}
	for i, s := range []string{
		"fun main(x: int{v > 0}, l: list): bool{v} = true",
		"fun f(): int = 1 fun main(): list = z",
		"fun f(): int = 1 fun g(): int = 1 fun main(x: int, x: int): int = 1 fun h(): int = 1",
	} {
		p := program(t, s)
		f, ok := scope.Main(p)
		is(t, s, ok, true)
		is(t, s, f, p.Funs[i])
	}
}
