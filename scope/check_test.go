package scope_test

import (
	"errors"
	"reflect"
	"strconv"
	"testing"

	"litmus/api"
	"litmus/parse"
	"litmus/scope"
	"litmus/tree"
)

// program returns the program of s, which has to be one.
func program(t *testing.T, s string) tree.Program {
	t.Helper()
	p, err := parse.Parse(s)
	if err != nil {
		t.Fatalf("Parse(%q): %v", s, err)
	}
	return p
}

// expr returns the expression of s, which has to be one.
func expr(t *testing.T, s string) tree.Expr {
	t.Helper()
	e, err := parse.Expr(s)
	if err != nil {
		t.Fatalf("Expr(%q): %v", s, err)
	}
	return e
}

// params returns the Params of s, for instance x: int, l: list.
func params(t *testing.T, s string) []tree.Param {
	t.Helper()
	return program(t, "fun f("+s+"): int = 1").Funs[0].Params
}

// place returns a position as text.
func place(line, col int) string { return strconv.Itoa(line) + ":" + strconv.Itoa(col) }

// none stands for no fault.
const none = "no fault"

// fault returns a fault as text.
func fault(err api.Errno, line, col int) string { return err.Error() + " at " + place(line, col) }

// found returns a fault that was found as text.
func found(err error) string {
	if err == nil {
		return none
	}
	at, ok := err.(*api.At)
	if !ok || at == nil {
		return "an error without a position"
	}
	if no, ok := at.Err.(api.Errno); ok {
		return fault(no, at.Line, at.Col)
	}
	return "an error without a number"
}

// is fails unless got is want; what says of what.
func is[T any](t *testing.T, what string, got, want T) {
	t.Helper()
	if !reflect.DeepEqual(got, want) {
		t.Errorf("%s:\ngot  %v\nwant %v", what, got, want)
	}
}

// sound fails unless the program of s has no fault.
func sound(t *testing.T, s string) {
	t.Helper()
	is(t, s, found(scope.Check(program(t, s))), none)
}

// faulty fails unless this is the first fault of the program of s.
func faulty(t *testing.T, s string, err api.Errno, line, col int) {
	t.Helper()
	is(t, s, found(scope.Check(program(t, s))), fault(err, line, col))
}

// names and funs are what the expressions of the tests may name.
const (
	names = "x: int, y: int, b: bool, c: bool, l: list, m: list"
	funs  = `
fun zero(): int = 0
fun one(i: int): bool = true
fun two(p: bool, q: list): list = []
fun six(i: int, j: int, k: bool, n: bool, q: list, r: list): int = 0
`
)

// A letter stands for a base type: i, b and l.
const letters = "ibl"

// ofBase is a name of each base type.
var ofBase = [...]string{api.Int: "x", api.Bool: "b", api.List: "l"}

// letter returns the letter of b.
func letter(b api.Base) string { return letters[b : b+1] }

// asBody returns the letter of the type of s as a body, or its fault.
func asBody(t *testing.T, s string) string {
	t.Helper()
	b, err := scope.Base(expr(t, s), params(t, names), program(t, funs).Funs)
	if err == nil {
		return letter(b)
	}
	if b != 0 {
		t.Errorf("%q: the type %d beside a fault", s, b)
	}
	return found(err)
}

// asRefinement returns the letter of the type of s as a refinement, or its fault.
func asRefinement(t *testing.T, s string) string {
	t.Helper()
	const before = "fun main(" + names + "): int{("
	types := ""
	for b, name := range ofBase {
		err := scope.Check(program(t, before+s+") = "+name+"} = 0"+funs))
		var at *api.At
		switch {
		case err == nil:
			types += letters[b : b+1]
		case !errors.As(err, &at) || at.Line != 1:
			return found(err)
		case at.Col <= len(before)+len(s):
			at.Col -= len(before)
			return found(at)
		}
	}
	return types
}

// typed fails unless s has that type, both as a body and as a refinement.
func typed(t *testing.T, s, want string) {
	t.Helper()
	is(t, s+" as a body", asBody(t, s), want)
	is(t, s+" as a refinement", asRefinement(t, s), want)
}

// errors are wrapped as DOC.md says.
func TestErrorsAreWrapped(t *testing.T) {
	first := scope.Check(program(t, "fun main(x: int): int =\n  y"))
	_, second := scope.Base(expr(t, "\n  y"), nil, nil)
	for _, err := range []error{first, second} {
		var at *api.At
		if !errors.As(err, &at) || at.Line != 2 || at.Col != 3 {
			t.Errorf("errors.As: %v", err)
		}
		if !errors.Is(err, api.ErrName) || errors.Is(err, api.ErrType) {
			t.Errorf("errors.Is: %v", err)
		}
	}
}
