package parse_test

import (
	"reflect"
	"strings"
	"testing"

	"litmus/api"
	"litmus/parse"
	"litmus/tree"
)

// expr returns the expression of s, which has no error.
func expr(t *testing.T, s string) tree.Expr {
	t.Helper()
	e, err := parse.Expr(s)
	if err != nil {
		t.Fatalf("Expr(%q): %v", s, problem(err))
	}
	if !tree.Right(e) {
		t.Errorf("Expr(%q): %v isn't valid", s, e)
	}
	return e
}

// program returns the program of s, which has no error.
func program(t *testing.T, s string) tree.Program {
	t.Helper()
	p, err := parse.Parse(s)
	if err != nil {
		t.Fatalf("Parse(%q): %v", s, problem(err))
	}
	return p
}

// problem returns an error with its position.
func problem(err error) string {
	if at, ok := err.(*api.At); ok && at.Err != nil {
		return at.Err.Error() + " at " + at.Error()
	}
	return "an error without a position: " + err.Error()
}

// is fails unless got is want; what says of what.
func is(t *testing.T, what, got, want string) {
	t.Helper()
	if got != want {
		t.Errorf("%q:\ngot  %s\nwant %s", what, got, want)
	}
}

// reads fails unless all that is in the expression of s is as dumped.
func reads(t *testing.T, s, want string) {
	t.Helper()
	is(t, s, dump(expr(t, s)), want)
}

// shapes is reads without positions.
func shapes(t *testing.T, s, want string) {
	t.Helper()
	is(t, s, shape(expr(t, s)), want)
}

// programReads fails unless all that is in the program of s is as dumped, line by line.
func programReads(t *testing.T, s string, want ...string) {
	t.Helper()
	is(t, s, dumpProgram(program(t, s)), strings.Join(append(want, ""), "\n"))
}

// failed fails unless err is this error, at this position.
func failed(t *testing.T, s string, err error, want api.Errno, line, col int) {
	t.Helper()
	if err == nil {
		t.Errorf("%q: no error, want %v at %s", s, want, place(line, col))
		return
	}
	is(t, s, problem(err), want.Error()+" at "+place(line, col))
}

// exprFails fails unless Expr(s) is this error, and nothing beside it.
func exprFails(t *testing.T, s string, want api.Errno, line, col int) {
	t.Helper()
	e, err := parse.Expr(s)
	failed(t, s, err, want, line, col)
	if !reflect.DeepEqual(e, tree.Expr{}) {
		t.Errorf("Expr(%q): %v beside an error", s, e)
	}
}

// programFails is exprFails for Parse.
func programFails(t *testing.T, s string, want api.Errno, line, col int) {
	t.Helper()
	p, err := parse.Parse(s)
	failed(t, s, err, want, line, col)
	if !reflect.DeepEqual(p, tree.Program{}) {
		t.Errorf("Parse(%q): %v beside an error", s, p)
	}
}
