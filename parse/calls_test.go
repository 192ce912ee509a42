package parse_test

// P0 and DOC.md's rules: each call ends, doesn't panic, has the same result again, and
// gives out memory of its own.

import (
	"math/rand"
	"strings"
	"testing"
	"unsafe"

	"litmus/parse"
	"litmus/tree"
)

// outcome returns all that both calls return for s.
func outcome(s string) string {
	p, err := parse.Parse(s)
	all := dumpProgram(p)
	if err != nil {
		all += problem(err)
	}
	e, err := parse.Expr(s)
	all += dump(e)
	if err != nil {
		all += problem(err)
	}
	return all
}

func TestAnySourceEnds(t *testing.T) {
	r := rand.New(rand.NewSource(1))
	for range 20000 {
		s := make([]byte, r.Intn(40))
		r.Read(s)
		outcome(string(s))
	}
	for b := range 256 {
		one := string([]byte{byte(b)})
		outcome(one)
		outcome(strings.Repeat(one, 20000))
		outcome(strings.Repeat(one, 100000))
	}
}

// A source may nest as deeply as it is long.
func TestDeepSourcesEnd(t *testing.T) {
	for _, head := range []string{"", "fun f(): int = ", "fun f(x: int{", "fun f(): int{", "qualif Q(v: int): "} {
		for _, s := range append(someTokens(), "f(", "f(1,", "1+(", "a::", "let x =", "let x = 1 in", "if 1 then", "if 1 then 2 else", "match x with [] ->", "assert 1;", "1 = (", "-(", "fun f(): int = ", "qualif Q(v: int): ", "fun f(") {
			n := (20000 - len(head)) / (len(s) + 1)
			outcome(head + strings.Repeat(s+" ", n))
		}
		outcome(head + strings.Repeat("(", 9000) + "1" + strings.Repeat(")", 9000))
	}
}

func TestSameResultAgain(t *testing.T) {
	samples(t, func(m maker, e tree.Expr) {
		s := tree.Text(e)
		is(t, s, outcome(s), outcome(s))
	})
	programs(t, func(m maker, p tree.Program) {
		for _, s := range []string{tree.Print(p), tree.Print(p) + ")", tree.Print(p)[len(tree.Print(p))/2:]} {
			is(t, s, outcome(s), outcome(s))
		}
	})
}

// parts calls f with e and all that is within it.
func parts(e *tree.Expr, f func(e *tree.Expr)) {
	f(e)
	for i := range e.Kids {
		parts(&e.Kids[i], f)
	}
}

// lists returns where the lists of p begin and end, up to their capacities.
func lists(p tree.Program) (all [][2]uintptr) {
	add := func(from unsafe.Pointer, n, size int) {
		if n > 0 {
			all = append(all, [2]uintptr{uintptr(from), uintptr(from) + uintptr(n*size)})
		}
	}
	body := func(e tree.Expr) {
		parts(&e, func(e *tree.Expr) {
			add(unsafe.Pointer(unsafe.SliceData(e.Kids)), cap(e.Kids), int(unsafe.Sizeof(*e)))
			add(unsafe.Pointer(unsafe.SliceData(e.Num.Abs)), cap(e.Num.Abs), 4)
		})
	}
	params := func(list []tree.Param) {
		add(unsafe.Pointer(unsafe.SliceData(list)), cap(list), int(unsafe.Sizeof(tree.Param{})))
		for _, p := range list {
			body(p.Ref)
		}
	}
	add(unsafe.Pointer(unsafe.SliceData(p.Quals)), cap(p.Quals), int(unsafe.Sizeof(tree.Qual{})))
	for _, q := range p.Quals {
		params(q.Params)
		body(q.Body)
	}
	add(unsafe.Pointer(unsafe.SliceData(p.Funs)), cap(p.Funs), int(unsafe.Sizeof(tree.Fun{})))
	for _, f := range p.Funs {
		params(f.Params)
		body(f.Result.Ref)
		body(f.Body)
	}
	return all
}

// No two lists share memory, in one result or in two.
func TestListsAreApart(t *testing.T) {
	programs(t, func(m maker, p tree.Program) {
		s := tree.Print(p)
		first, second := program(t, s), program(t, s)
		all := append(lists(first), lists(second)...)
		for i, a := range all {
			for _, b := range all[:i] {
				if a[0] < b[1] && b[0] < a[1] {
					t.Errorf("%q: two lists share memory", s)
					return
				}
			}
		}
	})
}

// A name that is kept doesn't keep its source.
func TestNamesAreCopies(t *testing.T) {
	s := strings.Clone("qualif Qual(v: int, param: int): 1 fun fun1(arg: int): int = match list1 with [] -> call(v) | head :: tail -> let local = 1 in 2")
	from := uintptr(unsafe.Pointer(unsafe.StringData(s)))
	p := program(t, s)
	apart := func(name string) {
		at := uintptr(unsafe.Pointer(unsafe.StringData(name)))
		if name != "" && at >= from && at < from+uintptr(len(s)) {
			t.Errorf("%q shares memory with the source", name)
		}
	}
	for _, q := range p.Quals {
		apart(q.Name)
		for _, param := range q.Params {
			apart(param.Name)
		}
	}
	for _, f := range p.Funs {
		apart(f.Name)
		apart(f.Params[0].Name)
		apart(f.Result.Name)
		parts(&f.Body, func(e *tree.Expr) {
			apart(e.Name)
			apart(e.Other)
		})
	}
}
