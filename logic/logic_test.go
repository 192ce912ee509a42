package logic_test

// P10.1: sorts, valid forms, sizes.

import (
	"math"
	"testing"

	"litmus/logic"
	"litmus/nat"
	"litmus/whole"
)

func TestOpsAreInOrder(t *testing.T) {
	for i, r := range rules {
		is(t, "Op", r.op, logic.Op(i))
	}
	is(t, "the number of Ops", int(logic.Iff)+1, len(rules))
}

// valid returns a valid form of each Op, and of an Eq for each sort.
func valid() []logic.Form {
	return []logic.Form{
		num(7), num(-7), num(0), x, of(logic.Add, x, y), scale(-2, x), scale(0, x), of(logic.Mul, x, y), quo(x, 1), quo(x, 9), of(logic.Len, l), of(logic.Hd, l),
		l, void, of(logic.Cons, x, l), of(logic.Tl, l),
		yes, no, b, of(logic.Le, x, y), of(logic.Eq, x, y), of(logic.Eq, l, m), of(logic.Not, b), of(logic.And), of(logic.And, b), of(logic.And, b, c, yes), of(logic.Or), of(logic.Or, b), of(logic.Or, b, c, no), of(logic.Iff, b, c),
	}
}

func TestValidForms(t *testing.T) {
	for _, f := range valid() {
		is(t, logic.Text(f), logic.Right(f), true)
		is(t, "Sort of "+logic.Text(f), letter(logic.Sort(f)), rules[f.Op].sort)
	}
	samples(t, 3000, "", func(m *maker, f logic.Form) {
		is(t, "Right", logic.Right(f), true)
		is(t, "Sort", letter(logic.Sort(f)), rules[f.Op].sort)
	})
}

// Each Op, with up to 4 Kids of each sort.
func TestSortsOfKids(t *testing.T) {
	lists := []string{""}
	for i := 0; i < len(lists); i++ {
		if len(lists[i]) < 4 {
			lists = append(lists, lists[i]+"i", lists[i]+"b", lists[i]+"l")
		}
	}
	for _, r := range rules {
		for _, sorts := range lists {
			f := logic.Form{Op: r.op, Num: whole.Of(1), Name: "x"}
			for i := range sorts {
				f.Kids = append(f.Kids, ofSort[sorts[i]])
			}
			if got := logic.Right(f); got != r.allowed(sorts) {
				t.Errorf("%s with Kids of %q: got %v", logic.Text(f), sorts, got)
			}
		}
	}
}

func TestOpsThatDontExist(t *testing.T) {
	for _, op := range []logic.Op{-1, logic.Iff + 1, 100, 256, math.MinInt, math.MaxInt} {
		for _, kids := range [][]logic.Form{nil, {x}, {b}, {l}, {x, y}, {b, c}} {
			f := of(op, kids...)
			is(t, "Right", logic.Right(f), false)
			is(t, "Right of what contains it", logic.Right(of(logic.Le, x, f)), false)
			is(t, "Right of what contains it", logic.Right(of(logic.Not, f)), false)
		}
	}
}

// Wherever there is one, a Num that isn't canonical counts.
func TestNumsInCanonicalForm(t *testing.T) {
	for _, n := range []whole.Int{{Neg: true}, {Neg: true, Abs: nat.Nat{}}, {Abs: nat.Nat{0}}, {Neg: true, Abs: nat.Nat{0}}, {Abs: nat.Nat{5, 0}}, {Neg: true, Abs: nat.Nat{5, 0, 0}}} {
		for _, f := range valid() {
			f.Num = n
			is(t, logic.Text(f), logic.Right(f), false)
			if logic.Sort(f) == 0 {
				is(t, "Right of what contains it", logic.Right(of(logic.Le, y, f)), false)
			}
		}
	}
	for _, n := range []whole.Int{{}, {Abs: nat.Nat{}}, {Abs: nat.Nat{0, 1}}, {Neg: true, Abs: nat.Nat{1}}, {Neg: true, Abs: nat.Nat{0, 0, 9}}} {
		is(t, "Num", logic.Right(logic.Form{Op: logic.Num, Num: n}), true)
		is(t, "Scale", logic.Right(logic.Form{Op: logic.Scale, Num: n, Kids: []logic.Form{x}}), true)
	}
}

func TestDivisors(t *testing.T) {
	for _, c := range []struct {
		n    whole.Int
		want bool
	}{
		{whole.Int{}, false}, {whole.Of(-1), false}, {whole.Of(math.MinInt), false}, {whole.Big(true, nat.Nat{0, 0, 1}), false}, {whole.Int{Abs: nat.Nat{0, 0}}, false},
		{whole.Of(1), true}, {whole.Of(2), true}, {whole.Of(math.MaxInt), true}, {whole.Big(false, nat.Nat{0, 0, 1}), true}, {whole.Int{Abs: nat.Nat{1, 0}}, false},
	} {
		f := logic.Form{Op: logic.Quo, Num: c.n, Kids: []logic.Form{x}}
		is(t, whole.Text(c.n), logic.Right(f), c.want)
		is(t, "within another form: "+whole.Text(c.n), logic.Right(of(logic.Not, of(logic.Eq, f, f))), c.want)
	}
}

// Any Name may be one; the chapter says nothing about those that an Op doesn't use.
func TestNamesOfValidForms(t *testing.T) {
	for _, name := range []string{"", "x", "X'1", "a b", "\"", "\xff", "\x00", "é"} {
		for _, f := range valid() {
			f.Name = name
			is(t, logic.Text(f), logic.Right(f), true)
		}
	}
}

// A form is valid only if all parts of it are.
func TestBrokenParts(t *testing.T) {
	broken := []func(f *logic.Form){
		func(f *logic.Form) { f.Op = -1 },
		func(f *logic.Form) { f.Op = logic.Iff + 1 },
		func(f *logic.Form) { f.Num = whole.Int{Neg: true} },
		func(f *logic.Form) { f.Num = whole.Int{Abs: nat.Nat{1, 0}} },
		func(f *logic.Form) { *f = logic.Form{Op: logic.Quo, Kids: []logic.Form{num(1)}} },
		func(f *logic.Form) { *f = of(logic.Not) },
		func(f *logic.Form) { *f = of(logic.Not, b, b) },
		func(f *logic.Form) { *f = of(logic.Tl) },
		func(f *logic.Form) { *f = of(logic.Cons, l, x) },
		func(f *logic.Form) { *f = of(logic.And, b, x) },
		func(f *logic.Form) { *f = of(logic.Or, l) },
		func(f *logic.Form) { *f = of(logic.Eq, b, b) },
		func(f *logic.Form) { f.Kids = append(f.Kids, x, b) },
	}
	samples(t, 3000, "", func(m *maker, f logic.Form) {
		f = cloned(f)
		pick(m, broken...)(pick(m, parts(&f)...))
		is(t, "Right", logic.Right(f), false)
	})
}

func TestSizes(t *testing.T) {
	for _, c := range []struct {
		f    logic.Form
		want int
	}{
		{x, 1}, {void, 1}, {yes, 1}, {of(logic.And), 1}, {of(logic.Not, b), 2}, {scale(5, x), 2}, {of(logic.Add, x, x), 3}, {of(logic.Le, of(logic.Add, x, num(1)), num(3)), 5}, {of(logic.And, b, b, of(logic.Or, b, c), b), 7}, {of(logic.Len, of(logic.Tl, of(logic.Tl, l))), 4},
	} {
		is(t, logic.Text(c.f), logic.Size(c.f), c.want)
	}
	samples(t, 2000, "", func(m *maker, f logic.Form) { is(t, "Size", logic.Size(f), len(parts(&f))) })
}
