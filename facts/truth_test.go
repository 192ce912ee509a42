package facts_test

// P11.2: facts are true, whatever the names are bound to.

import (
	"testing"

	"litmus/facts"
	"litmus/logic"
	"litmus/nat"
	"litmus/value"
	"litmus/whole"
)

// hold fails unless all facts of f are true where names are bound as env says.
func hold(t *testing.T, f logic.Form, env []logic.Bind) {
	t.Helper()
	for _, fact := range facts.Of(f) {
		if !logic.Holds(fact, env) {
			t.Errorf("%s is false where %v", logic.Text(fact), env)
		}
	}
}

// numbers are small ones of both signs, and such that are at the limits of limbs and ints.
func numbers() []whole.Int {
	var all []whole.Int
	for i := range 13 {
		all = append(all, whole.Of(i-6))
	}
	for _, abs := range []nat.Nat{{0xFFFFFFFF}, {0, 1}, {0xFFFFFFFF, 0x7FFFFFFF}, {0, 0x80000000}, {0, 0, 1}, {5, 0, 0, 9}} {
		all = append(all, whole.Big(false, abs), whole.Big(true, abs))
	}
	return all
}

func TestFactsOfProductsAreTrue(t *testing.T) {
	for _, a := range numbers() {
		for _, b := range numbers() {
			env := []logic.Bind{{Name: "x", Value: value.OfInt(a)}, {Name: "y", Value: value.OfInt(b)}}
			hold(t, of(logic.Mul, x, y), env)
			hold(t, of(logic.Mul, of(logic.Mul, x, x), y), env)
		}
	}
}

func TestFactsOfQuotientsAreTrue(t *testing.T) {
	for _, a := range numbers() {
		for _, k := range numbers() {
			if whole.Sign(k) > 0 {
				q := logic.Form{Op: logic.Quo, Num: k, Kids: []logic.Form{x}}
				hold(t, of(logic.Add, q, logic.Form{Op: logic.Quo, Num: k, Kids: []logic.Form{q}}), []logic.Bind{{Name: "x", Value: value.OfInt(a)}})
			}
		}
	}
}

func TestFactsOfListsAreTrue(t *testing.T) {
	lists := []value.Value{value.OfList()}
	for i := 0; i < len(lists); i++ {
		if old := lists[i].List; len(old) < 3 {
			for _, n := range []int{-1, 0, 1} {
				lists = append(lists, value.OfList(append(old[:len(old):len(old)], whole.Of(n))...))
			}
		}
	}
	tail := of(logic.Tl, l)
	for _, v := range lists {
		for _, w := range lists {
			env := []logic.Bind{{Name: "x", Value: value.OfInt(whole.Of(len(w.List)))}, {Name: "l", Value: v}, {Name: "m", Value: w}}
			for _, f := range []logic.Form{l, tail, of(logic.Hd, l), of(logic.Hd, of(logic.Tl, tail)), of(logic.Cons, x, l), of(logic.Cons, of(logic.Hd, m), of(logic.Tl, m)), of(logic.Tl, of(logic.Cons, x, tail)), of(logic.Eq, of(logic.Tl, void), of(logic.Tl, m))} {
				hold(t, f, env)
			}
		}
	}
}

// Also where names are bound to nothing, or to values of other sorts.
func TestFactsOfRandomFormsAreTrue(t *testing.T) {
	found := 0
	samples(t, 6000, func(m maker, f logic.Form) {
		hold(t, f, nil)
		for range 5 {
			hold(t, f, m.env())
		}
		found += len(facts.Of(f))
	})
	if found < 50000 {
		t.Errorf("too few facts: %d", found)
	}
}
