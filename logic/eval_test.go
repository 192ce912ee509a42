package logic_test

// P10.1: the values of forms.

import (
	"testing"

	"litmus/api"
	"litmus/logic"
	"litmus/nat"
	"litmus/value"
	"litmus/whole"
)

// evaluates fails unless f, with names bound as env says, has the value with that text.
func evaluates(t *testing.T, f logic.Form, env, want string) {
	t.Helper()
	v := logic.Eval(f, binds(t, env))
	isValue(t, logic.Text(f)+" where "+env, v, want)
	is(t, "Base", v.Base, logic.Sort(f))
	is(t, "Holds of "+logic.Text(f)+" where "+env, logic.Holds(f, binds(t, env)), want == "true")
}

const (
	huge       = "340282366920938463463374607431768211456" // 2^128
	hugeAndOne = "340282366920938463463374607431768211457"
)

func TestValuesOfInts(t *testing.T) {
	for _, c := range []struct {
		f         logic.Form
		env, want string
	}{
		{num(0), "", "0"}, {num(-7), "", "-7"}, {x, "x=5", "5"}, {x, "x=-" + huge, "-" + huge},
		{of(logic.Add, x, y), "x=5;y=-7", "-2"}, {of(logic.Add, x, num(1)), "x=" + huge, hugeAndOne}, {of(logic.Add, x, x), "x=3", "6"},
		{scale(3, x), "x=-4", "-12"}, {scale(-1, x), "x=-4", "4"}, {scale(0, x), "x=-4", "0"}, {scale(-2, scale(-3, x)), "x=7", "42"},
		{of(logic.Mul, x, y), "x=-3;y=5", "-15"}, {of(logic.Mul, x, x), "x=18446744073709551616", huge}, {of(logic.Mul, x, y), "x=0;y=-1", "0"},
		{of(logic.Len, l), "l=[]", "0"}, {of(logic.Len, l), "l=[0, 0, 7]", "3"}, {of(logic.Len, of(logic.Cons, x, l)), "l=[0]", "2"},
		{of(logic.Hd, l), "l=[-5, 7]", "-5"}, {of(logic.Hd, l), "l=[]", "0"}, {of(logic.Hd, of(logic.Cons, x, l)), "x=4;l=[5]", "4"},
		{of(logic.Hd, of(logic.Tl, l)), "l=[-5, 7]", "7"}, {of(logic.Hd, of(logic.Tl, l)), "l=[-5]", "0"}, {of(logic.Hd, of(logic.Tl, of(logic.Tl, l))), "l=[]", "0"},
	} {
		evaluates(t, c.f, c.env, c.want)
	}
}

// Quotients are rounded down, of negative numbers, too.
func TestValuesOfQuotients(t *testing.T) {
	for _, c := range []struct {
		x    string
		n    int
		want string
	}{
		{"7", 2, "3"}, {"-7", 2, "-4"}, {"8", 2, "4"}, {"-8", 2, "-4"}, {"0", 5, "0"}, {"4", 5, "0"}, {"-1", 5, "-1"}, {"-5", 5, "-1"}, {"-6", 5, "-2"}, {"9", 1, "9"}, {"-9", 1, "-9"},
		{huge, 4294967296, "79228162514264337593543950336"}, {"-" + hugeAndOne, 4294967296, "-79228162514264337593543950337"},
	} {
		evaluates(t, quo(x, c.n), "x="+c.x, c.want)
	}
	evaluates(t, quo(quo(x, 2), 3), "x=-1", "-1")
	f := logic.Form{Op: logic.Quo, Num: whole.Big(false, nat.Nat{0, 1}), Kids: []logic.Form{x}}
	evaluates(t, f, "x=-1", "-1")
	evaluates(t, f, "x=4294967295", "0")
}

func TestValuesOfLists(t *testing.T) {
	for _, c := range []struct {
		f         logic.Form
		env, want string
	}{
		{void, "", "[]"}, {l, "l=[]", "[]"}, {l, "l=[1, -2]", "[1, -2]"},
		{of(logic.Cons, x, l), "x=-1;l=[5, 6]", "[-1, 5, 6]"}, {of(logic.Cons, x, void), "x=9", "[9]"}, {of(logic.Cons, num(1), of(logic.Cons, x, of(logic.Cons, num(3), l))), "x=2;l=[4, 5]", "[1, 2, 3, 4, 5]"},
		{of(logic.Tl, l), "l=[1, -2, 3]", "[-2, 3]"}, {of(logic.Tl, l), "l=[1]", "[]"}, {of(logic.Tl, l), "l=[]", "[]"}, {of(logic.Tl, void), "", "[]"}, {of(logic.Tl, of(logic.Tl, l)), "l=[1, 2, 3]", "[3]"},
		{of(logic.Tl, of(logic.Cons, x, l)), "x=1;l=[2, 3]", "[2, 3]"}, {of(logic.Cons, x, of(logic.Tl, l)), "x=1;l=[2, 3]", "[1, 3]"}, {of(logic.Cons, num(1), of(logic.Tl, of(logic.Cons, num(2), of(logic.Cons, num(3), l)))), "l=[4]", "[1, 3, 4]"},
		{of(logic.Cons, of(logic.Len, l), of(logic.Cons, of(logic.Hd, l), of(logic.Tl, l))), "l=[7, 8]", "[2, 7, 8]"},
	} {
		evaluates(t, c.f, c.env, c.want)
	}
}

func TestValuesOfComparisons(t *testing.T) {
	for _, c := range []struct {
		f         logic.Form
		env, want string
	}{
		{of(logic.Le, x, y), "x=1;y=2", "true"}, {of(logic.Le, x, y), "x=2;y=2", "true"}, {of(logic.Le, x, y), "x=3;y=2", "false"}, {of(logic.Le, x, y), "x=-" + hugeAndOne + ";y=-" + huge, "true"}, {of(logic.Le, x, y), "x=" + hugeAndOne + ";y=" + huge, "false"},
		{of(logic.Eq, x, y), "x=2;y=2", "true"}, {of(logic.Eq, x, y), "x=2;y=-2", "false"}, {of(logic.Eq, x, y), "x=" + huge + ";y=" + huge, "true"}, {of(logic.Eq, x, of(logic.Add, y, num(1))), "x=" + hugeAndOne + ";y=" + huge, "true"},
		{of(logic.Eq, l, m), "l=[1, 2];m=[1, 2]", "true"}, {of(logic.Eq, l, m), "l=[1, 2];m=[2, 1]", "false"}, {of(logic.Eq, l, m), "l=[1, 2];m=[1]", "false"}, {of(logic.Eq, l, m), "l=[];m=[0]", "false"}, {of(logic.Eq, l, void), "l=[]", "true"}, {of(logic.Eq, l, of(logic.Cons, x, m)), "x=1;l=[1, 2];m=[2]", "true"},
		{of(logic.Iff, b, c), "b=true;c=true", "true"}, {of(logic.Iff, b, c), "b=true;c=false", "false"}, {of(logic.Iff, b, c), "b=false;c=true", "false"}, {of(logic.Iff, b, c), "b=false;c=false", "true"},
	} {
		evaluates(t, c.f, c.env, c.want)
	}
}

func TestValuesOfConnectives(t *testing.T) {
	for _, c := range []struct {
		f    logic.Form
		want string // where b is true and c is false
	}{
		{yes, "true"}, {no, "false"}, {b, "true"}, {c, "false"}, {of(logic.Not, b), "false"}, {of(logic.Not, c), "true"}, {of(logic.Not, of(logic.Not, b)), "true"},
		{of(logic.And), "true"}, {of(logic.And, b), "true"}, {of(logic.And, c), "false"}, {of(logic.And, b, b, b), "true"}, {of(logic.And, b, b, c), "false"}, {of(logic.And, c, b, b), "false"}, {of(logic.And, c, c), "false"},
		{of(logic.Or), "false"}, {of(logic.Or, b), "true"}, {of(logic.Or, c), "false"}, {of(logic.Or, c, c, c), "false"}, {of(logic.Or, c, c, b), "true"}, {of(logic.Or, b, c, c), "true"}, {of(logic.Or, b, b), "true"},
		{of(logic.And, of(logic.Or, c, b), of(logic.Not, of(logic.And, b, c))), "true"}, {of(logic.Or, of(logic.And, c, b), of(logic.Not, of(logic.Or, b, c))), "false"},
	} {
		evaluates(t, c.f, "b=true;c=false", c.want)
	}
}

// Names that aren't bound, or not to a value of the right sort, have values, too.
func TestNamesWithoutValues(t *testing.T) {
	for _, c := range []struct {
		f         logic.Form
		env, want string
	}{
		{x, "", "0"}, {l, "", "[]"}, {b, "", "false"}, {x, "y=5", "0"}, {x, "X=5;xx=6;=7", "0"}, {iv(""), "=7", "7"}, {iv(""), "x=7", "0"},
		{iv("a"), "a=5", "5"}, {iv("a"), "a=true", "0"}, {iv("a"), "a=[1]", "0"},
		{bv("a"), "a=true", "true"}, {bv("a"), "a=5", "false"}, {bv("a"), "a=[1]", "false"},
		{lv("a"), "a=[1]", "[1]"}, {lv("a"), "a=5", "[]"}, {lv("a"), "a=true", "[]"},
		{of(logic.Not, bv("a")), "a=1", "true"}, {of(logic.Eq, iv("a"), of(logic.Len, lv("a"))), "a=[1]", "false"}, {of(logic.Eq, lv("a"), void), "a=true", "true"},
	} {
		evaluates(t, c.f, c.env, c.want)
	}
}

// The last binding counts, whatever its sort.
func TestNamesBoundTwice(t *testing.T) {
	for _, c := range []struct {
		f         logic.Form
		env, want string
	}{
		{x, "x=1;x=2", "2"}, {x, "x=1;y=3;x=2;y=4", "2"}, {x, "x=1;x=2;x=3", "3"}, {b, "b=true;b=false", "false"}, {l, "l=[1];l=[]", "[]"},
		{x, "x=1;x=true", "0"}, {b, "b=true;b=1", "false"}, {l, "l=[1];l=0", "[]"}, {x, "x=true;x=1", "1"}, {b, "b=1;b=true", "true"}, {l, "l=0;l=[1]", "[1]"},
	} {
		evaluates(t, c.f, c.env, c.want)
	}
}

// Of a value, only the field of its Base counts, and numbers may be in any form.
func TestBoundToOddValues(t *testing.T) {
	needless := func(neg bool, limbs ...uint32) whole.Int { return whole.Int{Neg: neg, Abs: append(limbs, 0, 0)} }
	all := value.Value{Int: needless(true, 5), Bool: true, List: []whole.Int{needless(true), needless(false, 9)}}
	for base, want := range map[api.Base][3]string{
		api.Int: {"-5", "false", "[]"}, api.Bool: {"0", "true", "[]"}, api.List: {"0", "false", "[0, 9]"},
		-1: {"0", "false", "[]"}, 3: {"0", "false", "[]"},
	} {
		all.Base = base
		env := []logic.Bind{{Name: "a", Value: all}}
		for i, f := range []logic.Form{iv("a"), bv("a"), lv("a")} {
			isValue(t, logic.Text(f), logic.Eval(f, env), want[i])
		}
	}
	env := []logic.Bind{{Name: "x", Value: value.Value{Int: needless(true)}}, {Name: "l", Value: value.Value{Base: api.List, List: []whole.Int{needless(true)}}}}
	for _, f := range []logic.Form{of(logic.Eq, x, num(0)), of(logic.Le, num(0), x), of(logic.Eq, l, of(logic.Cons, num(0), void)), of(logic.Eq, of(logic.Hd, l), scale(3, x))} {
		is(t, logic.Text(f), logic.Holds(f, env), true)
	}
	isValue(t, "Hd", logic.Eval(of(logic.Hd, l), env), "0")
	isValue(t, "Cons", logic.Eval(of(logic.Cons, x, l), env), "[0, 0]")
}

// No int and no list holds.
func TestOnlyBoolsHold(t *testing.T) {
	for _, f := range []logic.Form{num(1), x, l, void, of(logic.Hd, l)} {
		is(t, logic.Text(f), logic.Holds(f, binds(t, "x=1;l=[1]")), false)
	}
	odd := value.Value{Base: api.Int, Bool: true}
	is(t, "an int", logic.Holds(x, []logic.Bind{{Name: "x", Value: odd}}), false)
	is(t, "a bool", logic.Holds(b, []logic.Bind{{Name: "b", Value: odd}}), false)
}

func TestRandomForms(t *testing.T) {
	for _, names := range []string{"", "x y z"} {
		counts := map[string]int{}
		samples(t, 20000, names, func(m *maker, f logic.Form) {
			env := m.env()
			want := shown(meaning(f, env))
			v := logic.Eval(f, env)
			isValue(t, "Eval", v, want)
			is(t, "Base", v.Base, logic.Sort(f))
			is(t, "Holds", logic.Holds(f, env), want == "true")
			counts[want]++
		})
		if counts["true"] < 1000 || counts["false"] < 1000 || len(counts) < 500 {
			t.Errorf("too few different values: %d, %d of them true", len(counts), counts["true"])
		}
	}
}
