package value_test

import (
	"math/big"
	"math/rand"
	"reflect"
	"slices"
	"strings"
	"testing"

	"litmus/api"
	"litmus/nat"
	"litmus/value"
	"litmus/whole"
)

// Constructors, for short tests.

// neg returns the Int with these fields and Neg set, whatever its form.
func neg(limbs ...uint32) whole.Int { return whole.Int{Neg: true, Abs: limbs} }

// pos returns the Int with these fields and Neg not set, whatever its form.
func pos(limbs ...uint32) whole.Int { return whole.Int{Abs: limbs} }

// num returns the number with that text.
func num(t *testing.T, s string) whole.Int {
	t.Helper()
	n, ok := new(big.Int).SetString(s, 10)
	if !ok {
		t.Fatalf("%q isn't a number", s)
	}
	return fromBig(n)
}

// val returns the value with that text, made by its fields alone.
func val(t *testing.T, s string) value.Value {
	t.Helper()
	switch {
	case s == "true" || s == "false":
		return value.Value{Base: api.Bool, Bool: s == "true"}
	case s == "[]":
		return value.Value{Base: api.List}
	case strings.HasPrefix(s, "["):
		v := value.Value{Base: api.List}
		for text := range strings.SplitSeq(strings.Trim(s, "[]"), ", ") {
			v.List = append(v.List, num(t, text))
		}
		return v
	}
	return value.Value{Base: api.Int, Int: num(t, s)}
}

// vals returns the values with these texts, which are separated by semicolons.
func vals(t *testing.T, s string) []value.Value {
	t.Helper()
	var all []value.Value
	for text := range strings.SplitSeq(s, ";") {
		if text != "" {
			all = append(all, val(t, text))
		}
	}
	return all
}

// A maker makes random values.
type maker struct {
	*rand.Rand
}

// edgeLimbs are the limbs at which halves, bits and signs go wrong first.
var edgeLimbs = []uint32{0, 0, 1, 1, 2, 3, 0x7FFFFFFF, 0x80000000, 0xFFFFFFFF}

// number returns a number in any form: -0 and needless limbs are among them.
func (m maker) number() whole.Int {
	abs := make(nat.Nat, m.Intn(4))
	for i := range abs {
		abs[i] = edgeLimbs[m.Intn(len(edgeLimbs))]
		if m.Intn(3) == 0 {
			abs[i] = m.Uint32()
		}
	}
	return whole.Int{Neg: m.Intn(2) == 0, Abs: append(abs, make(nat.Nat, m.Intn(3))...)}
}

// numbers returns at most 5 numbers.
func (m maker) numbers() []whole.Int {
	all := make([]whole.Int, m.Intn(6))
	for i := range all {
		all[i] = m.number()
	}
	return all
}

// value returns a value whose other fields aren't empty, either.
func (m maker) value() value.Value {
	return value.Value{Base: api.Base(m.Intn(3)), Int: m.number(), Bool: m.Intn(2) == 0, List: m.numbers()}
}

// values returns at most 4 values.
func (m maker) values() []value.Value {
	all := make([]value.Value, m.Intn(5))
	for i := range all {
		all[i] = m.value()
	}
	return all
}

// samples calls f with many lists of values, always the same ones.
func samples(t *testing.T, f func(m maker, l []value.Value)) {
	t.Helper()
	m := maker{rand.New(rand.NewSource(1))}
	for range 10000 {
		f(m, m.values())
		if t.Failed() {
			return
		}
	}
}

// toBig returns a, whatever its form, by the definition of its fields alone.
func toBig(a whole.Int) *big.Int {
	n := new(big.Int)
	for i := len(a.Abs) - 1; i >= 0; i-- {
		n.Lsh(n, 32)
		n.Or(n, big.NewInt(int64(a.Abs[i])))
	}
	if a.Neg {
		n.Neg(n)
	}
	return n
}

// fromBig returns the canonical form of n.
func fromBig(n *big.Int) whole.Int {
	a := whole.Int{Neg: n.Sign() < 0}
	for rest := new(big.Int).Abs(n); rest.Sign() > 0; rest.Rsh(rest, 32) {
		a.Abs = append(a.Abs, uint32(new(big.Int).And(rest, big.NewInt(0xFFFFFFFF)).Uint64()))
	}
	return a
}

// textOf returns the text of v, by the chapter's rules alone.
func textOf(v value.Value) string {
	switch v.Base {
	case api.Int:
		return toBig(v.Int).String()
	case api.Bool:
		if v.Bool {
			return "true"
		}
		return "false"
	}
	var all []string
	for _, n := range v.List {
		all = append(all, toBig(n).String())
	}
	return "[" + strings.Join(all, ", ") + "]"
}

// textsOf returns the texts of all values.
func textsOf(l []value.Value) string {
	var all []string
	for _, v := range l {
		all = append(all, textOf(v))
	}
	return strings.Join(all, ";")
}

// cloned returns v in memory of its own, with all its fields as they are.
func cloned(v value.Value) value.Value {
	v.Int.Abs = slices.Clone(v.Int.Abs)
	v.List = slices.Clone(v.List)
	for i := range v.List {
		v.List[i].Abs = slices.Clone(v.List[i].Abs)
	}
	return v
}

// clonedAll returns the values in memory of their own.
func clonedAll(l []value.Value) []value.Value {
	l = slices.Clone(l)
	for i := range l {
		l[i] = cloned(l[i])
	}
	return l
}

// is fails unless got has exactly the fields of want.
func is(t *testing.T, what string, got, want any) {
	t.Helper()
	if !reflect.DeepEqual(got, want) {
		t.Errorf("%s: got %#v, want %#v", what, got, want)
	}
}

// isValue fails unless v is the value with that text: canonical, with its own field only.
func isValue(t *testing.T, what string, v value.Value, text string) {
	t.Helper()
	want := val(t, text)
	numbers := slices.EqualFunc(v.List, want.List, sameFields)
	if v.Base != want.Base || v.Bool != want.Bool || !sameFields(v.Int, want.Int) || !numbers {
		t.Errorf("%s: got %#v, want %s", what, v, text)
	}
}

// sameFields reports whether all fields of a and b are the same.
func sameFields(a, b whole.Int) bool {
	return a.Neg == b.Neg && slices.Equal(a.Abs, b.Abs)
}
