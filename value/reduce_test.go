package value_test

// P8.1: Reduce. P8.2: each step decreases the Size.

import (
	"math/big"
	"slices"
	"strings"
	"testing"

	"litmus/api"
	"litmus/value"
	"litmus/whole"
)

// reduced returns the texts of Reduce's lists, and fails unless they are canonical.
func reduced(t *testing.T, l []value.Value) []string {
	t.Helper()
	var all []string
	for _, step := range value.Reduce(l) {
		for _, v := range step {
			isValue(t, "a value of Reduce", v, textOf(v))
		}
		all = append(all, textsOf(step))
	}
	return all
}

func TestReduce(t *testing.T) {
	for _, c := range []struct {
		values string
		want   []string
	}{
		{"", nil},
		{"0", nil},
		{"true", nil},
		{"false", nil},
		{"[]", nil},
		{"0;true;[];false;0", nil},
		// The chapter's example.
		{"3", []string{"0", "1"}},
		// The half of 1 isn't a step of its own.
		{"1", []string{"0"}},
		{"-1", []string{"0"}},
		{"2", []string{"0", "1"}},
		// Halves are rounded toward 0.
		{"-2", []string{"0", "-1"}},
		{"-3", []string{"0", "-1"}},
		{"300", []string{"0", "150"}},
		{"-18446744073709551617", []string{"0", "-9223372036854775808"}},
		{"[0]", []string{"[]"}},
		{"[1]", []string{"[]", "[0]"}},
		{"[5]", []string{"[]", "[0]", "[2]"}},
		{"[-7]", []string{"[]", "[0]", "[-3]"}},
		// Also equal numbers have a step each.
		{"[0, 0]", []string{"[0]", "[0]"}},
		{"[1, 1]", []string{"[1]", "[1]", "[0, 1]", "[1, 0]"}},
		{"[1, 0, 2]", []string{"[0, 2]", "[1, 2]", "[1, 0]", "[0, 0, 2]", "[1, 0, 0]", "[1, 0, 1]"}},
		{"[9, -4]", []string{"[-4]", "[9]", "[0, -4]", "[4, -4]", "[9, 0]", "[9, -2]"}},
		{"3;5", []string{"0;5", "1;5", "3;0", "3;2"}},
		{"1;0;1", []string{"0;0;1", "1;0;0"}},
		{"true;1;false", []string{"true;0;false"}},
		{"[1];[2]", []string{"[];[2]", "[0];[2]", "[1];[]", "[1];[0]", "[1];[1]"}},
		{"-4;true;[5, -1]", []string{
			"0;true;[5, -1]", "-2;true;[5, -1]", "-4;true;[-1]", "-4;true;[5]",
			"-4;true;[0, -1]", "-4;true;[2, -1]", "-4;true;[5, 0]",
		}},
	} {
		is(t, "Reduce of "+c.values, reduced(t, vals(t, c.values)), c.want)
	}
}

// Forms that aren't canonical don't add steps, and the other fields are ignored.
func TestReduceOfAnyForm(t *testing.T) {
	for _, c := range []struct {
		v    value.Value
		want []string
	}{
		{value.Value{Base: api.Int, Int: neg(0, 0), List: []whole.Int{pos(1)}}, nil},
		{value.Value{Base: api.Int, Int: neg(1, 0)}, []string{"0"}},
		{value.Value{Base: api.Int, Int: neg(3, 0), Bool: true}, []string{"0", "-1"}},
		{value.Value{Base: api.Bool, Int: pos(3), List: []whole.Int{pos(1)}}, nil},
		{value.Value{Base: api.List, Int: pos(3)}, nil},
		{value.Value{Base: api.List, List: []whole.Int{neg(0), pos(2, 0)}}, []string{"[2]", "[0]", "[0, 0]", "[0, 1]"}},
	} {
		is(t, "Reduce of "+textOf(c.v), reduced(t, []value.Value{c.v}), c.want)
	}
}

// expectedNumbers returns the texts of what a number becomes, by the chapter's rules alone.
func expectedNumbers(n whole.Int) []string {
	var all []string
	if toBig(n).Sign() != 0 {
		all = append(all, "0")
	}
	if half := new(big.Int).Quo(toBig(n), big.NewInt(2)); half.Sign() != 0 {
		all = append(all, half.String())
	}
	return all
}

// expectedSteps returns the texts of what v becomes, by the chapter's rules alone.
func expectedSteps(v value.Value) []string {
	switch v.Base {
	case api.Int:
		return expectedNumbers(v.Int)
	case api.Bool:
		return nil
	}
	var texts, all []string
	for _, n := range v.List {
		texts = append(texts, toBig(n).String())
	}
	for i := range texts {
		all = append(all, "["+strings.Join(slices.Delete(slices.Clone(texts), i, i+1), ", ")+"]")
	}
	for i, n := range v.List {
		for _, s := range expectedNumbers(n) {
			other := slices.Clone(texts)
			other[i] = s
			all = append(all, "["+strings.Join(other, ", ")+"]")
		}
	}
	return all
}

func TestReduceOfSamples(t *testing.T) {
	samples(t, func(m maker, l []value.Value) {
		var texts, want []string
		for _, v := range l {
			texts = append(texts, textOf(v))
		}
		for i, v := range l {
			for _, s := range expectedSteps(v) {
				other := slices.Clone(texts)
				other[i] = s
				want = append(want, strings.Join(other, ";"))
			}
		}
		is(t, "Reduce of "+textsOf(l), reduced(t, l), want)
	})
}

// P8.2.
func TestStepsDecreaseTheSize(t *testing.T) {
	samples(t, func(m maker, l []value.Value) {
		size := value.Size(l...)
		for _, step := range value.Reduce(l) {
			if got := value.Size(step...); got >= size {
				t.Errorf("%s has the Size %d, and %s has %d", textsOf(l), size, textsOf(step), got)
			}
		}
	})
}

// Whichever steps are taken, there are at most as many as the Size, and in the end
// nothing of it is left.
func TestStepsEnd(t *testing.T) {
	samples(t, func(m maker, l []value.Value) {
		if m.Intn(20) > 0 {
			return
		}
		before, left := textsOf(l), value.Size(l...)
		for all := value.Reduce(l); len(all) > 0 && left >= 0; all = value.Reduce(l) {
			l = all[m.Intn(len(all))]
			left--
		}
		if left < 0 || value.Size(l...) > 0 {
			t.Errorf("from %s to %s, %d left", before, textsOf(l), left)
		}
	})
}
