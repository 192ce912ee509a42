package ratio_test

import (
	"strings"
	"testing"

	"litmus/ratio"
	"litmus/whole"
)

func TestText(t *testing.T) {
	for _, c := range []struct {
		a    ratio.Rat
		want string
	}{
		{ratio.Rat{}, "0"},
		{rat(neg()), "0"},
		{rat(neg(0, 0), 7), "0"},
		{rat(pos(), 0, 0), "0"},
		{rat(pos(7, 0)), "7"},
		{rat(neg(7, 0), 0), "-7"},
		{rat(neg(7), 1, 0), "-7"},
		{rat(pos(7), 7), "1"},
		{rat(neg(14), 7, 0), "-2"},
		{rat(pos(7), 14), "1/2"},
		{rat(neg(6), 4), "-3/2"},
		{rat(pos(1), 10), "1/10"},
		{rat(neg(1), 0, 1), "-1/4294967296"},
		{rat(neg(0, 3), 0, 2, 0), "-3/2"},
		{rat(pos(1, 1), 0, 1), "4294967297/4294967296"},
	} {
		if got := ratio.Text(c.a); got != c.want {
			t.Errorf("Text(%v): got %q, want %q", c.a, got, c.want)
		}
	}
	samples(t, 4, func(a, _, _ ratio.Rat) {
		if got := ratio.Text(a); got != toBig(a).RatString() {
			t.Errorf("Text(%v): got %q", a, got)
		}
	})
}

// A text may have more digits than layer 2 reads.
func TestTextOfManyDigits(t *testing.T) {
	digits := strings.Repeat("9", 300)
	a, _ := whole.Parse("-" + digits)
	num := whole.Mul(a, a)
	got, ok := ratio.Frac(whole.Add(num, whole.Of(1)), whole.Mul(num, a))
	square := strings.Repeat("9", 299) + "8" + strings.Repeat("0", 299)
	cube := strings.Repeat("9", 299) + "7" + strings.Repeat("0", 299) + "2" + digits
	if want := "-" + square + "2/" + cube; !ok || ratio.Text(got) != want {
		t.Errorf("got %q, want %q", ratio.Text(got), want)
	}
}
