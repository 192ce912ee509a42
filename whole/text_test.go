package whole_test

import (
	"math"
	"strings"
	"testing"

	"litmus/whole"
)

func TestText(t *testing.T) {
	for _, c := range []struct {
		a    whole.Int
		want string
	}{
		{pos(), "0"},
		{neg(), "0"},
		{neg(0, 0), "0"},
		{pos(7, 0), "7"},
		{neg(7, 0), "-7"},
		{neg(0, 1), "-4294967296"},
		{whole.Of(math.MaxInt), "9223372036854775807"},
		{whole.Of(math.MinInt), "-9223372036854775808"},
	} {
		if got := whole.Text(c.a); got != c.want {
			t.Errorf("Text(%v): got %q, want %q", c.a, got, c.want)
		}
	}
	samples(t, 6, func(a, _, _ whole.Int) {
		if got := whole.Text(a); got != toBig(a).String() {
			t.Errorf("Text(%v): got %q", a, got)
		}
	})
}

// A text may have more digits than Parse accepts.
func TestTextOfMoreThanMaxDigits(t *testing.T) {
	a := whole.Mul(decimal(t, strings.Repeat("9", 300)), decimal(t, "-1"+strings.Repeat("0", 299)))
	want := "-" + strings.Repeat("9", 300) + strings.Repeat("0", 299)
	if got := whole.Text(a); got != want {
		t.Errorf("got %q, want %q", got, want)
	}
	if got, ok := whole.Parse(want); ok || !same(got, pos()) {
		t.Errorf("Parse of 599 digits: got %v, %v", got, ok)
	}
}

func TestParse(t *testing.T) {
	for _, s := range []string{
		"0", "1", "-1", "9", "-9", "10", "-10", "4294967296", "-4294967296",
		"9223372036854775808", "-9223372036854775808", "-9223372036854775809",
		// The sign isn't a digit.
		strings.Repeat("9", 300), "-" + strings.Repeat("9", 300), "-1" + strings.Repeat("0", 299),
	} {
		got, ok := whole.Parse(s)
		is(t, s, got, decimal(t, s))
		if !ok {
			t.Errorf("Parse(%q): got false", s)
		}
	}
}

func TestParseOfNoNumber(t *testing.T) {
	for _, s := range []string{
		"", "-", "--", "--1", "-0", "00", "-00", "01", "-01", "+1", "+-1", "-+1", "1-", "-1-",
		" 1", "1 ", "- 1", " -1", "-1 ", "1\n", "-1\x00", "\x00", "-\x00",
		"1a", "-a", "-0x1", "1_0", "-1.0", "1e3", "−1", "–1", "-١", "\xff", "-\xb2", "-1/", "-1:",
		strings.Repeat("9", 301), "-" + strings.Repeat("9", 301), "-1" + strings.Repeat("0", 300),
		"-0" + strings.Repeat("1", 299), "-" + strings.Repeat("0", 300), strings.Repeat("-", 100000),
	} {
		if got, ok := whole.Parse(s); ok || !same(got, pos()) {
			t.Errorf("Parse(%q): got %v, %v", s, got, ok)
		}
	}
}
