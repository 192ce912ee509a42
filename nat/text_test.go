package nat_test

import (
	"math/big"
	"strings"
	"testing"

	"litmus/nat"
)

func TestText(t *testing.T) {
	for _, c := range []struct {
		a    nat.Nat
		want string
	}{
		{nil, "0"},
		{nat.Nat{0, 0}, "0"},
		{nat.Nat{7, 0}, "7"},
		{nat.Nat{0, 1}, "4294967296"},
		{nat.Of(999999999), "999999999"},
		{nat.Of(1000000000), "1000000000"},
		{nat.Of(1000000001), "1000000001"},
		{nat.Of(5000000000000000000), "5000000000000000000"},
		{nat.Nat{0xFFFFFFFF, 0xFFFFFFFF, 0}, "18446744073709551615"},
	} {
		if got := nat.Text(c.a); got != c.want {
			t.Errorf("Text(%v): got %q, want %q", c.a, got, c.want)
		}
	}
	samples(t, 12, func(a, _, _ nat.Nat) {
		if got := nat.Text(a); got != toBig(a).String() {
			t.Errorf("Text(%v): got %q", a, got)
		}
	})
}

// A text may have more digits than Parse accepts.
func TestTextOfMoreThanMaxDigits(t *testing.T) {
	a := nat.Shl(nat.Of(1), 4096)
	a = nat.Mul(a, a)
	if got, want := nat.Text(a), new(big.Int).Lsh(big.NewInt(1), 8192).String(); got != want {
		t.Errorf("got %q, want %q", got, want)
	}
}

func TestParse(t *testing.T) {
	for _, s := range []string{
		"0", "1", "9", "10", "4294967295", "4294967296", "18446744073709551616",
		"999999999", "1000000000", "123456789012345678", "1234567890123456789",
		"1" + strings.Repeat("0", 299), strings.Repeat("9", 299), strings.Repeat("9", 300),
	} {
		got, ok := nat.Parse(s)
		is(t, s, got, decimal(t, s))
		if !ok {
			t.Errorf("Parse(%q): got false", s)
		}
	}
}

func TestParseOfNoNumber(t *testing.T) {
	for _, s := range []string{
		"", "00", "01", "000000000000", "0" + strings.Repeat("1", 299),
		"-1", "-0", "+1", "-", " 1", "1 ", "1 2", "\t1", "1\n", "1\x00", "\x00",
		"1a", "a1", "0x1", "1_0", "1.0", "1e3", "1,000", "/", ":", "1/", "1:",
		"١", "１", "\xff", "1\xb2",
		"1" + strings.Repeat("0", 300), strings.Repeat("9", 301), strings.Repeat("0", 301),
		strings.Repeat("9", 299) + "x", strings.Repeat("1", 100000),
	} {
		if got, ok := nat.Parse(s); ok || len(got) > 0 {
			t.Errorf("Parse(%q): got %v, %v", s, got, ok)
		}
	}
}
