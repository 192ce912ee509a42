package lex_test

// P4.2: tokens written with one blank between each two are split into the same ones.

import (
	"strings"
	"testing"

	"litmus/lex"
)

// spaced fails unless the tokens of s, if it has no error, are those of their texts
// with that blank between each two.
func spaced(t *testing.T, s, blank string) {
	t.Helper()
	want, err := lex.Lex(s)
	if err != nil {
		return
	}
	var all []string
	for _, token := range want {
		all = append(all, token.Text)
	}
	again := strings.Join(all, blank)
	got, err := lex.Lex(again)
	if err != nil || len(got) != len(want) {
		t.Errorf("%q: got %v, %v, want %v", again, got, err, want)
		return
	}
	for i := range got {
		if got[i].Kind != want[i].Kind || got[i].Text != want[i].Text {
			t.Errorf("%q: got %v, want %v", again, got[i], want[i])
		}
	}
}

func TestSpacedTokens(t *testing.T) {
	for _, blank := range []string{" ", "\t", "\n", "\r"} {
		spaced(t, "", blank)
		spaced(t, strings.Repeat("x1::", 2500), blank)
		for _, a := range pieces() {
			for _, b := range pieces() {
				spaced(t, a+b, blank)
				spaced(t, a+" "+b, blank)
			}
		}
		samples(t, func(s string) { spaced(t, s, blank) })
	}
}

// Every two tokens stay two with a blank between them, also those that would be one
// without it.
func TestPairsOfTokens(t *testing.T) {
	all := append([]string{"a", "_", "x1", "0", "1", "42", strings.Repeat("n", 40), strings.Repeat("7", 300)}, append(words, signs...)...)
	for _, a := range all {
		for _, b := range all {
			for _, blank := range []string{" ", "\t", "\n", "\r"} {
				if got := texts(a + blank + b); got != a+"/"+b {
					t.Errorf("%q, %q: got %s", a, b, got)
				}
			}
		}
	}
}
