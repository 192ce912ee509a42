package lex_test

import (
	"errors"
	"math/rand"
	"regexp"
	"slices"
	"strings"
	"testing"

	"litmus/api"
	"litmus/lex"
)

// words and signs are the chapter's lists; the longer signs come first.
var (
	words = strings.Fields("fun qualif let in if then else match with assert not true false int bool list len hd tl v")
	signs = strings.Fields(":: -> && || [] <> <= >= ( ) { } , : ; | = < > + - * / %")
)

var (
	blankRule  = regexp.MustCompile(`^([ \t\n\r]|#[^\n]*)*`)
	nameRule   = regexp.MustCompile(`^[a-zA-Z_][a-zA-Z0-9_]*`)
	numberRule = regexp.MustCompile(`^[0-9]+`)
)

// expected returns the tokens of s, or the error and its position, by the chapter's
// rules alone.
func expected(s string) ([]lex.Token, *api.At) {
	if len(s) > 20000 {
		return nil, &api.At{Line: 1, Col: 1, Err: api.ErrLong}
	}
	var tokens []lex.Token
	for i := 0; ; {
		i += len(blankRule.FindString(s[i:]))
		line, col := 1+strings.Count(s[:i], "\n"), i-strings.LastIndex(s[:i], "\n")
		kind, text, err := expectedAt(s[i:])
		if err != 0 {
			return nil, &api.At{Line: line, Col: col, Err: err}
		}
		tokens = append(tokens, lex.Token{Kind: kind, Text: text, Line: line, Col: col})
		if i += len(text); kind == 4 {
			return tokens, nil
		}
	}
}

// expectedAt returns the kind and the text of the token at the start of s, or its
// error.
func expectedAt(s string) (int, string, api.Errno) {
	if s == "" {
		return 4, "", 0
	}
	if name := nameRule.FindString(s); name != "" {
		if len(name) > 40 {
			return 0, "", api.ErrLong
		}
		if slices.Contains(words, name) {
			return 3, name, 0
		}
		return 0, name, 0
	}
	if number := numberRule.FindString(s); number != "" {
		if strings.HasPrefix(number, "0") && number != "0" {
			return 0, "", api.ErrForm
		}
		if len(number) > 300 {
			return 0, "", api.ErrLong
		}
		return 1, number, 0
	}
	for _, sign := range signs {
		if strings.HasPrefix(s, sign) {
			return 2, sign, 0
		}
	}
	return 0, "", api.ErrForm
}

// pieces are what samples are made of: tokens, blanks, and what is invalid.
func pieces() []string {
	all := slices.Concat(words, signs, signs, []string{
		"a", "B", "_", "x1", "_9", "v1", "V", "Let", "lets", "in_", strings.Repeat("n", 39), strings.Repeat("N", 40),
		"0", "1", "42", "00", "9876543210", strings.Repeat("7", 299), "1" + strings.Repeat("0", 299),
	})
	for range 12 {
		all = append(all, " ", "  ", "\t", "\n", "\r", "\r\n", "# a remark\n", "#\n")
	}
	return append(all, "#", "&", "[", "]", "!", "\x00", "é", "\xff")
}

// samples calls f with many sources, always the same ones; some have errors.
func samples(t *testing.T, f func(s string)) {
	t.Helper()
	all := pieces()
	r := rand.New(rand.NewSource(1))
	for range 20000 {
		var s strings.Builder
		for range r.Intn(30) {
			s.WriteString(all[r.Intn(len(all))])
		}
		f(s.String())
		if t.Failed() {
			return
		}
	}
}

// agrees fails unless the result for s is the expected one.
func agrees(t *testing.T, s string) {
	t.Helper()
	tokens, at := expected(s)
	if at != nil {
		fails(t, s, at.Err, at.Line, at.Col)
		return
	}
	splits(t, s, tokens...)
}

// splits fails unless s has exactly these tokens.
func splits(t *testing.T, s string, want ...lex.Token) {
	t.Helper()
	got, err := lex.Lex(s)
	if err != nil {
		t.Errorf("Lex(%q): error %v at %v", s, errors.Unwrap(err), err)
		return
	}
	if !slices.Equal(got, want) {
		t.Errorf("Lex(%q): got %v, want %v", s, got, want)
	}
}

// fails fails unless s has this error at this position, and no tokens.
func fails(t *testing.T, s string, want error, line, col int) {
	t.Helper()
	got, err := lex.Lex(s)
	if len(got) > 0 {
		t.Errorf("Lex(%q): tokens %v beside the error %v", s, got, err)
	}
	at, ok := err.(*api.At)
	if !ok {
		t.Errorf("Lex(%q): got the error %v, want an *api.At", s, err)
		return
	}
	if at.Err != want || at.Line != line || at.Col != col {
		t.Errorf("Lex(%q): got %v at %d:%d, want %v at %d:%d", s, at.Err, at.Line, at.Col, want, line, col)
	}
}

// texts returns the texts of s without that of End, with a / between them, or the
// error.
func texts(s string) string {
	tokens, err := lex.Lex(s)
	if err != nil {
		return "error"
	}
	var all []string
	for _, token := range tokens[:len(tokens)-1] {
		all = append(all, token.Text)
	}
	return strings.Join(all, "/")
}
