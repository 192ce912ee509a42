package lex_test

// P0 and DOC.md's rules: the call ends, doesn't panic, has the same result again, and
// gives out memory of its own.

import (
	"math/rand"
	"slices"
	"strings"
	"testing"
	"unsafe"

	"litmus/lex"
)

func TestAnyBytesEnd(t *testing.T) {
	r := rand.New(rand.NewSource(1))
	for range 20000 {
		s := make([]byte, r.Intn(40))
		r.Read(s)
		agrees(t, string(s))
	}
	for b := range 256 {
		one := string([]byte{byte(b)})
		agrees(t, strings.Repeat(one, 2000))
		agrees(t, "let x = 1"+strings.Repeat(one, 2000))
		lex.Lex(strings.Repeat(one, 20000))
		lex.Lex(strings.Repeat(one, 100000))
	}
}

// What a caller does with a result doesn't show in others.
func TestResultsAreApart(t *testing.T) {
	samples(t, func(s string) {
		first, err := lex.Lex(s)
		if err != nil {
			agrees(t, s)
			return
		}
		want := slices.Clone(first)
		second, _ := lex.Lex(s)
		clear(first[:cap(first)])
		if !slices.Equal(second, want) {
			t.Errorf("%q: got %v, want %v", s, second, want)
		}
		agrees(t, s)
	})
}

// A token that is kept doesn't keep its source.
func TestTextsAreCopies(t *testing.T) {
	s := strings.Clone("fun abc = 123 :: [] # end")
	from := uintptr(unsafe.Pointer(unsafe.StringData(s)))
	tokens, _ := lex.Lex(s)
	for _, token := range tokens[:len(tokens)-1] {
		if p := uintptr(unsafe.Pointer(unsafe.StringData(token.Text))); p >= from && p < from+uintptr(len(s)) {
			t.Errorf("%q shares memory with the source", token.Text)
		}
	}
}
