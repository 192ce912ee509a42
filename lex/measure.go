package lex

import (
	"strings"

	"litmus/api"
)

// blanks returns the length of the blanks at the start of s.
func blanks(s string) int {
	n := 0
	for n < len(s) {
		switch s[n] {
		case ' ', '\t', '\n', '\r':
			n++
		case '#':
			n += comment(s[n:])
		default:
			return n
		}
	}
	return n
}

// comment returns the length of the comment at the start of s.
func comment(s string) int {
	if n := strings.IndexByte(s, '\n'); n >= 0 {
		return n
	}
	return len(s)
}

// measure returns the kind and the length of the token at the start of s, or why it
// is invalid.
func measure(s string) (kind, length int, err error) {
	switch {
	case s == "":
		return End, 0, nil
	case isLetter(s[0]):
		return measureName(s)
	case isDigit(s[0]):
		return measureNumber(s)
	}
	if n := signLength(s); n > 0 {
		return Sign, n, nil
	}
	return 0, 0, api.ErrForm
}

// measureName is measure where a name begins, which may be a key word.
func measureName(s string) (kind, length int, err error) {
	n := span(s, func(c byte) bool { return isLetter(c) || isDigit(c) })
	switch {
	case n > api.MaxName:
		return 0, 0, api.ErrLong
	case isWord(s[:n]):
		return Word, n, nil
	}
	return Name, n, nil
}

// measureNumber is measure where a number begins.
func measureNumber(s string) (kind, length int, err error) {
	n := span(s, isDigit)
	switch {
	case n > 1 && s[0] == '0':
		return 0, 0, api.ErrForm
	case n > api.MaxDigits:
		return 0, 0, api.ErrLong
	}
	return Number, n, nil
}

// signLength returns the length of the longest sign at the start of s, which isn't
// empty, or 0 if there is none.
func signLength(s string) int {
	switch first := s[0]; first {
	case '[':
		return pairLength(s, ']', 0)
	case '&':
		return pairLength(s, '&', 0)
	case ':', '|':
		return pairLength(s, first, 1)
	case '-':
		return pairLength(s, '>', 1)
	case '<':
		if strings.HasPrefix(s, "<>") {
			return 2
		}
		// Like a >, it may still continue with =.
		fallthrough
	case '>':
		return pairLength(s, '=', 1)
	case '(', ')', '{', '}', ',', ';', '=', '+', '*', '/', '%':
		return 1
	}
	return 0
}

// pairLength returns 2 if the second byte of s is second, and otherwise alone, the
// length of a sign that the first byte is by itself.
func pairLength(s string, second byte, alone int) int {
	if len(s) > 1 && s[1] == second {
		return 2
	}
	return alone
}

// span returns how many bytes at the start of s are in the class.
func span(s string, class func(byte) bool) int {
	n := 0
	for n < len(s) && class(s[n]) {
		n++
	}
	return n
}

// isLetter reports whether c may begin a name.
func isLetter(c byte) bool {
	return c >= 'a' && c <= 'z' || c >= 'A' && c <= 'Z' || c == '_'
}

func isDigit(c byte) bool {
	return c >= '0' && c <= '9'
}

func isWord(name string) bool {
	switch name {
	case "fun", "qualif", "let", "in", "if", "then", "else", "match", "with", "assert", "not",
		"true", "false", "int", "bool", "list", "len", "hd", "tl", "v":
		return true
	}
	return false
}
