package value

import (
	"strings"

	"litmus/api"
	"litmus/whole"
)

// comma is what separates the numbers of a list.
const comma = ", "

// Text returns the text of v: that of the number, true or false, or those of the
// list's numbers in brackets.
func Text(v Value) string {
	switch v.Base {
	case api.Int:
		return whole.Text(v.Int)
	case api.Bool:
		if v.Bool {
			return "true"
		}
		return "false"
	}
	return listText(v.List)
}

// Parse returns the value whose Text is s, and true, or a zero value and false if there
// is none, if s has more than MaxSource bytes, or a number more than MaxDigits digits.
func Parse(s string) (Value, bool) {
	if len(s) > api.MaxSource {
		return Value{}, false
	}
	switch s {
	case "true":
		return OfBool(true), true
	case "false":
		return OfBool(false), true
	}
	if open, ok := strings.CutPrefix(s, "["); ok {
		return parseList(open)
	}
	n, ok := whole.Parse(s)
	if !ok {
		return Value{}, false
	}
	return OfInt(n), true
}

// listText returns the text of a list.
func listText(l []whole.Int) string {
	texts := make([]string, len(l))
	for i, n := range l {
		texts[i] = whole.Text(n)
	}
	return "[" + strings.Join(texts, comma) + "]"
}

// parseList returns the list with that text, of which the first bracket is cut off.
func parseList(open string) (Value, bool) {
	inner, ok := strings.CutSuffix(open, "]")
	if !ok {
		return Value{}, false
	}
	if inner == "" {
		// To split it would be to find one number, of no digits.
		return OfList(), true
	}
	var l []whole.Int
	for _, text := range strings.Split(inner, comma) {
		n, ok := whole.Parse(text)
		if !ok {
			return Value{}, false
		}
		l = append(l, n)
	}
	return OfList(l...), true
}
