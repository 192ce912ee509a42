package value_test

// P8.1: Text and Parse.

import (
	"regexp"
	"strings"
	"testing"

	"litmus/api"
	"litmus/value"
	"litmus/whole"
)

func TestText(t *testing.T) {
	for _, c := range []struct {
		v    value.Value
		want string
	}{
		{value.Value{Base: api.Int}, "0"},
		{value.Value{Base: api.Int, Int: neg(0, 0)}, "0"},
		{value.Value{Base: api.Int, Int: neg(7, 0)}, "-7"},
		{value.Value{Base: api.Int, Int: pos(0, 1)}, "4294967296"},
		{value.Value{Base: api.Bool}, "false"},
		{value.Value{Base: api.Bool, Bool: true}, "true"},
		{value.Value{Base: api.List}, "[]"},
		{value.Value{Base: api.List, List: []whole.Int{neg(0)}}, "[0]"},
		{value.Value{Base: api.List, List: []whole.Int{pos(1), neg(2)}}, "[1, -2]"},
		{value.Value{Base: api.List, List: []whole.Int{pos(), pos(), neg(0, 1, 0)}}, "[0, 0, -4294967296]"},
	} {
		is(t, "Text", value.Text(c.v), c.want)
	}
	samples(t, func(m maker, l []value.Value) {
		for _, v := range l {
			is(t, "Text", value.Text(v), textOf(v))
		}
	})
}

// A text may be longer than what Parse accepts.
func TestTextBeyondLimits(t *testing.T) {
	digits := strings.Repeat("9", 301)
	is(t, "a number", value.Text(value.OfInt(num(t, "-"+digits))), "-"+digits)
	is(t, "a list", value.Text(value.OfList(num(t, digits))), "["+digits+"]")
	long := value.Text(value.OfList(make([]whole.Int, api.MaxSource)...))
	is(t, "many numbers", long == "["+strings.Repeat("0, ", api.MaxSource-1)+"0]", true)
}

// parses fails unless s is the text of a value, which Parse returns.
func parses(t *testing.T, s string) {
	t.Helper()
	v, ok := value.Parse(s)
	is(t, "Parse of "+s, ok, true)
	isValue(t, "Parse of "+s, v, s)
	is(t, "Text of the value of "+s, value.Text(v), s)
}

// fails fails unless Parse returns nothing for s.
func fails(t *testing.T, s string) {
	t.Helper()
	if v, ok := value.Parse(s); ok || !zero(v) {
		t.Errorf("Parse of %q: got %#v, %v", s, v, ok)
	}
}

// zero reports whether v is the zero value.
func zero(v value.Value) bool {
	return v.Base == 0 && !v.Bool && len(v.List) == 0 && !v.Int.Neg && len(v.Int.Abs) == 0
}

func TestParse(t *testing.T) {
	most := strings.Repeat("9", api.MaxDigits)
	for _, s := range []string{
		"0", "7", "-7", "10", "4294967296", "-18446744073709551616",
		"true", "false", "[]", "[0]", "[-1]", "[1, -2]", "[0, 0]", "[-10, 0, 4294967296, -4294967296]",
		most, "-" + most, "[" + most + "]", "[-" + most + ", 1, " + most + "]",
	} {
		parses(t, s)
	}
}

func TestParseOfOtherTexts(t *testing.T) {
	for _, s := range []string{
		"", " ", "-", "--1", "-0", "00", "01", "+1", " 1", "1 ", "1\n", "1.0", "1 2", "1, 2", "1,", "x", "\x00", "\xff",
		"True", "False", "TRUE", "true ", " true", "tru", "truefalse", "true\n", "[true]", "[false, 1]", "-true", "0true", "not true",
		"[", "]", "[[", "]]", "][", "[[]]", "[]]", "[[]", "[][]", "[ ]", "[] ", " []", "[]\n", "-[]", "[-]", "[,]", "[, ]", "[,,]", "[, , ]",
		"[1", "1]", "(1)", "{1}", "[1,2]", "[1 ,2]", "[1 , 2]", "[1,  2]", "[1,\t2]", "[1,\n2]", "[1, 2", "1, 2]", "[ 1, 2]", "[1, 2 ]", "[1 2]", "[1; 2]",
		"[1, ]", "[, 1]", "[1,, 2]", "[1, , 2]", "[1,]", "[,1]", "[1]]", "[[1]", "[1][2]", "[1], 2", "[1, [2]]", "[[1], 2]", "[1, 2], 3]",
		"[-0]", "[01]", "[+1]", "[--1]", "[- 1]", "[1, -0]", "[1, 01]", "[00, 1]", "[1, x]", "[x, 1]", "[１]", "1 :: []",
	} {
		fails(t, s)
	}
}

func TestParseOfTooManyDigits(t *testing.T) {
	more := strings.Repeat("9", api.MaxDigits+1)
	for _, s := range []string{more, "-" + more, "[" + more + "]", "[-" + more + "]", "[1, " + more + "]", "[" + more + ", 1]", "[1, -" + more + ", 2]"} {
		fails(t, s)
	}
}

// A text may have MaxSource bytes, but no more.
func TestParseOfMaxSource(t *testing.T) {
	ones := strings.Repeat("1, ", api.MaxSource/3-1)
	for _, s := range []string{"[" + ones + "100]", "[-10, " + ones[:len(ones)-3] + "1]", "[" + ones[3:] + "-10000]"} {
		is(t, "the length", len(s), api.MaxSource)
		parses(t, s)
	}
	for _, s := range []string{"[" + ones + "1000]", "[" + ones + "1, 1]", "[" + ones + "-100]"} {
		is(t, "the length", len(s), api.MaxSource+1)
		fails(t, s)
	}
	for _, s := range []string{"1", "0", " ", "[", "]", ", ", "1, ", "[]", "true", "\xff"} {
		fails(t, strings.Repeat(s, api.MaxSource))
		fails(t, "["+strings.Repeat(s, api.MaxSource/len(s)-1)+"]")
		fails(t, "["+strings.Repeat(s, api.MaxSource/len(s))+"]")
	}
}

// grammar is what the chapter says about texts, except for the limits.
var grammar = regexp.MustCompile(strings.ReplaceAll(`\A(?:true|false|N|\[(?:N(?:, N)*)?\])\z`, "N", `(?:0|-?[1-9][0-9]*)`))

// All short texts are parsed as the grammar says.
func TestParseOfAllShortTexts(t *testing.T) {
	const signs = "[], -012"
	var all func(s string, left int)
	all = func(s string, left int) {
		if grammar.MatchString(s) {
			parses(t, s)
		} else {
			fails(t, s)
		}
		for i := 0; left > 0 && i < len(signs); i++ {
			all(s+signs[i:i+1], left-1)
		}
	}
	all("", 5)
	all("[1, ", 4)
	all("[-2, 0", 4)
}

func TestParseUndoesText(t *testing.T) {
	samples(t, func(m maker, l []value.Value) {
		for _, v := range l {
			s := value.Text(v)
			parses(t, s)
			got, _ := value.Parse(s)
			is(t, "the same value", value.Same(got, v), true)
			// A byte that is changed makes another text, or none.
			i := m.Intn(len(s))
			s = s[:i] + string("[], -0123456789truefalse"[m.Intn(24)]) + s[i+1:]
			if grammar.MatchString(s) {
				parses(t, s)
			} else {
				fails(t, s)
			}
		}
	})
}
