package lex_test

// P4.1: Lex behaves as specified.

import (
	"errors"
	"strings"
	"testing"

	"litmus/api"
	"litmus/lex"
)

func TestKinds(t *testing.T) {
	for i, kind := range []int{lex.Name, lex.Number, lex.Sign, lex.Word, lex.End} {
		if kind != i {
			t.Errorf("kind %d is %d", i, kind)
		}
	}
}

func TestProgram(t *testing.T) {
	splits(t, "# countdown\nfun f(n: int{v >= 0}): list =\r\n\tif n = 0 then [] else 10::f(n-1) # end",
		lex.Token{lex.Word, "fun", 2, 1}, lex.Token{lex.Name, "f", 2, 5}, lex.Token{lex.Sign, "(", 2, 6},
		lex.Token{lex.Name, "n", 2, 7}, lex.Token{lex.Sign, ":", 2, 8}, lex.Token{lex.Word, "int", 2, 10},
		lex.Token{lex.Sign, "{", 2, 13}, lex.Token{lex.Word, "v", 2, 14}, lex.Token{lex.Sign, ">=", 2, 16},
		lex.Token{lex.Number, "0", 2, 19}, lex.Token{lex.Sign, "}", 2, 20}, lex.Token{lex.Sign, ")", 2, 21},
		lex.Token{lex.Sign, ":", 2, 22}, lex.Token{lex.Word, "list", 2, 24}, lex.Token{lex.Sign, "=", 2, 29},
		lex.Token{lex.Word, "if", 3, 2}, lex.Token{lex.Name, "n", 3, 5}, lex.Token{lex.Sign, "=", 3, 7},
		lex.Token{lex.Number, "0", 3, 9}, lex.Token{lex.Word, "then", 3, 11}, lex.Token{lex.Sign, "[]", 3, 16},
		lex.Token{lex.Word, "else", 3, 19}, lex.Token{lex.Number, "10", 3, 24}, lex.Token{lex.Sign, "::", 3, 26},
		lex.Token{lex.Name, "f", 3, 28}, lex.Token{lex.Sign, "(", 3, 29}, lex.Token{lex.Name, "n", 3, 30},
		lex.Token{lex.Sign, "-", 3, 31}, lex.Token{lex.Number, "1", 3, 32}, lex.Token{lex.Sign, ")", 3, 33},
		lex.Token{lex.End, "", 3, 40})
}

// The chapter's examples.
func TestExamples(t *testing.T) {
	splits(t, "a<=b", lex.Token{lex.Name, "a", 1, 1}, lex.Token{lex.Sign, "<=", 1, 2}, lex.Token{lex.Name, "b", 1, 4}, lex.Token{lex.End, "", 1, 5})
	fails(t, "[ 1", api.ErrForm, 1, 1)
}

func TestEachWord(t *testing.T) {
	if len(words) != 20 {
		t.Fatal("there are 20 key words")
	}
	for _, w := range words {
		n := len(w)
		splits(t, w, lex.Token{lex.Word, w, 1, 1}, lex.Token{lex.End, "", 1, n + 1})
		// What is longer, or has another case, is a name.
		for _, name := range []string{w + "1", w + "_", "_" + w, w + w, w + "x"} {
			splits(t, name, lex.Token{lex.Name, name, 1, 1}, lex.Token{lex.End, "", 1, len(name) + 1})
		}
		upper := strings.ToUpper(w)
		splits(t, upper, lex.Token{lex.Name, upper, 1, 1}, lex.Token{lex.End, "", 1, n + 1})
		splits(t, "1"+w, lex.Token{lex.Number, "1", 1, 1}, lex.Token{lex.Word, w, 1, 2}, lex.Token{lex.End, "", 1, n + 2})
	}
}

func TestEachSign(t *testing.T) {
	if len(signs) != 24 {
		t.Fatal("there are 24 signs")
	}
	for _, s := range signs {
		n := len(s)
		splits(t, s, lex.Token{lex.Sign, s, 1, 1}, lex.Token{lex.End, "", 1, n + 1})
		splits(t, "x"+s+"1", lex.Token{lex.Name, "x", 1, 1}, lex.Token{lex.Sign, s, 1, 2}, lex.Token{lex.Number, "1", 1, n + 2}, lex.Token{lex.End, "", 1, n + 3})
	}
}

func TestNames(t *testing.T) {
	for _, name := range []string{
		"a", "z", "A", "Z", "_", "__", "_0", "a0", "z9", "aZ_09", "Fun", "le", "lett", "vv", "x_y", "h", "t",
		"end", "nil", "fn", "qualifier", strings.Repeat("a", 40), "_" + strings.Repeat("9", 39),
	} {
		splits(t, name, lex.Token{lex.Name, name, 1, 1}, lex.Token{lex.End, "", 1, len(name) + 1})
	}
}

func TestNumbers(t *testing.T) {
	for _, number := range []string{
		"0", "1", "9", "10", "90", "100", "1234567890", "340282366920938463463374607431768211456",
		strings.Repeat("9", 299), strings.Repeat("9", 300), "1" + strings.Repeat("0", 299),
	} {
		splits(t, number, lex.Token{lex.Number, number, 1, 1}, lex.Token{lex.End, "", 1, len(number) + 1})
	}
}

// Each token is as long as possible, and what follows needs no blank.
func TestWhereTokensEnd(t *testing.T) {
	for _, c := range []struct{ s, want string }{
		{"1a", "1/a"},
		{"0x1", "0/x1"},
		{"1_000", "1/_000"},
		{"a1b2", "a1b2"},
		{"12ab34", "12/ab34"},
		{"0a0", "0/a0"},
		{"x<y", "x/</y"},
		{"<<", "</<"},
		{"<<=", "</<="},
		{"<=>", "<=/>"},
		{"<>=", "<>/="},
		{"<>>", "<>/>"},
		{"<->", "</->"},
		{">>=", ">/>="},
		{">==", ">=/="},
		{"><", ">/<"},
		{"=>", "=/>"},
		{"=<", "=/<"},
		{"==", "=/="},
		{"=>=", "=/>="},
		{":::", "::/:"},
		{"::::", "::/::"},
		{":=", ":/="},
		{"|||", "||/|"},
		{"||||", "||/||"},
		{"|>", "|/>"},
		{"&&&&", "&&/&&"},
		{"-->", "-/->"},
		{"->>", "->/>"},
		{"->=", "->/="},
		{"-1", "-/1"},
		{"[][]", "[]/[]"},
		{"([])", "(/[]/)"},
		{"+-*/%", "+/-/*///%"},
		{"(){},;", "(/)/{/}/,/;"},
		{"< >", "</>"},
		{"< =", "</="},
		{": :", ":/:"},
		{"| |", "|/|"},
		{"- >", "-/>"},
		{"<#\n>", "</>"},
		{"let\nin", "let/in"},
		{"le#\nt", "le/t"},
		{"1\t2", "1/2"},
	} {
		if got := texts(c.s); got != c.want {
			t.Errorf("%q: got %s, want %s", c.s, got, c.want)
		}
	}
}

func TestBlanksAndPositions(t *testing.T) {
	for _, c := range []struct {
		blanks    string
		line, col int
	}{
		{"", 1, 1},
		{" ", 1, 2},
		{"\t", 1, 2},
		{"\r", 1, 2},
		{"\n", 2, 1},
		{"\r\n", 2, 1},
		{"\n\r", 2, 2},
		{"\n\n\n  ", 4, 3},
		{" \t\r ", 1, 5},
		{"#\n", 2, 1},
		{"##\n#\n ", 3, 2},
		{"# let x = 1\n", 2, 1},
		{"# a\r\n", 2, 1},
		{"# \x00 & [ é \xff \v 01\n\t", 2, 2},
		{" #\n", 2, 1},
		{"# " + strings.Repeat("n", 400) + "\n", 2, 1},
	} {
		splits(t, c.blanks+"x", lex.Token{lex.Name, "x", c.line, c.col}, lex.Token{lex.End, "", c.line, c.col + 1})
		splits(t, c.blanks, lex.Token{lex.End, "", c.line, c.col})
		fails(t, c.blanks+"!", api.ErrForm, c.line, c.col)
	}
}

// End is behind the last byte, blanks included.
func TestEnd(t *testing.T) {
	for _, c := range []struct {
		after     string
		line, col int
	}{
		{"", 1, 2}, {" ", 1, 3}, {"\n", 2, 1}, {"\n ", 2, 2}, {"\r", 1, 3}, {"#", 1, 3}, {"# éé", 1, 8}, {"#\n\n", 3, 1}, {"\n# x", 2, 4},
	} {
		splits(t, "x"+c.after, lex.Token{lex.Name, "x", 1, 1}, lex.Token{lex.End, "", c.line, c.col})
	}
}

// Only the four blanks, letters without accents, the ten digits and the signs are
// known; a column counts bytes.
func TestInvalidBytes(t *testing.T) {
	for _, s := range []string{
		"!", "\"", "$", "&", "'", ".", "?", "@", "[", "\\", "]", "^", "`", "~", "&x", "& &", "[x", "[ ]", "[[]",
		"\x00", "\x01", "\v", "\f", "\x1f", "\x7f", "\x80", "\xa0", "\xff", "é", "α", "١", "−", "\u00a0", "\u2028", "\ufeff",
	} {
		fails(t, s, api.ErrForm, 1, 1)
		fails(t, "a "+s, api.ErrForm, 1, 3)
		fails(t, "a"+s, api.ErrForm, 1, 2)
		fails(t, "\n (7"+s+" b", api.ErrForm, 2, 4)
		fails(t, "# é\né"+s, api.ErrForm, 2, 1)
	}
	fails(t, "a\n [ 1", api.ErrForm, 2, 2)
	fails(t, "[]]", api.ErrForm, 1, 3)
	fails(t, "&&&", api.ErrForm, 1, 3)
	fails(t, "x\xc3\xa9", api.ErrForm, 1, 2)
}

func TestLongNames(t *testing.T) {
	for _, name := range []string{
		strings.Repeat("a", 41), strings.Repeat("_", 41), "a" + strings.Repeat("0", 40), strings.Repeat("let", 14), strings.Repeat("Z", 20000),
	} {
		fails(t, name, api.ErrLong, 1, 1)
	}
	long := strings.Repeat("n", 41)
	fails(t, "\n f("+long+")", api.ErrLong, 2, 4)
	fails(t, "1"+long, api.ErrLong, 1, 2)
	// A byte that no name has ends it.
	fails(t, strings.Repeat("n", 40)+"é", api.ErrForm, 1, 41)
}

func TestInvalidNumbers(t *testing.T) {
	for _, number := range []string{"00", "01", "09", "000", "0123456789", "0" + strings.Repeat("1", 299), "0" + strings.Repeat("1", 300), strings.Repeat("0", 301), strings.Repeat("0", 20000)} {
		fails(t, number, api.ErrForm, 1, 1)
		fails(t, "x = "+number[:2], api.ErrForm, 1, 5)
	}
	for _, number := range []string{strings.Repeat("9", 301), "1" + strings.Repeat("0", 300), strings.Repeat("1", 20000)} {
		fails(t, number, api.ErrLong, 1, 1)
	}
	fails(t, "1 01", api.ErrForm, 1, 3)
	fails(t, "1-01", api.ErrForm, 1, 3)
	fails(t, "\n-"+strings.Repeat("1", 301), api.ErrLong, 2, 2)
	fails(t, "00a", api.ErrForm, 1, 1)
}

// The first invalid token counts, whatever its error.
func TestFirstError(t *testing.T) {
	name, number := strings.Repeat("n", 41), strings.Repeat("1", 301)
	fails(t, "! "+name+" 00 "+number, api.ErrForm, 1, 1)
	fails(t, name+" ! 00 "+number, api.ErrLong, 1, 1)
	fails(t, "00\n"+name, api.ErrForm, 1, 1)
	fails(t, number+"\n!", api.ErrLong, 1, 1)
	fails(t, "x\n"+number+" 00 "+name, api.ErrLong, 2, 1)
}

func TestLongSources(t *testing.T) {
	for _, s := range []string{
		strings.Repeat(" ", 20001), strings.Repeat("\n", 20001), "#" + strings.Repeat("é", 10000), "!" + strings.Repeat(" ", 20000),
		strings.Repeat("(", 20001), strings.Repeat("\x00", 20001), strings.Repeat("a ", 1000000),
	} {
		fails(t, s, api.ErrLong, 1, 1)
	}
	splits(t, strings.Repeat(" ", 20000), lex.Token{lex.End, "", 1, 20001})
	splits(t, strings.Repeat("\n", 20000), lex.Token{lex.End, "", 20001, 1})
	fails(t, strings.Repeat("\n", 19999)+"!", api.ErrForm, 20000, 1)
	agrees(t, strings.Repeat("(", 20000))
	agrees(t, strings.Repeat("x1 ", 6666)+"<>")
}

// Errors are found as DOC.md says.
func TestErrorsAreWrapped(t *testing.T) {
	_, err := lex.Lex("a\n  [ 1")
	var at *api.At
	if !errors.As(err, &at) || at.Line != 2 || at.Col != 3 {
		t.Errorf("errors.As: %v", err)
	}
	if !errors.Is(err, api.ErrForm) || errors.Is(err, api.ErrLong) {
		t.Errorf("errors.Is: %v", err)
	}
}

func TestAgainstTheRules(t *testing.T) {
	agrees(t, "")
	for a := range 256 {
		agrees(t, string([]byte{byte(a)}))
		for b := range 256 {
			agrees(t, string([]byte{byte(a), byte(b)}))
		}
	}
	const bytes = "a_v0 1\n#:->&|[]<=(+!\x00\xff"
	for i := range len(bytes) * len(bytes) * len(bytes) * len(bytes) {
		n := len(bytes)
		agrees(t, string([]byte{bytes[i%n], bytes[i/n%n], bytes[i/n/n%n], bytes[i/n/n/n]}))
	}
	samples(t, func(s string) { agrees(t, s) })
}
