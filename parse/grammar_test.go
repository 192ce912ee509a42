package parse_test

// P6.1: where the first token is that can't continue, by the chapter's grammar alone.

import (
	"errors"
	"maps"
	"math/rand"
	"slices"
	"strconv"
	"strings"
	"testing"

	"litmus/api"
	"litmus/lex"
	"litmus/parse"
	"litmus/tree"
)

// chapter is the grammar as the chapter has it, with a blank between each two signs.
const chapter = `
program = { qual | fun }
qual = "qualif" NAME "(" "v" ":" base { "," NAME ":" base } ")" ":" expr
fun = "fun" NAME "(" [ param { "," param } ] ")" ":" base [ ref ] "=" expr
param = NAME ":" base [ ref ]
base = "int" | "bool" | "list"
ref = "{" expr "}"
expr = "let" NAME "=" expr "in" expr | "if" expr "then" expr "else" expr | "match" expr "with" "[]" "->" expr "|" NAME "::" NAME "->" expr | "assert" expr ";" expr | or
or = and { "||" and }
and = comp { "&&" comp }
comp = cons [ ( "=" | "<>" | "<" | "<=" | ">" | ">=" ) cons ]
cons = sum [ "::" cons ]
sum = prod { ( "+" | "-" ) prod }
prod = one { ( "*" | "/" | "%" ) one }
one = ( "-" | "not" | "len" | "hd" | "tl" ) one | atom
atom = NUMBER | "true" | "false" | "[]" | "v" | NAME | NAME "(" [ expr { "," expr } ] ")" | "(" expr ")"
`

// A grammar has the alternatives of each symbol; other symbols are tokens.
type grammar struct {
	rules map[string][][]string
	empty map[string]bool // the symbols that may have no tokens
}

// chapterGrammar returns the grammar of the chapter, with END behind what is whole.
func chapterGrammar() *grammar {
	g := &grammar{map[string][][]string{
		"whole program": {{"program", "END"}},
		"whole expr":    {{"expr", "END"}},
	}, map[string]bool{}}
	for _, line := range strings.Split(strings.TrimSpace(chapter), "\n") {
		symbols := strings.Fields(line)
		g.rules[symbols[0]], _ = g.read(symbols[2:])
	}
	for changed := true; changed; {
		changed = false
		for symbol, all := range g.rules {
			full := func(s string) bool { return !g.empty[s] }
			if !g.empty[symbol] && slices.ContainsFunc(all, func(a []string) bool { return !slices.ContainsFunc(a, full) }) {
				g.empty[symbol], changed = true, true
			}
		}
	}
	return g
}

// read returns the alternatives up to a closing parenthesis, and what follows that.
// Each part in parentheses becomes a symbol of its own.
func (g *grammar) read(symbols []string) (all [][]string, rest []string) {
	var one []string
	for len(symbols) > 0 {
		first := symbols[0]
		symbols = symbols[1:]
		switch first {
		case "|":
			all, one = append(all, one), nil
		case ")", "]", "}":
			return append(all, one), symbols
		case "(", "[", "{":
			var inner [][]string
			inner, symbols = g.read(symbols)
			name := "part " + strconv.Itoa(len(g.rules)) + " of the grammar"
			if first == "{" {
				for i, a := range inner {
					inner[i] = append([]string{name}, a...)
				}
			}
			if first != "(" {
				inner = append(inner, nil)
			}
			g.rules[name] = inner
			one = append(one, name)
		default:
			one = append(one, first)
		}
	}
	return append(all, one), nil
}

// A state is how far an alternative of a symbol, which began at a token, has been read.
type state struct {
	symbol           string
	which, dot, from int
}

// next returns the symbol behind the dot, or nothing.
func (g *grammar) next(s state) string {
	if a := g.rules[s.symbol][s.which]; s.dot < len(a) {
		return a[s.dot]
	}
	return ""
}

// expected returns, for each number of tokens from the start, which tokens may follow
// them; up to the first token that may not. (This is Earley's algorithm.)
func (g *grammar) expected(start string, tokens []string) []map[string]bool {
	var all []map[string]bool
	var sets [][]state
	set := []state{{start, 0, 0, 0}}
	for i := 0; len(set) > 0; i++ {
		sets = append(sets, g.closed(sets, set, i))
		set = nil
		follow := map[string]bool{}
		for _, s := range sets[i] {
			symbol := g.next(s)
			if symbol == "" || g.rules[symbol] != nil {
				continue
			}
			follow[symbol] = true
			if i < len(tokens) && symbol == tokens[i] {
				s.dot++
				set = append(set, s)
			}
		}
		all = append(all, follow)
	}
	return all
}

// closed returns the states at token i with all that follow from them.
func (g *grammar) closed(earlier [][]state, set []state, i int) []state {
	seen := map[state]bool{}
	add := func(s state) {
		if !seen[s] {
			seen[s] = true
			set = append(set, s)
		}
	}
	for _, s := range set {
		seen[s] = true
	}
	for j := 0; j < len(set); j++ {
		s := set[j]
		symbol := g.next(s)
		for which := range g.rules[symbol] {
			add(state{symbol, which, 0, i})
		}
		if g.empty[symbol] {
			add(state{s.symbol, s.which, s.dot + 1, s.from})
		}
		if symbol != "" || s.from == i {
			continue
		}
		for _, outer := range earlier[s.from] {
			if g.next(outer) == s.symbol {
				outer.dot++
				add(outer)
			}
		}
	}
	return set
}

// symbolOf returns what the grammar calls a token.
func symbolOf(token lex.Token) string {
	return [...]string{"NAME", "NUMBER", strconv.Quote(token.Text), strconv.Quote(token.Text), "END"}[token.Kind]
}

// symbolsOf returns the tokens of s, and what the grammar calls them.
func symbolsOf(t *testing.T, s string) (tokens []lex.Token, symbols []string) {
	t.Helper()
	tokens, err := lex.Lex(s)
	if err != nil {
		t.Fatalf("%q: %v", s, problem(err))
	}
	for _, token := range tokens {
		symbols = append(symbols, symbolOf(token))
	}
	return tokens, symbols
}

// A reading is a call with its symbol of the grammar.
type reading struct {
	start string
	call  func(s string) error
}

// readings are both calls.
var readings = []reading{
	{"whole program", func(s string) error { _, err := parse.Parse(s); return err }},
	{"whole expr", func(s string) error { _, err := parse.Expr(s); return err }},
}

// follows fails unless the error of s is that of the first token that the grammar
// doesn't allow.
func (r reading) follows(t *testing.T, g *grammar, s string) {
	t.Helper()
	tokens, symbols := symbolsOf(t, s)
	expected := g.expected(r.start, symbols)
	err := r.call(s)
	if n := len(expected) - 1; n < len(tokens) {
		failed(t, s, err, api.ErrForm, tokens[n].Line, tokens[n].Col)
	} else if err != nil {
		t.Errorf("%q: %v, want none", s, problem(err))
	}
}

// someTokens has each token once, and some more names.
func someTokens() []string {
	return strings.Fields("x f x 1 fun qualif let in if then else match with assert not true false int bool list len hd tl v " +
		":: -> && || [] <> <= >= ( ) { } , : ; | = < > + - * / %")
}

// The grammar itself is read as it is meant: this checks the check.
func TestGrammar(t *testing.T) {
	g := chapterGrammar()
	for _, c := range []struct {
		start, s, want string
		tokens         int
	}{
		{"whole program", "fun f (", `")" NAME`, 3},
		{"whole program", "fun f ( x : int", `")" "," "{"`, 6},
		{"whole program", "fun f ( x : int ,", `NAME`, 7},
		{"whole program", "qualif Q (", `"v"`, 3},
		{"whole program", "", `"fun" "qualif" END`, 0},
		{"whole expr", "a < b", `"%" "&&" "(" "*" "+" "-" "/" "::" "||" END`, 3},
		{"whole expr", "match 1 with", `"[]"`, 3},
	} {
		_, symbols := symbolsOf(t, c.s)
		got := slices.Sorted(maps.Keys(g.expected(c.start, symbols)[c.tokens]))
		is(t, c.s, strings.Join(got, " "), c.want)
	}
}

// At each place of a program, each token either continues it or is the error.
func TestEachTokenAtEachPlace(t *testing.T) {
	g := chapterGrammar()
	for _, c := range []struct {
		r reading
		s string
	}{
		{readings[0], "qualif Q(v: int, x: bool, y: list): x <= v fun f(a: int{0 <= v}, l: list): int{v >= a} = f(a, l) fun main(): bool = true"},
		{readings[0], "fun f(x: list): int = match x with [] -> 0 | h :: t -> if h < 1 then f(t, 2) else assert not h = 0; let y = -h in y * 2"},
		{readings[1], "match x with [] -> f() | h :: t -> if h < 1 + 2 :: 3 && x || y then f(t, (2), 3) else assert not h = 0; let y = -h in len y * 2"},
		{readings[1], "(a - b) * (if a then b else c) = f(let x = 1 in x, assert hd tl []; v)"},
		{readings[1], "let x = let y = 1 in y in assert assert 1; 2; if if 1 then 2 else 3 then 4 else 5"},
	} {
		tokens, symbols := symbolsOf(t, c.s)
		expected := g.expected(c.r.start, symbols)
		if len(expected) != len(tokens)+1 {
			t.Fatalf("%q isn't in the grammar", c.s)
		}
		before := ""
		for i, token := range tokens {
			for _, other := range someTokens() {
				s := before + other
				_, symbol := symbolsOf(t, other)
				err := c.r.call(s)
				if !expected[i][symbol[0]] {
					failed(t, s, err, api.ErrForm, 1, len(before)+1)
				} else if err != nil {
					failed(t, s, err, api.ErrForm, 1, len(s)+1)
				}
			}
			if c.r.call(before) == nil != expected[i]["END"] {
				t.Errorf("%q: wrong error %v", before, c.r.call(before))
			}
			before += token.Text + " "
		}
	}
}

// mutated returns a source of tokens with some of them changed.
func mutated(m maker, tokens []lex.Token) string {
	var all []string
	for _, token := range tokens {
		all = append(all, token.Text)
	}
	for range 1 + m.Intn(2) {
		i := m.Intn(len(all))
		switch other := pick(m, someTokens()...); m.Intn(4) {
		case 0:
			all[i] = other
		case 1:
			all = slices.Insert(all, i, other)
		case 2:
			all = slices.Delete(all, i, i+1)
		case 3:
			j := m.Intn(len(all))
			all[i], all[j] = all[j], all[i]
		}
		if len(all) == 0 {
			return ""
		}
	}
	return strings.Join(all, " ")
}

func TestMutatedSources(t *testing.T) {
	g := chapterGrammar()
	try := func(m maker, r reading, s string) {
		if tokens, _ := symbolsOf(t, s); len(tokens) < 80 {
			r.follows(t, g, s)
			r.follows(t, g, mutated(m, tokens))
		}
	}
	samples(t, func(m maker, e tree.Expr) { try(m, readings[1], tree.Text(e)) })
	programs(t, func(m maker, p tree.Program) { try(m, readings[0], tree.Print(p)) })
}

func TestRandomTokens(t *testing.T) {
	g := chapterGrammar()
	m := maker{rand.New(rand.NewSource(3))}
	for i := range 30000 {
		var all []string
		for range m.Intn(9) {
			all = append(all, pick(m, someTokens()...))
		}
		readings[i%2].follows(t, g, strings.Join(all, " "))
	}
	for _, a := range someTokens() {
		for _, b := range someTokens() {
			readings[0].follows(t, g, a+" "+b)
			readings[1].follows(t, g, a+" "+b)
		}
	}
}

// Both calls have no error but a *api.At.
func TestErrorsHavePositions(t *testing.T) {
	for _, r := range readings {
		for _, token := range someTokens() {
			var at *api.At
			if err := r.call(token + " ="); !errors.As(err, &at) || at.Line != 1 {
				t.Errorf("%q: got %v", token, err)
			}
		}
	}
}
