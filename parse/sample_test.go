package parse_test

import (
	"math/rand"
	"reflect"
	"strconv"
	"strings"
	"testing"

	"litmus/api"
	"litmus/lex"
	"litmus/tree"
	"litmus/whole"
)

// A form is how a Kind is written: its tokens, where <16> is the second kid, which has
// at least the level 6, N the Name, O the Other and D the digits of Num. What a form
// makes has its level. Its position is that of the first token that isn't in a kid.
type form struct {
	name   string
	level  int
	tokens string
}

// forms are the chapter's grammar, by Kind.
var forms = map[tree.Kind]form{
	tree.Num: {"Num", 8, "D"}, tree.True: {"True", 8, "true"}, tree.False: {"False", 8, "false"},
	tree.Var: {"Var", 8, "N"}, tree.Nil: {"Nil", 8, "[]"},
	tree.Neg: {"Neg", 7, "- <07>"}, tree.Not: {"Not", 7, "not <07>"}, tree.Len: {"Len", 7, "len <07>"},
	tree.Hd: {"Hd", 7, "hd <07>"}, tree.Tl: {"Tl", 7, "tl <07>"},
	tree.Add: {"Add", 5, "<05> + <16>"}, tree.Sub: {"Sub", 5, "<05> - <16>"},
	tree.Mul: {"Mul", 6, "<06> * <17>"}, tree.Div: {"Div", 6, "<06> / <17>"}, tree.Mod: {"Mod", 6, "<06> % <17>"},
	tree.Eq: {"Eq", 3, "<04> = <14>"}, tree.Ne: {"Ne", 3, "<04> <> <14>"}, tree.Lt: {"Lt", 3, "<04> < <14>"},
	tree.Le: {"Le", 3, "<04> <= <14>"}, tree.Gt: {"Gt", 3, "<04> > <14>"}, tree.Ge: {"Ge", 3, "<04> >= <14>"},
	tree.And: {"And", 2, "<02> && <13>"}, tree.Or: {"Or", 1, "<01> || <12>"}, tree.Cons: {"Cons", 4, "<05> :: <14>"},
	tree.Call:   {"Call", 8, ""}, // see formOf
	tree.If:     {"If", 0, "if <00> then <10> else <20>"},
	tree.Let:    {"Let", 0, "let N = <00> in <10>"},
	tree.Match:  {"Match", 0, "match <00> with [] -> <10> | N :: O -> <20>"},
	tree.Assert: {"Assert", 0, "assert <00> ; <10>"},
}

// lastKind is the greatest Kind.
const lastKind = tree.Assert

// formOf returns the form of e; that of a Call has as many arguments as e.
func formOf(e tree.Expr) form {
	f := forms[e.Kind]
	if e.Kind == tree.Call {
		var args []string
		for i := range e.Kids {
			args = append(args, "<"+strconv.Itoa(i)+"0>")
		}
		f.tokens = "N ( " + strings.Join(args, " , ") + " )"
	}
	return f
}

// isKid reports whether a token of a form stands for a kid.
func isKid(token string) bool { return len(token) == 4 && token[0] == '<' }

// arity returns the number of kids of each Kind but Call.
func arity(k tree.Kind) int {
	n := 0
	for _, token := range strings.Fields(forms[k].tokens) {
		if isKid(token) {
			n++
		}
	}
	return n
}

// A maker makes random trees.
type maker struct {
	*rand.Rand
}

// pick returns one of all.
func pick[T any](m maker, all ...T) T { return all[m.Intn(len(all))] }

// name returns a NAME, which may be one that occurs elsewhere.
func (m maker) name() string { return pick(m, "x", "y", "long_name", "X1", "_", "lets", "v1") }

// num returns a number of up to 300 digits.
func (m maker) num() whole.Int {
	digits := strconv.Itoa(m.Intn(3))
	if m.Intn(4) == 0 {
		digits = "7" + strings.Repeat(digits, m.Intn(300))
	}
	n, _ := whole.Parse(digits)
	return n
}

// expr returns an expression with a Depth of at most depth.
func (m maker) expr(depth int) tree.Expr {
	e := tree.Expr{Kind: tree.Kind(m.Intn(int(lastKind) + 1))}
	if depth == 1 {
		e.Kind = tree.Kind(m.Intn(int(tree.Nil) + 1))
	}
	n := arity(e.Kind)
	switch e.Kind {
	case tree.Num:
		e.Num = m.num()
	case tree.Var:
		e.Name = pick(m, "v", m.name())
	case tree.Call:
		e.Name, n = m.name(), m.Intn(5)
	case tree.Let:
		e.Name = m.name()
	case tree.Match:
		e.Name, e.Other = m.name(), m.name()
	}
	for range n {
		e.Kids = append(e.Kids, m.expr(max(1, depth-1-m.Intn(2))))
	}
	return e
}

// base returns a base type.
func (m maker) base() api.Base { return pick(m, api.Int, api.Bool, api.List) }

// refined returns p, with a refinement or without one.
func (m maker) refined(p tree.Param) tree.Param {
	if p.Known = m.Intn(2) == 0; p.Known {
		p.Ref = m.expr(3)
	}
	return p
}

// program returns a program with random Quals and Funs.
func (m maker) program() tree.Program {
	var p tree.Program
	for range m.Intn(4) {
		q := tree.Qual{Name: m.name(), Params: []tree.Param{{Name: "v", Base: m.base()}}, Body: m.expr(4)}
		for range m.Intn(api.MaxParams) {
			q.Params = append(q.Params, tree.Param{Name: m.name(), Base: m.base()})
		}
		p.Quals = append(p.Quals, q)
	}
	for range m.Intn(4) {
		f := tree.Fun{Name: m.name(), Result: m.refined(tree.Param{Name: "v", Base: m.base()}), Body: m.expr(4)}
		for range m.Intn(api.MaxParams + 1) {
			f.Params = append(f.Params, m.refined(tree.Param{Name: m.name(), Base: m.base()}))
		}
		p.Funs = append(p.Funs, f)
	}
	return p
}

// samples calls f with many expressions, always the same ones.
func samples(t *testing.T, f func(m maker, e tree.Expr)) {
	t.Helper()
	m := maker{rand.New(rand.NewSource(1))}
	for i := range 4000 {
		if e := m.expr(1 + i%6); len(tree.Text(e)) < 4000 {
			f(m, e)
		}
		if t.Failed() {
			return
		}
	}
}

// programs calls f with many programs, always the same ones.
func programs(t *testing.T, f func(m maker, p tree.Program)) {
	t.Helper()
	m := maker{rand.New(rand.NewSource(2))}
	for range 2000 {
		if p := m.program(); len(tree.Print(p)) < 4000 {
			f(m, p)
		}
		if t.Failed() {
			return
		}
	}
}

// A layout writes tokens with random blanks and needless parentheses between them, and
// counts lines and columns.
type layout struct {
	maker
	text      strings.Builder
	last      string
	line, col int
}

// put writes s.
func (l *layout) put(s string) {
	l.text.WriteString(s)
	for i := range len(s) {
		if l.col++; s[i] == '\n' {
			l.line, l.col = l.line+1, 1
		}
	}
}

// token writes a token, and returns its position.
func (l *layout) token(s string) (line, col int) {
	blanks := pick(l.maker, "", "", " ", "  ", "\n", "\t", "\r\n", "# (let é\n ")
	if both, err := lex.Lex(l.last + s); blanks == "" && (err != nil || len(both) != 3 || both[1].Text != s) {
		blanks = " "
	}
	l.put(blanks)
	line, col = l.line, l.col
	l.put(s)
	l.last = s
	return line, col
}

// tokens writes tokens, and returns the position of the first one.
func (l *layout) tokens(first string, others ...string) (line, col int) {
	line, col = l.token(first)
	for _, s := range others {
		l.token(s)
	}
	return line, col
}

// expr writes e where that level is required, and sets its positions.
func (l *layout) expr(e *tree.Expr, level int) {
	f := formOf(*e)
	if f.level < level || l.Intn(8) == 0 {
		l.token("(")
		l.expr(e, 0)
		l.token(")")
		return
	}
	placed := false
	for _, token := range strings.Fields(f.tokens) {
		if isKid(token) {
			l.expr(&e.Kids[token[1]-'0'], int(token[2]-'0'))
			continue
		}
		if s, ok := map[string]string{"N": e.Name, "O": e.Other, "D": whole.Text(e.Num)}[token]; ok {
			token = s
		}
		line, col := l.token(token)
		if !placed {
			e.Line, e.Col, placed = line, col, true
		}
	}
}

// params writes the Params of a Qual or Fun in parentheses, and sets their positions.
func (l *layout) params(all []tree.Param) {
	l.token("(")
	for i := range all {
		p := &all[i]
		if i > 0 {
			l.token(",")
		}
		p.Line, p.Col = l.tokens(p.Name, ":", baseNames[p.Base])
		l.ref(p)
	}
	l.tokens(")", ":")
}

// baseNames are the key words of base types.
var baseNames = [...]string{"int", "bool", "list"}

// ref writes the refinement of p, if it has one, and sets its positions.
func (l *layout) ref(p *tree.Param) {
	if p.Known {
		l.token("{")
		l.expr(&p.Ref, 0)
		l.token("}")
	}
}

// program writes p, with its Quals and Funs in a random order, and sets its positions.
func (l *layout) program(p *tree.Program) {
	quals, funs := p.Quals, p.Funs
	for len(quals)+len(funs) > 0 {
		if l.Intn(len(quals)+len(funs)) < len(quals) {
			q := &quals[0]
			quals = quals[1:]
			l.token("qualif")
			q.Line, q.Col = l.token(q.Name)
			l.params(q.Params)
			l.expr(&q.Body, 0)
			continue
		}
		f := &funs[0]
		funs = funs[1:]
		l.token("fun")
		f.Line, f.Col = l.token(f.Name)
		l.params(f.Params)
		f.Result.Line, f.Result.Col = l.token(baseNames[f.Result.Base])
		l.ref(&f.Result)
		l.token("=")
		l.expr(&f.Body, 0)
	}
}

// laidOut returns a source that was written by write.
func laidOut(m maker, write func(l *layout)) string {
	l := layout{maker: m, line: 1, col: 1}
	write(&l)
	l.put(pick(m, "", " ", "\n", "# end"))
	return l.text.String()
}

// dump returns all that is in e, for instance Add@1:3(Var.x@1:1 Num.7@1:5).
func dump(e tree.Expr) string {
	return dumped(e, func(line, col int) string { return "@" + place(line, col) })
}

// shape is dump without positions.
func shape(e tree.Expr) string {
	return dumped(e, func(line, col int) string { return "" })
}

// place returns a position as text.
func place(line, col int) string { return strconv.Itoa(line) + ":" + strconv.Itoa(col) }

func dumped(e tree.Expr, at func(line, col int) string) string {
	s := forms[e.Kind].name
	if e.Name != "" {
		s += "." + e.Name
	}
	if e.Other != "" {
		s += "," + e.Other
	}
	if e.Kind == tree.Num || e.Num.Neg || len(e.Num.Abs) > 0 {
		s += "." + whole.Text(e.Num)
	}
	s += at(e.Line, e.Col)
	if len(e.Kids) == 0 {
		return s
	}
	var kids []string
	for _, kid := range e.Kids {
		kids = append(kids, dumped(kid, at))
	}
	return s + "(" + strings.Join(kids, " ") + ")"
}

// dumpParam returns all that is in p, for instance x:int@1:7{True@1:14}.
func dumpParam(p tree.Param) string {
	s := p.Name + ":" + baseNames[p.Base] + "@" + place(p.Line, p.Col)
	if p.Known || !reflect.DeepEqual(p.Ref, tree.Expr{}) {
		s += "{" + dump(p.Ref) + "}"
	}
	if p.Known != strings.HasSuffix(s, "}") {
		s += " (Known is wrong)"
	}
	return s
}

// dumpProgram returns all that is in p, a line for each Qual and Fun.
func dumpProgram(p tree.Program) string {
	var s strings.Builder
	head := func(what, name string, line, col int, params []tree.Param) {
		s.WriteString(what + " " + name + "@" + place(line, col))
		for _, p := range params {
			s.WriteString(" " + dumpParam(p))
		}
	}
	for _, q := range p.Quals {
		head("qualif", q.Name, q.Line, q.Col, q.Params)
		s.WriteString(" is " + dump(q.Body) + "\n")
	}
	for _, f := range p.Funs {
		head("fun", f.Name, f.Line, f.Col, f.Params)
		s.WriteString(" to " + dumpParam(f.Result) + " is " + dump(f.Body) + "\n")
	}
	return s.String()
}
