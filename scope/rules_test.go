package scope_test

// P7.1: what is found in random programs, compared with the chapter's rules written as
// texts.

import (
	"slices"
	"strings"
	"testing"

	"litmus/api"
	"litmus/scope"
	"litmus/tree"
	"litmus/whole"
)

// rules are the chapter's, by Kind, as steps in order:
//
//	0        the kid with that number is checked; * checks all kids
//	=i       the type is int; =0 is that of kid 0
//	ii!      ErrType, unless the kids that were checked have these types, where a
//	         stands for any one that is the same at each a, and ? for any one
//	body!    ErrForm in a refinement
//	ref!     ErrForm in a body
//	divisor! ErrForm, unless kid 1 is a Num of at least 1
//	known!   ErrName, unless the Name is in scope; its type is that of the expression
//	fun!     ErrName, unless there is that function; its type is that of the expression
//	args!    ErrType, unless the kids fit the function
//	new!     ErrName, if the Name is in scope
//	news!    ErrName, if the Name or the Other is in scope, or both are equal
//	let      from here on the Name is in scope, of the type of kid 0
//	match    from here on the Name and the Other are in scope
var rules = map[tree.Kind]string{
	tree.Num: "=i", tree.True: "=b", tree.False: "=b", tree.Nil: "=l", tree.Var: "known!",
	tree.Neg: "0 i! =i", tree.Not: "0 b! =b", tree.Len: "0 l! =i", tree.Hd: "0 l! ref! =i", tree.Tl: "0 l! ref! =l",
	tree.Add: "0 1 ii! =i", tree.Sub: "0 1 ii! =i", tree.Mul: "0 1 ii! =i",
	tree.Div: "0 1 ii! divisor! =i", tree.Mod: "0 1 ii! divisor! =i",
	tree.Lt: "0 1 ii! =b", tree.Le: "0 1 ii! =b", tree.Gt: "0 1 ii! =b", tree.Ge: "0 1 ii! =b",
	tree.Eq: "0 1 aa! =b", tree.Ne: "0 1 aa! =b", tree.And: "0 1 bb! =b", tree.Or: "0 1 bb! =b", tree.Cons: "0 1 il! =l",
	tree.Call: "* body! fun! args!", tree.If: "0 1 2 body! baa! =1",
	tree.Let:    "0 body! new! let 1 =1",
	tree.Match:  "0 body! l! news! 1 match 2 ?aa! =1",
	tree.Assert: "0 body! b! 1 =1",
}

// lastKind is the greatest Kind.
const lastKind = tree.Assert

// A judge follows the rules, up to the first fault.
type judge struct {
	funs       []tree.Fun
	refinement bool
	seen       map[step]int // how often each step was where the fault is
}

// A step is one of a Kind's rule.
type step struct {
	kind tree.Kind
	word string
}

// expr returns the letter of the type of e and "", or the fault.
func (j judge) expr(e tree.Expr, in []tree.Param) (typ, bad string) {
	types := ""
	for _, word := range strings.Fields(rules[e.Kind]) {
		switch {
		case word == "*" || len(word) == 1:
			kids := e.Kids
			if word != "*" {
				kids = kids[word[0]-'0':][:1]
			}
			for _, kid := range kids {
				one, bad := j.expr(kid, in)
				if bad != "" {
					return "", bad
				}
				types += one
			}
		case word == "let":
			in = append(slices.Clone(in), tree.Param{Name: e.Name, Base: api.Base(strings.Index(letters, types))})
		case word == "match":
			in = append(slices.Clone(in), tree.Param{Name: e.Name, Base: api.Int}, tree.Param{Name: e.Other, Base: api.List})
		case word[0] == '=' && word[1] < 'a':
			typ = types[word[1]-'0':][:1]
		case word[0] == '=':
			typ = word[1:]
		default:
			one, err := j.demand(e, word, types, in)
			if err != 0 {
				j.seen[step{e.Kind, word}]++
				return "", fault(err, e.Line, e.Col)
			}
			typ += one
		}
	}
	return typ, ""
}

// demand returns the error of the step that is word, if it isn't met, and otherwise the
// letter of the type that follows from it, if one does.
func (j judge) demand(e tree.Expr, word, types string, in []tree.Param) (typ string, err api.Errno) {
	ok := true
	err = api.ErrName
	switch word {
	case "known!":
		typ, ok = find(in, e.Name)
	case "new!":
		_, old := find(in, e.Name)
		ok = !old
	case "news!":
		_, old := find(in, e.Name)
		_, other := find(in, e.Other)
		ok = !old && !other && e.Name != e.Other
	case "fun!":
		i := slices.IndexFunc(j.funs, func(f tree.Fun) bool { return f.Name == e.Name })
		if ok = i >= 0; ok {
			typ = letter(j.funs[i].Result.Base)
		}
	case "body!":
		ok, err = !j.refinement, api.ErrForm
	case "ref!":
		ok, err = j.refinement, api.ErrForm
	case "divisor!":
		ok, err = e.Kids[1].Kind == tree.Num && whole.Text(e.Kids[1].Num) != "0", api.ErrForm
	case "args!":
		i := slices.IndexFunc(j.funs, func(f tree.Fun) bool { return f.Name == e.Name })
		want := ""
		for _, p := range j.funs[i].Params {
			want += letter(p.Base)
		}
		ok, err = types == want, api.ErrType
	default:
		ok, err = fits(types, word[:len(word)-1]), api.ErrType
	}
	if ok {
		err = 0
	}
	return typ, err
}

// fits reports whether types are as wanted.
func fits(types, want string) bool {
	first := byte(0)
	for i := range want {
		switch {
		case want[i] == 'a' && first == 0:
			first = types[i]
		case want[i] == 'a' && types[i] != first, strings.ContainsRune(letters, rune(want[i])) && types[i] != want[i]:
			return false
		}
	}
	return true
}

// find returns the letter of the type of the last one with that name.
func find(in []tree.Param, name string) (string, bool) {
	for _, p := range slices.Backward(in) {
		if p.Name == name {
			return letter(p.Base), true
		}
	}
	return "", false
}

// ref returns the fault of e as a refinement, or none.
func (j judge) ref(e tree.Expr, in []tree.Param) string {
	j.refinement = true
	return j.typed(e, api.Bool, in)
}

// typed returns the fault of e where that type is required, or none.
func (j judge) typed(e tree.Expr, want api.Base, in []tree.Param) string {
	typ, bad := j.expr(e, in)
	if bad == "" && typ != letter(want) {
		bad = fault(api.ErrType, e.Line, e.Col)
	}
	return bad
}

// duplicate returns the fault of the name at i, or none.
func duplicate(name func(i int) string, i, line, col int) string {
	for k := range i {
		if name(k) == name(i) {
			return fault(api.ErrName, line, col)
		}
	}
	return ""
}

// program returns the first fault of p, in the chapter's order.
func (j judge) program(p tree.Program) string {
	var all []string
	note := func(bad string) {
		if bad != "" {
			all = append(all, bad)
		}
	}
	v := func(p tree.Param) tree.Param { return tree.Param{Name: "v", Base: p.Base} }
	for i, q := range p.Quals {
		note(duplicate(func(k int) string { return p.Quals[k].Name }, i, q.Line, q.Col))
		for k, param := range q.Params {
			note(duplicate(func(k int) string { return q.Params[k].Name }, k, param.Line, param.Col))
		}
		note(j.ref(q.Body, q.Params))
	}
	missing := true
	for i, f := range p.Funs {
		note(duplicate(func(k int) string { return p.Funs[k].Name }, i, f.Line, f.Col))
		missing = missing && f.Name != "main"
	}
	if missing {
		note(fault(api.ErrNone, 1, 1))
	}
	for _, f := range p.Funs {
		for k, param := range f.Params {
			note(duplicate(func(k int) string { return f.Params[k].Name }, k, param.Line, param.Col))
			if param.Known {
				note(j.ref(param.Ref, append(slices.Clone(f.Params[:k]), v(param))))
			}
		}
		if f.Result.Known {
			note(j.ref(f.Result.Ref, append(slices.Clone(f.Params), v(f.Result))))
		}
		note(j.typed(f.Body, f.Result.Base, f.Params))
	}
	return append(all, none)[0]
}

func TestSamplesFollowTheRules(t *testing.T) {
	seen := map[step]int{}
	faults := map[byte]int{}
	for _, slips := range []int{0, 3, 10, 30, 100, 300} {
		programs(t, slips, func(m *maker, p tree.Program) {
			want := judge{funs: p.Funs, seen: seen}.program(p)
			is(t, tree.Print(p), found(scope.Check(p)), want)
			faults[strings.TrimPrefix(want, "error ")[0]]++
			if slips == 0 && want != none {
				t.Errorf("%s:\nthe rules find %s", tree.Print(p), want)
			}
		})
	}
	// The samples have faults of all kinds.
	for k := range lastKind + 1 {
		for _, word := range strings.Fields(rules[k]) {
			if strings.HasSuffix(word, "!") && seen[step{k, word}] < 20 {
				t.Errorf("Kind %d: only %d faults by %s", k, seen[step{k, word}], word)
			}
		}
	}
	for _, first := range "1345n" {
		if faults[byte(first)] < 20 {
			t.Errorf("only %d first faults of %q", faults[byte(first)], first)
		}
	}
}

// Base follows the same rules, in any scope.
func TestBaseOfSamplesFollowsTheRules(t *testing.T) {
	programs(t, 20, func(m *maker, p tree.Program) {
		for _, f := range p.Funs {
			in := append(slices.Clone(f.Params), m.params(2)...)
			e := m.expr(api.Base(m.Intn(3)), 4, in)
			seen := map[step]int{}
			typ, bad := judge{funs: p.Funs, seen: seen}.expr(e, in)
			if bad == "" {
				bad = none
			} else {
				typ = letter(0)
			}
			b, err := scope.Base(e, in, p.Funs)
			is(t, tree.Text(e), found(err), bad)
			is(t, tree.Text(e), letter(b), typ)
		}
	})
}

// scribble changes the fields of e and of its parts that their Kinds don't use.
func scribble(m *maker, e *tree.Expr) {
	switch e.Kind {
	case tree.Var, tree.Call, tree.Let, tree.Match:
	default:
		e.Name = m.any()
	}
	if e.Kind != tree.Match {
		e.Other = m.any()
	}
	if e.Kind != tree.Num {
		e.Num = whole.Of(m.Intn(5) - 1)
	}
	for i := range e.Kids {
		scribble(m, &e.Kids[i])
	}
}

// What a Kind doesn't use doesn't count.
func TestUnusedFieldsOfSamples(t *testing.T) {
	programs(t, 30, func(m *maker, p tree.Program) {
		want, sites := found(scope.Check(p)), places(scope.Sites(p))
		for i := range p.Quals {
			scribble(m, &p.Quals[i].Body)
		}
		for i := range p.Funs {
			f := &p.Funs[i]
			scribble(m, &f.Body)
			scribble(m, &f.Result.Ref)
			for k := range f.Params {
				scribble(m, &f.Params[k].Ref)
			}
		}
		is(t, tree.Print(p), found(scope.Check(p)), want)
		is(t, tree.Print(p), places(scope.Sites(p)), sites)
	})
	for _, k := range []tree.Kind{tree.Div, tree.Mod} {
		e := tree.Expr{Kind: k, Kids: []tree.Expr{{Kind: tree.Num}, {Kind: tree.Var, Name: "x", Num: whole.Of(1)}}}
		_, err := scope.Base(e, []tree.Param{{Name: "x"}}, nil)
		is(t, "a divisor that isn't a Num", found(err), fault(api.ErrForm, 0, 0))
	}
}
