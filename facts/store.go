package facts

import (
	"strconv"

	"litmus/api"
	"litmus/logic"
)

// An id is the number under which a form is stored.
type id int

// A store has forms, together with all parts of them, each one once.
type store struct {
	ids   map[string]id // by the texts of the forms
	nodes []node        // by their ids
}

// A node is a form in a store, and the ids of its Kids.
type node struct {
	form   logic.Form
	kids   []id
	listed bool
}

// newStore returns an empty store.
func newStore() *store {
	return &store{ids: map[string]id{}}
}

// add stores f and all parts of it, and returns its id.
func (s *store) add(f logic.Form) id {
	kids := make([]id, len(f.Kids))
	for i, kid := range f.Kids {
		kids[i] = s.add(kid)
	}
	return s.put(f, kids)
}

// of stores the form of an Op that has neither Num nor Name, with these Kids, and returns
// its id.
func (s *store) of(op logic.Op, kids ...id) id {
	return s.put(logic.Form{Op: op, Kids: s.forms(kids)}, kids)
}

// put stores f, whose Kids are stored, and returns its id.
func (s *store) put(f logic.Form, kids []id) id {
	text := s.text(f, kids)
	i, ok := s.ids[text]
	if !ok {
		i = id(len(s.nodes))
		s.ids[text] = i
		s.nodes = append(s.nodes, node{form: f, kids: kids})
	}
	return i
}

// text returns a text that no other form has: the one of layer 10, but with names made of
// their ids in place of the Kids. So all texts are short; otherwise those of the parts of
// a deeply nested form would take up the square of its size.
func (s *store) text(f logic.Form, kids []id) string {
	f.Kids = make([]logic.Form, len(kids))
	for i, kid := range kids {
		f.Kids[i] = logic.Var(strconv.Itoa(int(kid)), s.sort(kid))
	}
	return logic.Text(f)
}

// sort returns the sort of a stored form.
func (s *store) sort(i id) api.Base {
	return logic.Sort(s.nodes[i].form)
}

// forms returns the forms with these ids.
func (s *store) forms(all []id) []logic.Form {
	forms := make([]logic.Form, len(all))
	for i, n := range all {
		forms[i] = s.nodes[n].form
	}
	return forms
}

// list returns the terms of these forms that it hasn't returned before.
func (s *store) list(all ...id) []id {
	var terms []id
	var visit func(i id)
	visit = func(i id) {
		n := &s.nodes[i]
		if n.listed {
			// So are all parts of it.
			return
		}
		n.listed = true
		if s.sort(i) != api.Bool {
			terms = append(terms, i)
		}
		for _, kid := range n.kids {
			visit(kid)
		}
	}
	for _, i := range all {
		visit(i)
	}
	return terms
}
