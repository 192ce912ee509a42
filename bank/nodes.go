package bank

import (
	"strconv"

	"litmus/api"
	"litmus/logic"
	"litmus/whole"
)

// Int returns the sum of an int term, whose nodes it creates.
func (b *Bank) Int(f logic.Form) Lin {
	if !b.takes(f, api.Int) {
		return Lin{}
	}
	return b.sum(f)
}

// List returns the node of a list term, which it creates with those of its parts.
func (b *Bank) List(f logic.Form) int {
	if !b.takes(f, api.List) {
		return 0
	}
	return b.node(f)
}

// Node returns the node of a sum over nodes of b: one of them, or its Def.
func (b *Bank) Node(l Lin) int {
	if !b.has(l) {
		return 0
	}
	return b.def(l.tidy())
}

// def returns the node of a sum in memory of its own, with numbers in canonical form.
func (b *Bank) def(l Lin) int {
	if n, ok := l.single(); ok {
		return n
	}
	return b.put(Node{Op: Def, Lin: l})
}

// takes reports whether f is a valid term of that sort. The chapter says nothing about other
// forms.
func (b *Bank) takes(f logic.Form, sort api.Base) bool {
	return b != nil && logic.Right(f) && logic.Sort(f) == sort
}

// has reports whether l is a sum of int nodes of b. The chapter says nothing about other
// ones; with them, there would be nodes without terms.
func (b *Bank) has(l Lin) bool {
	if b == nil {
		return false
	}
	for _, n := range l.Nodes {
		if n < 0 || n >= len(b.Nodes) || b.Nodes[n].IsList() {
			return false
		}
	}
	return true
}

// sum returns the sum of an int.
func (b *Bank) sum(f logic.Form) Lin {
	t := newTally()
	b.count(f, whole.Of(1), t)
	return t.lin()
}

// count adds the sum of an int to t, k times. Its nodes are created even if k is 0.
func (b *Bank) count(f logic.Form, k whole.Int, t *tally) {
	switch f.Op {
	case logic.Num:
		t.number(f.Num, k)
	case logic.Add:
		b.count(f.Kids[0], k, t)
		b.count(f.Kids[1], k, t)
	case logic.Scale:
		b.count(f.Kids[0], whole.Mul(k, f.Num), t)
	default:
		t.node(b.node(f), k)
	}
}

// nodeOps are the Ops of nodes, by those of terms that aren't sums.
var nodeOps = [...]Op{
	logic.IVar: IVar, logic.Mul: Mul, logic.Quo: Quo, logic.Len: Len, logic.Hd: Hd,
	logic.LVar: LVar, logic.Nil: Nil, logic.Cons: Cons, logic.Tl: Tl,
}

// node returns the node of a term that isn't a sum.
func (b *Bank) node(f logic.Form) int {
	n := Node{Op: nodeOps[f.Op]}
	// Other Ops may have a Name and a Num, too, which don't count.
	switch f.Op {
	case logic.IVar, logic.LVar:
		n.Name = f.Name
	case logic.Quo:
		n.Num = cloned(f.Num)
	}
	for _, kid := range f.Kids {
		n.Args = append(n.Args, b.arg(kid))
	}
	return b.put(n)
}

// arg returns the node of any term.
func (b *Bank) arg(f logic.Form) int {
	if logic.Sort(f) == api.List {
		return b.node(f)
	}
	return b.def(b.sum(f))
}

// put returns the number of the node n, which it creates unless there is one.
func (b *Bank) put(n Node) int {
	text := n.text()
	if i, ok := b.ids[text]; ok {
		return i
	}
	if b.ids == nil {
		b.ids = map[string]int{}
	}
	i := len(b.Nodes)
	b.ids[text] = i
	b.Nodes = append(b.Nodes, n)
	b.forms = append(b.forms, b.form(n))
	return i
}

// text returns a text that no other node has: as a Name may be any text, it is at the end.
func (n Node) text() string {
	s := strconv.Itoa(int(n.Op)) + ":" + whole.Text(n.Num)
	for _, arg := range n.Args {
		s += "," + strconv.Itoa(arg)
	}
	return s + ":" + Text(n.Lin) + ":" + n.Name
}
