package tree

import "litmus/api"

// Print returns the text of p: a line for each Qual, then one for each Fun.
func Print(p Program) string {
	var w writer
	for _, q := range p.Quals {
		w.qual(q)
	}
	for _, f := range p.Funs {
		w.fun(f)
	}
	return w.String()
}

// qual writes the line of a Qual.
func (w *writer) qual(q Qual) {
	w.WriteString("qualif ")
	w.head(q.Name, q.Params)
	w.valid(q.Body)
	w.WriteByte('\n')
}

// fun writes the line of a Fun.
func (w *writer) fun(f Fun) {
	w.WriteString("fun ")
	w.head(f.Name, f.Params)
	w.base(f.Result)
	w.WriteString(" = ")
	w.valid(f.Body)
	w.WriteByte('\n')
}

// head writes what Quals and Funs have in common.
func (w *writer) head(name string, params []Param) {
	w.WriteString(name)
	w.WriteByte('(')
	for i, p := range params {
		if i > 0 {
			w.WriteString(", ")
		}
		w.WriteString(p.Name)
		w.WriteString(": ")
		w.base(p)
	}
	w.WriteString("): ")
}

// base writes the base type of p, and its refinement if it has one.
func (w *writer) base(p Param) {
	switch p.Base {
	case api.Int:
		w.WriteString("int")
	case api.Bool:
		w.WriteString("bool")
	case api.List:
		w.WriteString("list")
	}
	if p.Known {
		w.WriteByte('{')
		w.valid(p.Ref)
		w.WriteByte('}')
	}
}
