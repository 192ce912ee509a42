package logic

import (
	"strconv"
	"strings"

	"litmus/whole"
)

// words are what stands for an Op in a text.
var words = [...]string{
	Num: "Num", IVar: "IVar", Add: "Add", Scale: "Scale", Mul: "Mul", Quo: "Quo", Len: "Len", Hd: "Hd",
	LVar: "LVar", Nil: "Nil", Cons: "Cons", Tl: "Tl",
	True: "True", False: "False", BVar: "BVar", Le: "Le", Eq: "Eq", Not: "Not", And: "And", Or: "Or", Iff: "Iff",
}

// Text returns a text that no other form has, such as Le(Add(IVar "x", Num 1), Num 3).
func Text(f Form) string {
	var w strings.Builder
	write(&w, f)
	return w.String()
}

// write writes all fields of f, also those that its Op doesn't use: by them, too, forms
// differ. A Name is quoted, so that nothing in it can be taken for what follows it.
func write(w *strings.Builder, f Form) {
	w.WriteString(word(f.Op))
	if f.Op == Num || whole.Sign(f.Num) != 0 {
		w.WriteByte(' ')
		w.WriteString(whole.Text(f.Num))
	}
	if f.Name != "" {
		w.WriteByte(' ')
		w.WriteString(strconv.Quote(f.Name))
	}
	if len(f.Kids) == 0 {
		return
	}
	for i, kid := range f.Kids {
		if i == 0 {
			w.WriteByte('(')
		} else {
			w.WriteString(", ")
		}
		write(w, kid)
	}
	w.WriteByte(')')
}

// word returns what stands for op, which may be none of the Ops.
func word(op Op) string {
	if op < 0 || int(op) >= len(words) {
		return strconv.Itoa(int(op))
	}
	return words[op]
}
