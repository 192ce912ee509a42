package parse

import "litmus/tree"

// An operator is a binary one: its expressions are of that level, with operands of at
// least the levels left and right.
type operator struct {
	sign               string
	kind               tree.Kind
	level, left, right int
}

// Levels are numbered as in layer 5's chapter.
const (
	anyLevel     = 1 // of all binary operators
	operandLevel = 7 // of what no binary operator makes
)

// operators are the binary ones.
var operators = [...]operator{
	{"||", tree.Or, 1, 1, 2},
	{"&&", tree.And, 2, 2, 3},
	{"=", tree.Eq, 3, 4, 4},
	{"<>", tree.Ne, 3, 4, 4},
	{"<", tree.Lt, 3, 4, 4},
	{"<=", tree.Le, 3, 4, 4},
	{">", tree.Gt, 3, 4, 4},
	{">=", tree.Ge, 3, 4, 4},
	{"::", tree.Cons, 4, 5, 4},
	{"+", tree.Add, 5, 5, 6},
	{"-", tree.Sub, 5, 5, 6},
	{"*", tree.Mul, 6, 6, 7},
	{"/", tree.Div, 6, 6, 7},
	{"%", tree.Mod, 6, 6, 7},
}

// binaryOperator returns the operator with that sign, if it is one.
func binaryOperator(sign string) (operator, bool) {
	for _, op := range operators {
		if op.sign == sign {
			return op, true
		}
	}
	return operator{}, false
}

// unaryOperator returns the kind of that sign or key word, if it stands before an
// operand.
func unaryOperator(text string) (tree.Kind, bool) {
	switch text {
	case "-":
		return tree.Neg, true
	case "not":
		return tree.Not, true
	case "len":
		return tree.Len, true
	case "hd":
		return tree.Hd, true
	case "tl":
		return tree.Tl, true
	}
	return 0, false
}
