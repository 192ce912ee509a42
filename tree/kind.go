package tree

// A Kind says what an expression is.
type Kind int

// The kinds, by what they have beside their position.
const (
	// The field Num.
	Num Kind = iota
	// Nothing, but a Var has its Name.
	True
	False
	Var
	Nil
	// An operand.
	Neg
	Not
	Len
	Hd
	Tl
	// A left and a right operand.
	Add
	Sub
	Mul
	Div
	Mod
	Eq
	Ne
	Lt
	Le
	Gt
	Ge
	And
	Or
	Cons
	// The function's Name, and its arguments.
	Call
	// The condition, the result if it holds, and the result if it doesn't.
	If
	// Name, its value, and the rest.
	Let
	// The list, the result if it is empty, and the result if it is Name :: Other.
	Match
	// The condition, and the rest.
	Assert
)

// What Arity returns if it isn't a number of Kids.
const (
	anyNumber = -1
	missing   = -2
)

// arities are the numbers of Kids, by Kind.
var arities = [...]int{
	Num: 0, True: 0, False: 0, Var: 0, Nil: 0,
	Neg: 1, Not: 1, Len: 1, Hd: 1, Tl: 1,
	Add: 2, Sub: 2, Mul: 2, Div: 2, Mod: 2,
	Eq: 2, Ne: 2, Lt: 2, Le: 2, Gt: 2, Ge: 2,
	And: 2, Or: 2, Cons: 2,
	Call: anyNumber,
	If:   3, Let: 2, Match: 3, Assert: 2,
}

// Arity returns the number of Kids that k has: -1 if any number, and -2 if there is
// no such Kind.
func Arity(k Kind) int {
	if k < 0 || int(k) >= len(arities) {
		return missing
	}
	return arities[k]
}

// levels are how closely a text holds together, by Kind: within a place that requires
// a higher level, it is enclosed in parentheses.
var levels = [...]int{
	If: 0, Let: 0, Match: 0, Assert: 0,
	Or:  1,
	And: 2,
	Eq:  3, Ne: 3, Lt: 3, Le: 3, Gt: 3, Ge: 3,
	Cons: 4,
	Add:  5, Sub: 5,
	Mul: 6, Div: 6, Mod: 6,
	Neg: 7, Not: 7, Len: 7, Hd: 7, Tl: 7,
	Num: 8, True: 8, False: 8, Var: 8, Nil: 8, Call: 8,
}

// operandLevels returns the levels that the left and the right operand of a binary
// operator of that level require.
func operandLevels(level int) (left, right int) {
	switch level {
	case levels[Eq]: // associates to no side
		return level + 1, level + 1
	case levels[Cons]: // associates to the right
		return level + 1, level
	}
	return level, level + 1
}

// signs are what stands for a Kind in a text, with the blank that follows a word
// before its operand.
var signs = [...]string{
	True: "true", False: "false", Nil: "[]",
	Neg: "-", Not: "not ", Len: "len ", Hd: "hd ", Tl: "tl ",
	Add: "+", Sub: "-", Mul: "*", Div: "/", Mod: "%",
	Eq: "=", Ne: "<>", Lt: "<", Le: "<=", Gt: ">", Ge: ">=",
	And: "&&", Or: "||", Cons: "::",
}
