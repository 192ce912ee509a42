package tree

import "litmus/whole"

// Same reports whether a and b are equal except for positions.
func Same(a, b Expr) bool {
	return a.Kind == b.Kind && sameFields(a, b) && sameSlices(a.Kids, b.Kids, Same)
}

// SamePrograms reports whether a and b are equal except for positions.
func SamePrograms(a, b Program) bool {
	return sameSlices(a.Quals, b.Quals, sameQuals) && sameSlices(a.Funs, b.Funs, sameFuns)
}

// sameFields compares the fields that the Kind of both uses, except for Kids.
func sameFields(a, b Expr) bool {
	switch a.Kind {
	case Num:
		return whole.Cmp(a.Num, b.Num) == 0
	case Var, Call, Let:
		return a.Name == b.Name
	case Match:
		return a.Name == b.Name && a.Other == b.Other
	}
	return true
}

func sameQuals(a, b Qual) bool {
	return a.Name == b.Name && sameSlices(a.Params, b.Params, sameParams) && Same(a.Body, b.Body)
}

func sameFuns(a, b Fun) bool {
	return a.Name == b.Name && sameSlices(a.Params, b.Params, sameParams) &&
		sameParams(a.Result, b.Result) && Same(a.Body, b.Body)
}

func sameParams(a, b Param) bool {
	return a.Name == b.Name && a.Base == b.Base && a.Known == b.Known &&
		(!a.Known || Same(a.Ref, b.Ref))
}

// sameSlices reports whether a and b have the same length, and the same elements in
// the same order.
func sameSlices[T any](a, b []T, same func(a, b T) bool) bool {
	if len(a) != len(b) {
		return false
	}
	for i := range a {
		if !same(a[i], b[i]) {
			return false
		}
	}
	return true
}
