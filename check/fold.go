package check

import (
	"slices"

	"rushlight/api"
)

// Fold is the value of a term of constants only.
func Fold(t api.Term) (uint32, api.Errno) {
	// What is not evaluated must have the permitted form too, so the form is looked at ahead of all values.
	if !foldable(t) {
		return 0, api.ErrRule
	}
	return evaluate(t)
}

// foldable reports whether a term consists of constants only.
func foldable(t api.Term) bool {
	n, permitted := operands(t.Kind)
	return permitted && len(t.Kids) == n && !slices.ContainsFunc(t.Kids, func(kid api.Term) bool { return !foldable(kid) })
}

// operands is how many operands a term of a kind that consists of constants has; false for other kinds.
func operands(kind int) (int, bool) {
	switch kind {
	case api.TmConst:
		return 0, true
	case api.TmUnary, api.TmCut:
		return 1, true
	case api.TmBinary, api.TmAnd, api.TmOr:
		return 2, true
	case api.TmCond:
		return 3, true
	}
	return 0, false
}

// evaluate is the value of a foldable term.
func evaluate(t api.Term) (uint32, api.Errno) {
	if t.Kind == api.TmConst {
		return t.Num, api.OK
	}
	a, e := evaluate(t.Kids[0])
	if e != api.OK {
		return 0, e
	}
	switch t.Kind {
	case api.TmUnary:
		return Apply(t.Fn, a, 0)
	case api.TmBinary:
		b, e := evaluate(t.Kids[1])
		if e != api.OK {
			return 0, e
		}
		return Apply(t.Fn, a, b)
	case api.TmCut:
		return uint32(byte(a)), api.OK
	case api.TmCond:
		if a != 0 {
			return evaluate(t.Kids[1])
		}
		return evaluate(t.Kids[2])
	}
	return connect(t, a)
}

// connect is the value of && or ||, whose first operand has the value a.
func connect(t api.Term, a uint32) (uint32, api.Errno) {
	if decided := (a != 0) == (t.Kind == api.TmOr); decided {
		return truth(a != 0), api.OK
	}
	b, e := evaluate(t.Kids[1])
	return truth(b != 0 && e == api.OK), e
}
