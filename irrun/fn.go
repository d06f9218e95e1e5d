package irrun

import (
	"rushlight/api"
	"rushlight/word"
)

// Fn is a function of two words, or of a alone; 0 if there is no such function.
func Fn(fn int, a, b uint32) uint32 {
	switch fn {
	case api.FnAdd:
		return word.Add(a, b)
	case api.FnSub:
		return word.Sub(a, b)
	case api.FnMul:
		return word.Mul(a, b)
	case api.FnDiv:
		return word.Div(a, b)
	case api.FnRem:
		return word.Rem(a, b)
	case api.FnAnd:
		return a & b
	case api.FnOr:
		return a | b
	case api.FnXor:
		return a ^ b
	case api.FnShl:
		return word.Left(a, b)
	case api.FnShr:
		return word.RightS(a, b)
	case api.FnEq:
		return truth(a == b)
	case api.FnNe:
		return truth(a != b)
	case api.FnLt:
		return word.Less(a, b)
	case api.FnGt:
		return word.Less(b, a)
	case api.FnLe:
		return 1 - word.Less(b, a)
	case api.FnGe:
		return 1 - word.Less(a, b)
	case api.FnNeg:
		return word.Sub(0, a)
	case api.FnNot:
		return ^a
	case api.FnZero:
		return truth(a == 0)
	}
	return 0
}

// truth is 1 if something holds.
func truth(holds bool) uint32 {
	if holds {
		return 1
	}
	return 0
}
