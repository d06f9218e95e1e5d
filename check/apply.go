package check

import (
	"rushlight/api"
	"rushlight/word"
)

// Apply is what a function makes of two words; those of one word look at a only.
func Apply(fn int, a, b uint32) (uint32, api.Errno) {
	switch fn {
	case api.FnAdd:
		return word.Add(a, b), api.OK
	case api.FnSub:
		return word.Sub(a, b), api.OK
	case api.FnMul:
		return word.Mul(a, b), api.OK
	case api.FnDiv, api.FnRem:
		return divide(fn, a, b)
	case api.FnAnd:
		return a & b, api.OK
	case api.FnOr:
		return a | b, api.OK
	case api.FnXor:
		return a ^ b, api.OK
	case api.FnShl:
		return word.Left(a, b), api.OK
	case api.FnShr:
		return word.RightS(a, b), api.OK
	case api.FnEq, api.FnNe, api.FnLt, api.FnGt, api.FnLe, api.FnGe:
		return truth(compare(fn, a, b)), api.OK
	case api.FnNeg:
		return word.Sub(0, a), api.OK
	case api.FnNot:
		return ^a, api.OK
	case api.FnZero:
		return truth(a == 0), api.OK
	}
	return 0, api.ErrArg
}

// divide is the quotient or the remainder.
func divide(fn int, a, b uint32) (uint32, api.Errno) {
	switch {
	case b == 0:
		return 0, api.ErrZero
	case fn == api.FnDiv:
		return word.Div(a, b), api.OK
	}
	return word.Rem(a, b), api.OK
}

// compare reports whether a comparison holds.
func compare(fn int, a, b uint32) bool {
	switch fn {
	case api.FnEq:
		return a == b
	case api.FnNe:
		return a != b
	case api.FnLt:
		return word.Less(a, b) != 0
	case api.FnGt:
		return word.Less(b, a) != 0
	case api.FnLe:
		return word.Less(b, a) == 0
	}
	return word.Less(a, b) == 0
}

// truth is 1 if something holds.
func truth(holds bool) uint32 {
	if holds {
		return 1
	}
	return 0
}
