package gen

import (
	"rushlight/api"
	"rushlight/ops"
)

// binary sets a register to a function of two others.
func binary(fn, rd, a, b int) []api.Item {
	switch fn {
	case api.FnEq:
		return []api.Item{ops.Three(api.OpSub, ops.T2, a, b), unary(api.FnZero, rd, ops.T2)}
	case api.FnNe:
		return []api.Item{ops.Three(api.OpSub, ops.T2, a, b), ops.Three(api.OpSltu, rd, ops.Zero, ops.T2)}
	case api.FnGt:
		return []api.Item{ops.Three(api.OpSlt, rd, b, a)}
	case api.FnLe:
		return []api.Item{ops.Three(api.OpSlt, ops.T2, b, a), opposite(rd, ops.T2)}
	case api.FnGe:
		return []api.Item{ops.Three(api.OpSlt, ops.T2, a, b), opposite(rd, ops.T2)}
	}
	return []api.Item{ops.Three(opOf(fn), rd, a, b)}
}

// opposite sets a register to 1 if another one, which is 0 or 1, is 0, and to 0 otherwise.
func opposite(rd, a int) api.Item { return ops.Two(api.OpXori, rd, a, 1) }

// opOf is the Op of a function that the machine has.
func opOf(fn int) int {
	switch fn {
	case api.FnAdd:
		return api.OpAdd
	case api.FnSub:
		return api.OpSub
	case api.FnMul:
		return api.OpMul
	case api.FnDiv:
		return api.OpDiv
	case api.FnRem:
		return api.OpRem
	case api.FnAnd:
		return api.OpAnd
	case api.FnOr:
		return api.OpOr
	case api.FnXor:
		return api.OpXor
	case api.FnShl:
		return api.OpSll
	case api.FnShr:
		return api.OpSra
	case api.FnLt:
		return api.OpSlt
	}
	return 0
}

// unary sets a register to a function of another one.
func unary(fn, rd, a int) api.Item {
	switch fn {
	case api.FnNeg:
		return ops.Three(api.OpSub, rd, ops.Zero, a)
	case api.FnNot:
		return ops.Two(api.OpXori, rd, a, -1)
	}
	return ops.Two(api.OpSltiu, rd, a, 1)
}
