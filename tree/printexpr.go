package tree

import "rushlight/api"

// whole adds an expression that is no operand, or none.
func (w *printer) whole(l []api.Expr) {
	for _, x := range l {
		w.expr(x)
	}
}

// expr adds an expression.
func (w *printer) expr(x api.Expr) {
	switch x.Kind {
	case api.ExNum:
		w.number(x.Num)
	case api.ExName:
		w.put(x.Name)
	case api.ExUnary, api.ExPre:
		w.put(x.Op)
		w.operand(x, 0)
	case api.ExPost:
		w.operand(x, 0)
		w.put(x.Op)
	case api.ExBinary, api.ExAssign:
		w.operand(x, 0)
		w.put(x.Op)
		w.operand(x, 1)
	case api.ExCond:
		w.operand(x, 0)
		w.put("?")
		w.operand(x, 1)
		w.put(":")
		w.operand(x, 2)
	case api.ExCall:
		w.call(x)
	case api.ExIndex:
		w.operand(x, 0)
		w.put("[")
		w.operand(x, 1)
		w.put("]")
	case api.ExMember:
		w.operand(x, 0)
		w.put(x.Op, x.Name)
	case api.ExSize:
		w.put("sizeof", "(")
		w.typeName(x.Type)
		w.put(")")
	}
}

// call adds a call. Its arguments are operands too.
func (w *printer) call(x api.Expr) {
	w.put(x.Name, "(")
	for k := range x.Kids {
		w.comma(k)
		w.operand(x, k)
	}
	w.put(")")
}

// operand adds operand k of an expression, in parentheses unless it is of a form that stands without them.
func (w *printer) operand(x api.Expr, k int) {
	if k >= len(x.Kids) {
		return
	}
	switch kid := x.Kids[k]; kid.Kind {
	case api.ExNum, api.ExName, api.ExCall, api.ExIndex, api.ExMember, api.ExSize:
		w.expr(kid)
	default:
		w.put("(")
		w.expr(kid)
		w.put(")")
	}
}
