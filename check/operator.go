package check

import (
	"rushlight/api"
	"rushlight/kind"
)

// function is the function of words that an operator between two operands stands for; 0 for && and ||.
func function(op string) int {
	switch op {
	case "+":
		return api.FnAdd
	case "-":
		return api.FnSub
	case "*":
		return api.FnMul
	case "/":
		return api.FnDiv
	case "%":
		return api.FnRem
	case "&":
		return api.FnAnd
	case "|":
		return api.FnOr
	case "^":
		return api.FnXor
	case "<<":
		return api.FnShl
	case ">>":
		return api.FnShr
	case "==":
		return api.FnEq
	case "!=":
		return api.FnNe
	case "<":
		return api.FnLt
	case ">":
		return api.FnGt
	case "<=":
		return api.FnLe
	case ">=":
		return api.FnGe
	}
	return 0
}

// result is a value of type n that an expression yields.
func (c *checker) result(x api.Expr, n int, t api.Term) value {
	return value{Term: c.ofType(t, n), pos: x.Pos, kind: loaded(n)}
}

// unary is an operator ahead of an operand.
func (c *checker) unary(x api.Expr) value {
	if x.Op == "&" {
		return c.address(x)
	}
	v := c.value(kid(x, 0))
	t := api.Term{Kind: api.TmUnary, Kids: []api.Term{v.Term}}
	switch x.Op {
	case "*":
		n := c.needPointee(v)
		return value{Term: v.Term, pos: x.Pos, kind: n, place: true}
	case "!":
		c.needScalar(v)
		t.Fn = api.FnZero
		return c.result(x, kind.Int, t)
	case "-":
		t.Fn = api.FnNeg
	default:
		t.Fn = api.FnNot
	}
	c.needInt(v)
	return c.result(x, kind.Int, t)
}

// address is the pointer to an lvalue.
func (c *checker) address(x api.Expr) value {
	v := c.expr(kid(x, 0))
	_, isArray := c.arrayed(v.kind)
	require(v.place && !isArray, v.pos, api.ErrType)
	n, e := c.kinds.Ptr(v.kind)
	must(x.Pos, e)
	return value{Term: v.Term, pos: x.Pos, kind: n}
}

// binary is an operator between two operands.
func (c *checker) binary(x api.Expr) value {
	a, b := c.value(kid(x, 0)), c.value(kid(x, 1))
	switch x.Op {
	case "+", "-":
		return c.sum(x, a, b)
	case "==", "!=":
		a, b, _ = c.alike(a, b, true)
	case "&&", "||":
		c.needScalar(a)
		c.needScalar(b)
		t := api.Term{Kind: api.TmAnd, Kids: []api.Term{a.Term, b.Term}}
		if x.Op == "||" {
			t.Kind = api.TmOr
		}
		return c.result(x, kind.Int, t)
	default:
		c.needInt(a)
		c.needInt(b)
	}
	return c.result(x, kind.Int, api.Term{Kind: api.TmBinary, Fn: function(x.Op), Kids: []api.Term{a.Term, b.Term}})
}

// sum is two ints, or a pointer and an int, with + or - between them.
func (c *checker) sum(x api.Expr, a, b value) value {
	c.needScalar(a)
	if x.Op == "+" && a.kind == kind.Int && c.isPtr(b.kind) {
		a, b = b, a
	}
	c.needInt(b)
	if a.kind == kind.Int {
		return c.result(x, kind.Int, api.Term{Kind: api.TmBinary, Fn: function(x.Op), Kids: []api.Term{a.Term, b.Term}})
	}
	n, _ := c.pointed(a.kind)
	t := index(a.Term, b.Term, c.kinds.Size(n))
	if x.Op == "-" {
		t.Fn = api.FnSub
	}
	return value{Term: t, pos: x.Pos, kind: a.kind}
}

// alike is two values of one type, with that type: two ints; a pointer and the null pointer; or, unless one must be null, two pointers of the same type.
func (c *checker) alike(a, b value, oneNull bool) (value, value, int) {
	c.needScalar(a)
	switch {
	case c.isPtr(a.kind) && b.null:
		b.Term = c.nothing(a.kind)
		return a, b, a.kind
	case c.isPtr(b.kind) && a.null:
		a.Term = c.nothing(b.kind)
		return a, b, b.kind
	}
	require(a.kind == b.kind && (a.kind == kind.Int || !oneNull), b.pos, api.ErrType)
	return a, b, a.kind
}

// cond is ? :.
func (c *checker) cond(x api.Expr) value {
	asked, a, b := c.value(kid(x, 0)), c.value(kid(x, 1)), c.value(kid(x, 2))
	c.needScalar(asked)
	a, b, n := c.alike(a, b, false)
	return c.result(x, n, api.Term{Kind: api.TmCond, Kids: []api.Term{asked.Term, a.Term, b.Term}})
}

// assign is = or another assignment.
func (c *checker) assign(x api.Expr) value {
	a, b := c.expr(kid(x, 0)), c.value(kid(x, 1))
	if x.Op == "=" {
		require(a.place, a.pos, api.ErrType)
		return c.result(x, a.kind, c.store(a.Term, c.fit(b, a.kind), a.kind))
	}
	c.needCell(a)
	op := x.Op[:max(0, len(x.Op)-1)]
	t := api.Term{Kind: api.TmUpdate, Fn: function(op), Size: c.kinds.Size(a.kind), Kids: []api.Term{a.Term, b.Term}}
	if n, is := c.pointed(a.kind); is {
		require(op == "+" || op == "-", a.pos, api.ErrType)
		t.Num = uint32(c.kinds.Size(n))
	}
	c.needInt(b)
	return c.result(x, a.kind, t)
}

// step is ++ or --.
func (c *checker) step(x api.Expr) value {
	v := c.expr(kid(x, 0))
	c.needCell(v)
	t := api.Term{Kind: api.TmStep, Num: 1, Size: c.kinds.Size(v.kind), Post: x.Kind == api.ExPost, Kids: []api.Term{v.Term}}
	if n, is := c.pointed(v.kind); is {
		t.Num = uint32(c.kinds.Size(n))
	}
	if x.Op == "--" {
		t.Num = -t.Num
	}
	return c.result(x, v.kind, t)
}
