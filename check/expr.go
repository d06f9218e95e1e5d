package check

import (
	"rushlight/api"
	"rushlight/kind"
)

// value is an expression as a value.
func (c *checker) value(x api.Expr) value { return c.read(c.expr(x)) }

// kid is operand k of an expression. Of a tree that no text has it may not be there.
func kid(x api.Expr, k int) api.Expr {
	if k >= len(x.Kids) {
		return api.Expr{Pos: x.Pos}
	}
	return x.Kids[k]
}

// expr is an expression, as an lvalue if it is one.
func (c *checker) expr(x api.Expr) value {
	switch x.Kind {
	case api.ExNum:
		return value{Term: constant(x.Num), pos: x.Pos, kind: kind.Int, null: x.Num == 0}
	case api.ExName:
		return c.name(x)
	case api.ExUnary:
		return c.unary(x)
	case api.ExBinary:
		return c.binary(x)
	case api.ExAssign:
		return c.assign(x)
	case api.ExCond:
		return c.cond(x)
	case api.ExCall:
		return c.call(x)
	case api.ExIndex:
		return c.element(x)
	case api.ExMember:
		return c.member(x)
	case api.ExPre, api.ExPost:
		return c.step(x)
	case api.ExSize:
		return c.size(x)
	}
	fail(x.Pos, api.ErrForm) // no tree that was read has such a kind
	return value{}
}

// name is a variable.
func (c *checker) name(x api.Expr) value {
	v, found := c.find(x.Name)
	require(found && !v.function, x.Pos, api.ErrNone)
	t := api.Term{Kind: api.TmAddr, Var: v.number, Global: v.global, Ptr: true}
	return value{Term: t, pos: x.Pos, kind: v.kind, place: true, variable: true}
}

// size is the number of bytes of a type.
func (c *checker) size(x api.Expr) value {
	n, e := c.typeNamed(x.Type)
	must(x.Pos, e)
	require(c.kinds.Size(n) > 0, x.Pos, api.ErrType)
	return value{Term: constant(uint32(c.kinds.Size(n))), pos: x.Pos, kind: kind.Int}
}

// call is a call of a function, or of out or in.
func (c *checker) call(x api.Expr) value {
	v := value{pos: x.Pos, kind: kind.Int}
	switch x.Name {
	case "in":
		v.Kind = api.TmIn
		return v
	case "out":
		v.Kind, v.kind = api.TmOut, kind.Void
		v.Kids = []api.Term{c.number(kid(x, 0))}
		return v
	}
	f, found := c.find(x.Name)
	require(found && f.function, x.Pos, api.ErrNone)
	var args []value
	for _, a := range x.Kids {
		args = append(args, c.value(a))
	}
	require(len(args) == len(f.params), x.Pos, api.ErrType)
	v.Term = c.ofType(api.Term{Kind: api.TmCall, Var: f.number}, f.kind)
	v.kind = loaded(f.kind)
	for k, a := range args {
		v.Kids = append(v.Kids, c.pass(a, f.params[k]))
	}
	return v
}

// member is a field of a struct.
func (c *checker) member(x api.Expr) value {
	v := c.expr(kid(x, 0))
	n := v.kind
	if x.Op == "->" {
		v = c.read(v)
		n = c.needPointee(v)
	}
	f, e := c.kinds.Field(n, x.Name)
	require(e != api.ErrType, v.pos, e) // no struct; whatever is one is an lvalue
	must(x.Pos, e)
	return value{Term: field(v.Term, f.At, c.kinds.Size(f.Type)), pos: x.Pos, kind: f.Type, place: true}
}

// element is an element of an array, or of what a pointer points to.
func (c *checker) element(x api.Expr) value {
	a, i := c.value(kid(x, 0)), c.value(kid(x, 1))
	n := c.needPointee(a)
	c.needInt(i)
	return value{Term: index(a.Term, i.Term, c.kinds.Size(n)), pos: x.Pos, kind: n, place: true}
}
