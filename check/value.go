package check

import (
	"rushlight/api"
	"rushlight/kind"
)

// value is an expression that was checked.
type value struct {
	api.Term         // what it yields; of an lvalue, its address
	pos      api.Pos // of the expression
	kind     int     // the type: never char, but of an lvalue
	place    bool    // an lvalue
	variable bool    // an lvalue that is a variable, all of it
	null     bool    // the literal number 0
}

// constant is a number as a term.
func constant(n uint32) api.Term { return api.Term{Kind: api.TmConst, Num: n} }

// index is the address that lies a number of parts, each of a size, behind that of a term.
func index(address, number api.Term, size int) api.Term {
	return api.Term{Kind: api.TmIndex, Size: size, Ptr: true, Kids: []api.Term{address, number}}
}

// field is the address of a part of what lies at that of a term.
func field(address api.Term, at, size int) api.Term {
	return api.Term{Kind: api.TmField, Num: uint32(at), Size: size, Ptr: true, Kids: []api.Term{address}}
}

// ofType gives a term that yields a value of type n.
func (c *checker) ofType(t api.Term, n int) api.Term {
	t.Ptr = c.isPtr(n)
	return t
}

// loaded is the type of what is read from an lvalue of type n.
func loaded(n int) int {
	if n == kind.Char {
		return kind.Int
	}
	return n
}

// read is what an expression yields as a value. What has none, a struct or the call of a void function, stays what it is: no type is required that it would have.
func (c *checker) read(v value) value {
	if !v.place {
		return v
	}
	if elem, isArray := c.arrayed(v.kind); isArray {
		n, e := c.kinds.Ptr(elem)
		must(v.pos, e)
		if !v.variable {
			v.Term = field(v.Term, 0, c.kinds.Size(v.kind))
		}
		return value{Term: v.Term, pos: v.pos, kind: n}
	}
	if !c.kinds.Scalar(v.kind) {
		return v
	}
	t := api.Term{Kind: api.TmLoad, Size: c.kinds.Size(v.kind), Kids: []api.Term{v.Term}}
	return value{Term: c.ofType(t, v.kind), pos: v.pos, kind: loaded(v.kind)}
}

// needInt reports a value that is no int.
func (c *checker) needInt(v value) { require(v.kind == kind.Int, v.pos, api.ErrType) }

// needScalar reports a value that is neither an int nor a pointer.
func (c *checker) needScalar(v value) {
	require(v.kind == kind.Int || c.isPtr(v.kind), v.pos, api.ErrType)
}

// needPointee reports a value that is no pointer, or one to void; it is the type that is pointed to.
func (c *checker) needPointee(v value) int {
	n, is := c.pointed(v.kind)
	require(is && n != kind.Void, v.pos, api.ErrType)
	return n
}

// needCell reports an expression that is no lvalue of an int, char or pointer.
func (c *checker) needCell(v value) {
	require(v.place && c.kinds.Scalar(v.kind), v.pos, api.ErrType)
}

// fit is a value where one of type n is required.
func (c *checker) fit(v value, n int) api.Term {
	switch {
	case !c.kinds.Scalar(n):
		fail(v.pos, api.ErrType)
	case !c.isPtr(n):
		c.needInt(v)
	case v.null:
		return c.nothing(n)
	default:
		require(v.kind == n, v.pos, api.ErrType)
	}
	return v.Term
}

// pass is a value that is passed or returned where one of type n is required.
func (c *checker) pass(v value, n int) api.Term {
	t := c.fit(v, n)
	if n == kind.Char {
		return api.Term{Kind: api.TmCut, Kids: []api.Term{t}}
	}
	return t
}

// store is the act of putting a value into what lies at an address and has type n.
func (c *checker) store(address, v api.Term, n int) api.Term {
	return c.ofType(api.Term{Kind: api.TmStore, Size: c.kinds.Size(n), Kids: []api.Term{address, v}}, n)
}
