package check

import (
	"rushlight/api"
	"rushlight/kind"
)

// typeNamed is the type that a type name denotes.
func (c *checker) typeNamed(t api.TypeName) (n int, e api.Errno) {
	switch t.Word {
	case "int":
		n = kind.Int
	case "char":
		n = kind.Char
	case "void":
		n = kind.Void
	default:
		n, e = c.kinds.Find(t.Name)
	}
	for k := 0; k < t.Stars && e == api.OK; k++ {
		n, e = c.kinds.Ptr(n)
	}
	return n, e
}

// typeOf is the type of a variable or field.
func (c *checker) typeOf(v api.Var) (int, api.Errno) {
	n, e := c.typeNamed(v.Type)
	for k := len(v.Dims) - 1; k >= 0 && e == api.OK; k-- { // the first dimension is the outermost
		n, e = c.kinds.Array(n, int(v.Dims[k]))
	}
	return n, e
}

// sizedType is typeOf, with ErrType for a type without a size.
func (c *checker) sizedType(v api.Var) (int, api.Errno) {
	n, e := c.typeOf(v)
	if e == api.OK && c.kinds.Size(n) == 0 {
		e = api.ErrType
	}
	return n, e
}

// scalarType is the type of a parameter, with ErrType if it is not int, char or a pointer.
func (c *checker) scalarType(v api.Var) (int, api.Errno) {
	n, e := c.typeOf(v)
	if e == api.OK && !c.kinds.Scalar(n) {
		e = api.ErrType
	}
	return n, e
}

// returnType is the type of a function, with ErrType if it is not void, int, char or a pointer.
func (c *checker) returnType(t api.TypeName) (int, api.Errno) {
	n, e := c.typeNamed(t)
	if e == api.OK && n != kind.Void && !c.kinds.Scalar(n) {
		e = api.ErrType
	}
	return n, e
}

// pointed is the type that a pointer points to; false for other types.
func (c *checker) pointed(n int) (int, bool) {
	t, _ := c.kinds.Type(n)
	return t.Elem, t.Kind == api.TypePtr
}

// arrayed is the type that an array consists of; false for other types.
func (c *checker) arrayed(n int) (int, bool) {
	t, _ := c.kinds.Type(n)
	return t.Elem, t.Kind == api.TypeArray
}

// isPtr reports whether a type is a pointer.
func (c *checker) isPtr(n int) bool {
	_, is := c.pointed(n)
	return is
}
