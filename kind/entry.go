package kind

import "rushlight/api"

// firstDerived is the number of the first type that is not one of the first types.
const firstDerived = 3

// wordBytes is how many bytes an int and a pointer have.
const wordBytes = 4

// entry is a type with its layout. Later types do not change it: what has no size yet is no part of another type.
type entry struct {
	api.Type
	size  int
	align int
}

// firstTypes is the types that each table begins with.
func firstTypes() [firstDerived]entry {
	return [...]entry{
		Void: {Type: api.Type{Kind: api.TypeVoid}},
		Int:  {Type: api.Type{Kind: api.TypeInt}, size: wordBytes, align: wordBytes},
		Char: {Type: api.Type{Kind: api.TypeChar}, size: 1, align: 1},
	}
}

// pointer is the pointer to type n.
func pointer(n int) entry {
	return entry{Type: api.Type{Kind: api.TypePtr, Elem: n}, size: wordBytes, align: wordBytes}
}

// array is the array of so many of type n, which is elem.
func array(n int, elem entry, long int) entry {
	return entry{Type: api.Type{Kind: api.TypeArray, Elem: n, Len: long}, size: long * elem.size, align: elem.align}
}

// entry is the type with number n; ErrArg if there is no table, ErrNone if there is no such type.
func (t *Table) entry(n int) (entry, api.Errno) {
	switch {
	case t == nil:
		return entry{}, api.ErrArg
	case n < 0 || n >= t.Count():
		return entry{}, api.ErrNone
	case n < firstDerived:
		return firstTypes()[n], api.OK
	}
	return t.derived[n-firstDerived], api.OK
}

// construct is the number of the type that is what x, a pointer or an array, is; x is added if there is none.
func (t *Table) construct(x entry) (int, api.Errno) {
	for k, y := range t.derived {
		if y.Kind == x.Kind && y.Elem == x.Elem && y.Len == x.Len {
			return firstDerived + k, api.OK
		}
	}
	return t.add(x)
}

// add is the number that x gets as the last type; ErrFull if there is no room.
func (t *Table) add(x entry) (int, api.Errno) {
	n := t.Count()
	if n == MaxTypes {
		return 0, api.ErrFull
	}
	t.derived = append(t.derived, x)
	return n, api.OK
}

// isOpen reports whether struct n has no fields yet.
func (t *Table) isOpen(n int) bool { return len(t.derived[n-firstDerived].Fields) == 0 }
