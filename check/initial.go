package check

import "rushlight/api"

// data is the first bytes of a global of type n.
func (c *checker) data(v api.Var, n int) []byte {
	bytes := make([]byte, c.kinds.Size(n))
	c.initialize(v, n, func(pos api.Pos, part, at int, value api.Term) {
		num, e := Fold(value)
		must(pos, e)
		for k := range c.kinds.Size(part) {
			bytes[at*c.kinds.Size(part)+k] = byte(num >> (8 * k))
		}
	})
	return bytes
}

// local declares a variable of a function, and is the acts with which it begins.
func (c *checker) local(v api.Var) []api.Act {
	n, e := c.sizedType(v)
	first(v.Pos, e, c.clash(v.Name), within(len(c.slots), MaxNames))
	number := c.declare(v.Name, n)
	acts := []api.Act{{Kind: api.AcNew, Var: number}}
	c.initialize(v, n, func(_ api.Pos, part, at int, value api.Term) {
		place := api.Term{Kind: api.TmAddr, Var: number, Ptr: true}
		if v.Brace {
			place = index(place, constant(uint32(at)), c.kinds.Size(part))
		}
		acts = append(acts, act(api.AcExpr, c.store(place, value, part)))
	})
	return acts
}

// initialize hands the values that the initializer of a variable of type n has, in order, to put:
// with the position, the type of what gets it, and the number of that in an array.
func (c *checker) initialize(v api.Var, n int, put func(pos api.Pos, part, at int, value api.Term)) {
	if len(v.Init) == 0 {
		return
	}
	part, count := n, 1
	elem, isArray := c.arrayed(n)
	require(isArray == v.Brace, v.Pos, api.ErrType)
	if isArray {
		require(c.kinds.Scalar(elem), v.Pos, api.ErrType)
		part, count = elem, c.kinds.Size(n)/c.kinds.Size(elem)
	}
	for k, x := range v.Init {
		require(k < count, x.Pos, api.ErrLong)
		put(x.Pos, part, k, c.fit(c.value(x), part))
	}
	for k := len(v.Init); k < count; k++ {
		put(v.Pos, part, k, c.nothing(part))
	}
}

// nothing is the value 0 of a type: the null pointer, of a pointer.
func (c *checker) nothing(n int) api.Term {
	t := constant(0)
	t.Ptr = c.isPtr(n)
	return t
}
