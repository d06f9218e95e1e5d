package check

import (
	"rushlight/api"
	"rushlight/kind"
)

// first reports, at a position, the error that the chapter names first of those that a declaration may have:
// that of its type, that of its name, and that of how many there are.
func first(pos api.Pos, ofType, ofName, ofCount api.Errno) {
	require(ofType != api.ErrNone, pos, ofType)
	must(pos, ofName)
	require(ofType != api.ErrType, pos, ofType)
	must(pos, ofCount)
	must(pos, ofType)
}

// structs opens all structs, and then gives them their fields.
func (c *checker) structs(l []api.Struct) {
	for _, s := range l {
		_, e := c.kinds.Open(s.Name)
		must(s.Pos, e)
	}
	for _, s := range l {
		var fields []api.Field
		for _, f := range s.Fields {
			n, e := c.sizedType(f)
			must(f.Pos, e)
			fields = append(fields, api.Field{Name: f.Name, Type: n})
		}
		_, e := c.kinds.Struct(s.Name, fields)
		must(s.Pos, e)
	}
}

// globals declares all globals, each with its initializer.
func (c *checker) globals(l []api.Var) {
	for k, v := range l {
		n, e := c.sizedType(v)
		first(v.Pos, e, c.clash(v.Name), within(k, MaxNames))
		c.innermost()[v.Name] = entity{global: true, number: k, kind: n}
		c.unit.Globals = append(c.unit.Globals, c.slot(v.Name, n))
		c.unit.Data = append(c.unit.Data, c.data(v, n))
	}
}

// functions declares all functions, without their bodies.
func (c *checker) functions(l []api.Func) {
	for k, f := range l {
		n, e := c.returnType(f.Ret)
		first(f.Pos, e, c.clash(f.Name), within(k, MaxNames))
		params := c.parameters(f.Params)
		c.innermost()[f.Name] = entity{function: true, number: k, kind: n, params: params}
	}
}

// parameters is the types of parameters.
func (c *checker) parameters(l []api.Var) []int {
	c.open()
	defer c.shut()
	var types []int
	for k, v := range l {
		n, e := c.scalarType(v)
		first(v.Pos, e, c.clash(v.Name), within(k, MaxParams))
		c.innermost()[v.Name] = entity{}
		types = append(types, n)
	}
	return types
}

// main looks for the function that a program begins with.
func (c *checker) main(l []api.Func) {
	f, found := c.find("main")
	require(found && f.function, api.Pos{Line: 1, Col: 1}, api.ErrNone)
	require(f.kind == kind.Int && len(f.params) == 0, l[f.number].Pos, api.ErrType)
	c.unit.Main = f.number
}

// bodies checks what all functions do.
func (c *checker) bodies(l []api.Func) {
	for _, f := range l {
		self, _ := c.find(f.Name)
		c.routine = routine{returned: self.kind}
		c.open()
		for k, v := range f.Params {
			c.declare(v.Name, self.params[k])
		}
		body := c.statements(f.Body)
		c.shut()
		c.unit.Codes = append(c.unit.Codes, api.Code{Name: f.Name, Void: self.kind == kind.Void, Params: len(f.Params), Slots: c.slots, Body: body})
	}
}

// declare makes a name that of a new slot, whose number it is.
func (c *checker) declare(name string, n int) int {
	number := len(c.slots)
	c.innermost()[name] = entity{number: number, kind: n}
	c.slots = append(c.slots, c.slot(name, n))
	return number
}
