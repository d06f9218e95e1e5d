package check

import (
	"rushlight/api"
	"rushlight/kind"
)

// entity is what a name stands for: a variable or a function.
type entity struct {
	function bool
	global   bool  // a variable outside all functions
	number   int   // of a global, of a slot, or of a function
	kind     int   // the type of a variable; what a function returns
	params   []int // the types of a function's parameters
}

// routine is the function whose body is being checked.
type routine struct {
	slots    []api.Slot
	returned int // the type
	loops    int // how many loops stand around a statement
	switches int // how many switches do
}

// checker checks one program.
type checker struct {
	kinds  *kind.Table
	scopes []map[string]entity // one for each block that has begun and not ended, the outermost of a function behind that of the program
	unit   api.Unit
	routine
}

// newChecker is a checker that has seen nothing yet.
func newChecker() *checker {
	return &checker{kinds: kind.New(), scopes: []map[string]entity{{}}}
}

// open begins a block.
func (c *checker) open() { c.scopes = append(c.scopes, map[string]entity{}) }

// shut ends the block that began last.
func (c *checker) shut() { c.scopes = c.scopes[:len(c.scopes)-1] }

// innermost is the scope of the block that began last.
func (c *checker) innermost() map[string]entity { return c.scopes[len(c.scopes)-1] }

// find is what a name stands for; false if it stands for nothing.
func (c *checker) find(name string) (entity, bool) {
	for k := len(c.scopes) - 1; k >= 0; k-- {
		if x, found := c.scopes[k][name]; found {
			return x, true
		}
	}
	return entity{}, false
}

// clash is ErrTwice if a name stands for something in the innermost block.
func (c *checker) clash(name string) api.Errno {
	if _, found := c.innermost()[name]; found {
		return api.ErrTwice
	}
	return api.OK
}

// within is ErrLong if there are as many as there may be.
func within(count, most int) api.Errno {
	if count >= most {
		return api.ErrLong
	}
	return api.OK
}

// slot is a variable of type n.
func (c *checker) slot(name string, n int) api.Slot {
	s := api.Slot{Name: name, Size: c.kinds.Size(n), Align: c.kinds.Align(n)}
	if c.kinds.Scalar(n) {
		s.Cell = s.Size
	}
	return s
}
