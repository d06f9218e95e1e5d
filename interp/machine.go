package interp

import (
	"rushlight/api"
	"rushlight/store"
)

// machine is a run. It keeps on stacks of its own what it is in the middle of: thousands of calls, each from within an expression that nests tens of thousands of terms, would not fit on Go's.
type machine struct {
	api.Outcome // so far
	unit        api.Unit
	inputs      []uint32
	fuel        int // how many steps are left
	memory      *store.Store
	places      []store.Ptr // the objects of the globals, and those of each call that has not ended
	calls       []call
	tasks       []task
	terms       []pending
	values      []store.Value // those of terms that nothing was made of yet
}

// call is a call that has not ended: whether its result is a pointer, and how many of each there were when it began.
type call struct {
	ptr    bool
	places int
	tasks  int
	terms  int
}

// run goes on until main has ended, or an error ends the run.
func (m *machine) run() {
	for m.E == api.OK && len(m.calls) > 0 {
		if len(m.terms) > m.current().terms {
			m.proceed()
		} else {
			m.unwind(m.perform())
		}
	}
}

// step counts a step; false, and the end of the run, if none is left.
func (m *machine) step() bool {
	if m.fuel == 0 {
		m.must(api.ErrFuel)
		return false
	}
	m.fuel--
	return true
}

// must ends the run with an error, if there is one and none before it.
func (m *machine) must(e api.Errno) {
	if m.E == api.OK {
		m.E = e
	}
}

// push adds a value to those that wait.
func (m *machine) push(v store.Value) { m.values = append(m.values, v) }

// pop takes the last value.
func (m *machine) pop() store.Value { return m.take(1)[0] }

// take takes the last n values. They last until the next one is added.
func (m *machine) take(n int) []store.Value {
	first := len(m.values) - n
	l := m.values[first:]
	m.values = m.values[:first]
	return l
}

// makeGlobals makes the objects of the globals.
func (m *machine) makeGlobals() {
	for k, s := range m.unit.Globals {
		p := m.makeObject(s)
		m.must(m.memory.Fill(p.Obj, m.unit.Data[k]))
	}
}

// makeObject makes the object of a slot.
func (m *machine) makeObject(s api.Slot) store.Ptr {
	p, e := m.memory.Make(s.Size)
	if e == api.ErrFull {
		e = api.ErrFuel
	}
	m.must(e)
	m.places = append(m.places, p)
	return p
}

// place is the object of a variable: all of it.
func (m *machine) place(number int, global bool) store.Ptr {
	if global {
		return m.places[number]
	}
	return m.places[m.current().places+number]
}

// current is the call that began last.
func (m *machine) current() *call { return &m.calls[len(m.calls)-1] }

// enter begins a call of a function.
func (m *machine) enter(number int, args []store.Value, ptr bool) {
	if len(m.calls) == maxDeep {
		m.must(api.ErrFuel)
		return
	}
	code := &m.unit.Codes[number]
	m.calls = append(m.calls, call{ptr: ptr, places: len(m.places), tasks: len(m.tasks), terms: len(m.terms)})
	for _, s := range code.Slots {
		m.makeObject(s)
	}
	for k, v := range args {
		m.must(m.memory.Put(m.place(k, false), code.Slots[k].Size, v))
	}
	m.follow(code.Body)
}

// leave ends the call that began last. Its result stays the last value, now that of the term which called; or is what main returned.
func (m *machine) leave() {
	c := m.current()
	for _, p := range m.places[c.places:] {
		m.must(m.memory.Drop(p.Obj))
	}
	m.places = m.places[:c.places]
	m.tasks = m.tasks[:c.tasks]
	m.calls = m.calls[:len(m.calls)-1]
	if len(m.calls) == 0 {
		m.Exit = uint32(byte(m.pop().Num))
	}
}
