package store_test

import (
	"testing"

	"rushlight/api"
	"rushlight/store"
)

// dice is a sequence of numbers that is the same each time.
type dice uint64

// roll is the next number below n.
func (d *dice) roll(n int) int {
	*d = *d*6364136223846793005 + 1442695040888963407
	return int(uint64(*d)>>33) % n
}

// mark is what a model knows of a byte: whether it is initialized, its number, and which byte of which stored pointer it is.
type mark struct {
	set    bool
	value  byte
	put    int // the number of the Put that stored the pointer; 0 if it is a byte of a number
	within int
}

// thing is an object of a model.
type thing struct {
	marks []mark
	dead  bool
}

// model is a store that remembers of each byte what was stored there last.
type model struct {
	things []thing
	puts   []store.Ptr // the pointers that were stored, that of Put n at n - 1
}

// valid is the error of a pointer's validity.
func (m *model) valid(p store.Ptr) api.Errno {
	switch {
	case p.Obj == 0:
		return api.ErrNil
	case p.Obj < 0 || p.Obj > len(m.things):
		return api.ErrNone
	case m.things[p.Obj-1].dead:
		return api.ErrDead
	}
	return api.OK
}

// bytes is the marks that an access concerns.
func (m *model) bytes(p store.Ptr, size int, ptr bool) ([]mark, api.Errno) {
	if size != 1 && size != 4 || size == 1 && ptr {
		return nil, api.ErrArg
	}
	if e := m.valid(p); e != api.OK {
		return nil, e
	}
	all := m.things[p.Obj-1].marks
	for k := p.Off; k < p.Off+size; k++ {
		if k < p.Lo || k >= p.Hi || k < 0 || k >= len(all) {
			return nil, api.ErrBound
		}
	}
	return all[p.Off : p.Off+size], api.OK
}

func (m *model) load(p store.Ptr, size int, ptr bool) (store.Value, api.Errno) {
	l, e := m.bytes(p, size, ptr)
	if e != api.OK {
		return store.Value{}, e
	}
	v := store.Value{Is: ptr}
	intact := true
	for k, x := range l {
		if !x.set {
			return store.Value{}, api.ErrUnset
		}
		if !ptr {
			v.Num += uint32(x.value) << (8 * k)
		}
		intact = intact && x.put > 0 && x.put == l[0].put && x.within == k
	}
	if ptr && intact {
		v.Ptr = m.puts[l[0].put-1]
	}
	return v, api.OK
}

func (m *model) put(p store.Ptr, size int, v store.Value) api.Errno {
	l, e := m.bytes(p, size, v.Is)
	if e != api.OK {
		return e
	}
	if v.Is {
		m.puts = append(m.puts, v.Ptr)
	}
	for k := range l {
		l[k] = mark{set: true, value: byte(v.Num >> (8 * k))}
		if v.Is {
			l[k] = mark{set: true, put: len(m.puts), within: k}
		}
	}
	return api.OK
}

// change does what Fill (of n bytes), Unset (n is -1) or Drop (-2) does.
func (m *model) change(obj, n int) api.Errno {
	if m.valid(store.Ptr{Obj: obj}) != api.OK {
		return api.ErrNone
	}
	x := &m.things[obj-1]
	switch {
	case n == -2:
		x.dead = true
	case n == -1:
		clear(x.marks)
	case n > len(x.marks):
		return api.ErrArg
	}
	for k := range max(n, 0) {
		x.marks[k] = mark{set: true, value: byte(k + n)}
	}
	return api.OK
}

func (m *model) move(p store.Ptr, by int64) (store.Ptr, api.Errno) {
	if e := m.valid(p); e != api.OK {
		return store.Ptr{}, e
	}
	p.Off += int(by)
	if p.Off < p.Lo || p.Off > p.Hi {
		return store.Ptr{}, api.ErrBound
	}
	return p, api.OK
}

func (m *model) part(p store.Ptr, at, size int) (store.Ptr, api.Errno) {
	if e := m.valid(p); e != api.OK {
		return store.Ptr{}, e
	}
	if at < 0 || size < 1 || p.Off+at+size > p.Hi {
		return store.Ptr{}, api.ErrBound
	}
	return store.Ptr{Obj: p.Obj, Lo: p.Off + at, Hi: p.Off + at + size, Off: p.Off + at}, api.OK
}

// game draws calls, from pointers that calls gave and some that none did.
type game struct {
	dice
	*store.Store
	model
	held []store.Ptr
	seen map[string]int
}

// any is a pointer.
func (g *game) any() store.Ptr {
	if g.roll(40) == 0 {
		return store.Ptr{Obj: g.roll(9) - 1, Lo: g.roll(9) - 3, Hi: g.roll(30), Off: g.roll(30) - 3}
	}
	return g.held[g.roll(len(g.held))]
}

// value is a number or a pointer.
func (g *game) value() store.Value {
	if g.roll(2) == 0 {
		return store.Value{Ptr: g.any(), Is: true}
	}
	return store.Value{Num: uint32(g.roll(1<<31)) << g.roll(2)}
}

// size is how many bytes a value has.
func (g *game) size() int { return []int{4, 4, 4, 4, 1, 1, 1, 2, 0}[g.roll(9)] }

// hold keeps a pointer that a call gave, in place of another one if there are many.
func (g *game) hold(p store.Ptr) {
	if len(g.held) < 30 {
		g.held = append(g.held, p)
	} else {
		g.held[g.roll(len(g.held))] = p
	}
}

// turn does one call with the store and with the model; it is false if the answers differ.
func (g *game) turn() (what string, same bool) {
	var a, b store.Value
	var e, f api.Errno
	p := g.any()
	switch what = []string{"Make", "Fill", "Unset", "Drop", "Move", "Part", "Load", "Load", "Load", "Put", "Put", "Put", "Put"}[g.roll(13)]; what {
	case "Make":
		n := []int{1, 4, 8, 13, 600, 0}[g.roll(6)]
		a.Ptr, e = g.Make(n)
		if f = api.ErrArg; n > 0 {
			g.things = append(g.things, thing{marks: make([]mark, n)})
			b.Ptr, f = store.Ptr{Obj: len(g.things), Hi: n}, api.OK
		}
	case "Fill":
		n := g.roll(20)
		data := make([]byte, n)
		for k := range data {
			data[k] = byte(k + n)
		}
		e, f = g.Fill(p.Obj, data), g.change(p.Obj, n)
	case "Unset":
		e, f = g.Unset(p.Obj), g.change(p.Obj, -1)
	case "Drop":
		if g.roll(4) == 0 {
			e, f = g.Drop(p.Obj), g.change(p.Obj, -2)
		}
	case "Move":
		by := int64(g.roll(20) - 8)
		a.Ptr, e = g.Move(p, by)
		b.Ptr, f = g.move(p, by)
	case "Part":
		at, size := g.roll(10)-1, g.roll(10)
		a.Ptr, e = g.Part(p, at, size)
		b.Ptr, f = g.part(p, at, size)
	case "Load":
		size, ptr := g.size(), g.roll(2) == 0
		a, e = g.Store.Load(p, size, ptr)
		b, f = g.load(p, size, ptr)
		if a.Ptr != (store.Ptr{}) {
			g.seen["a pointer"]++
		}
	case "Put":
		size, v := g.size(), g.value()
		e, f = g.Put(p, size, v), g.put(p, size, v)
	}
	if a.Ptr != (store.Ptr{}) {
		g.hold(a.Ptr)
	}
	g.seen[what+" "+e.Error()]++
	return what, a == b && e == f && g.Count() == len(g.things)
}

// Promises 11.1 to 11.5: calls in any order, held against a model.
func TestModel(t *testing.T) {
	seen := map[string]int{}
	for n := range 400 {
		g := &game{dice: dice(n), Store: store.New(), held: []store.Ptr{{}}, seen: seen}
		for turn := range 500 {
			if what, same := g.turn(); !same {
				t.Fatalf("game %d, turn %d: %s", n, turn, what)
			}
		}
	}
	for _, what := range []string{"a pointer", "Make ok", "Make arg", "Fill ok", "Fill none", "Fill arg", "Unset ok", "Unset none", "Drop ok", "Drop none", "Move ok", "Move nil", "Move none", "Move dead", "Move bound", "Part ok", "Part nil", "Part none", "Part dead", "Part bound",
		"Load ok", "Load arg", "Load nil", "Load none", "Load dead", "Load bound", "Load unset", "Put ok", "Put arg", "Put nil", "Put none", "Put dead", "Put bound"} {
		if seen[what] < 50 {
			t.Errorf("%s: %d times", what, seen[what])
		}
	}
}
