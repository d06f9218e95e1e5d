package kind_test

import (
	"reflect"
	"strconv"
	"testing"

	"rushlight/api"
	"rushlight/kind"
)

// model is a table that works each answer out anew.
type model struct{ types []api.Type }

// newModel is a model of the first three types.
func newModel() *model {
	return &model{[]api.Type{{Kind: api.TypeVoid}, {Kind: api.TypeInt}, {Kind: api.TypeChar}}}
}

// has reports whether there is a type n.
func (m *model) has(n int) bool { return n >= 0 && n < len(m.types) }

// align is the alignment of type n.
func (m *model) align(n int) int {
	switch x := m.types[n]; x.Kind {
	case api.TypeInt, api.TypePtr:
		return 4
	case api.TypeChar:
		return 1
	case api.TypeArray:
		return m.align(x.Elem)
	case api.TypeStruct:
		greatest := 0
		for _, f := range x.Fields {
			greatest = max(greatest, m.align(f.Type))
		}
		return greatest
	}
	return 0
}

// size is the size of type n.
func (m *model) size(n int) int {
	x := m.types[n]
	if x.Kind == api.TypeArray {
		return x.Len * m.size(x.Elem)
	}
	if x.Kind != api.TypeStruct {
		return m.align(n)
	}
	_, end := m.place(x.Fields)
	for end > 0 && end%m.align(n) != 0 {
		end++
	}
	return end
}

// place is the fields with their offsets, and where the last one ends.
func (m *model) place(l []api.Field) (placed []api.Field, end int) {
	for _, f := range l {
		for end%m.align(f.Type) != 0 {
			end++
		}
		placed = append(placed, api.Field{Name: f.Name, Type: f.Type, At: end})
		end += m.size(f.Type)
	}
	return placed, end
}

// find is the number of x, which is added if there is no such type.
func (m *model) find(x api.Type) (int, api.Errno) {
	for n, y := range m.types {
		if reflect.DeepEqual(x, y) {
			return n, api.OK
		}
	}
	if len(m.types) == kind.MaxTypes {
		return 0, api.ErrFull
	}
	m.types = append(m.types, x)
	return len(m.types) - 1, api.OK
}

// named is the number of a struct, or -1.
func (m *model) named(name string) int {
	for n, x := range m.types {
		if x.Kind == api.TypeStruct && x.Name == name {
			return n
		}
	}
	return -1
}

func (m *model) ptr(n int) (int, api.Errno) {
	if !m.has(n) {
		return 0, api.ErrNone
	}
	return m.find(api.Type{Kind: api.TypePtr, Elem: n})
}

func (m *model) array(n, long int) (int, api.Errno) {
	switch {
	case !m.has(n):
		return 0, api.ErrNone
	case m.size(n) == 0:
		return 0, api.ErrType
	case long < 1:
		return 0, api.ErrArg
	case long*m.size(n) > kind.MaxSize:
		return 0, api.ErrLong
	}
	return m.find(api.Type{Kind: api.TypeArray, Elem: n, Len: long})
}

func (m *model) open(name string) (int, api.Errno) {
	switch {
	case name == "":
		return 0, api.ErrArg
	case m.named(name) >= 0:
		return 0, api.ErrTwice
	}
	return m.find(api.Type{Kind: api.TypeStruct, Name: name})
}

func (m *model) structure(name string, l []api.Field) (int, api.Errno) {
	n := m.named(name)
	if n < 0 || m.types[n].Fields != nil {
		return 0, api.ErrNone
	}
	found := map[api.Errno]bool{api.ErrArg: len(l) == 0}
	for k, f := range l {
		found[api.ErrArg] = found[api.ErrArg] || f.Name == ""
		found[api.ErrNone] = found[api.ErrNone] || !m.has(f.Type)
		found[api.ErrType] = found[api.ErrType] || m.has(f.Type) && m.size(f.Type) == 0
		for _, g := range l[:k] {
			found[api.ErrTwice] = found[api.ErrTwice] || f.Name == g.Name
		}
	}
	for _, e := range []api.Errno{api.ErrArg, api.ErrNone, api.ErrType, api.ErrTwice} {
		if found[e] {
			return 0, e
		}
	}
	placed, _ := m.place(l)
	m.types[n].Fields = placed
	if m.size(n) > kind.MaxSize {
		m.types[n].Fields = nil
		return 0, api.ErrLong
	}
	return n, api.OK
}

// dice is a sequence of numbers that is the same each time.
type dice uint64

// roll is the next number below n.
func (d *dice) roll(n int) int {
	*d = *d*6364136223846793005 + 1442695040888963407
	return int(uint64(*d)>>33) % n
}

// fields is a few fields, some of which cannot be.
func (d *dice) fields(count int) []api.Field {
	var l []api.Field
	for k := range d.roll(6) {
		f := api.Field{Name: "f" + strconv.Itoa(k), Type: 1 + d.roll(count-1), At: d.roll(99)}
		switch d.roll(60) {
		case 0:
			f.Name = ""
		case 1:
			f.Name = "f0"
		case 2:
			f.Type = 0
		case 3:
			f.Type = count + d.roll(2)
		case 4:
			f.Type = -1
		}
		l = append(l, f)
	}
	return l
}

// draw does one call of any kind with the table and with the model.
func (d *dice) draw(table *kind.Table, m *model) (got, want int, e, wantE api.Errno) {
	n := d.roll(len(m.types)+2) - 1
	name := []string{"", "a", "b", "c", "d", "e", "f", "g", "h"}[d.roll(9)]
	switch d.roll(5) {
	case 0:
		got, e = table.Ptr(n)
		want, wantE = m.ptr(n)
	case 1, 2:
		long := []int{-1, 0, 1, 2, 3, 5, 100, 8192, 40000}[d.roll(9)]
		got, e = table.Array(n, long)
		want, wantE = m.array(n, long)
	case 3:
		got, e = table.Open(name)
		want, wantE = m.open(name)
	case 4:
		l := d.fields(len(m.types))
		got, e = table.Struct(name, l)
		want, wantE = m.structure(name, l)
	}
	return got, want, e, wantE
}

// holds reports as a fault what promise 8.5 says that follows.
func holds(t *testing.T, table *kind.Table, n int) {
	t.Helper()
	x, _ := table.Type(n)
	size, align := table.Size(n), table.Align(n)
	if align > 0 && size%align != 0 {
		t.Errorf("type %d: size %d, alignment %d", n, size, align)
	}
	end := 0
	for _, f := range x.Fields {
		if f.At < end || f.At%table.Align(f.Type) != 0 || f.At+table.Size(f.Type) > size {
			t.Errorf("type %d of size %d: %v behind %d", n, size, f, end)
		}
		end = f.At + table.Size(f.Type)
	}
}

// Promises 8.1 to 8.5: calls in any order, held against a model.
func TestModel(t *testing.T) {
	seen, d := map[api.Errno]int{}, dice(1)
	for range 150 {
		table, m := kind.New(), newModel()
		for range 300 {
			got, want, e, wantE := d.draw(table, m)
			seen[e]++
			if got != want || e != wantE || table.Count() != len(m.types) {
				t.Fatalf("%d, %v of %d, not %d, %v of %d", got, e, table.Count(), want, wantE, len(m.types))
			}
		}
		for n, want := range m.types {
			x := want
			same(t, table, n, x, m.size(n), m.align(n), x.Kind == api.TypeInt || x.Kind == api.TypeChar || x.Kind == api.TypePtr)
			holds(t, table, n)
			if t.Failed() {
				return
			}
		}
	}
	for _, e := range []api.Errno{api.OK, api.ErrNone, api.ErrArg, api.ErrType, api.ErrTwice, api.ErrLong} {
		if seen[e] < 50 {
			t.Errorf("%v: %d times", e, seen[e])
		}
	}
}
