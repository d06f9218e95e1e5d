package kind_test

import (
	"math"
	"reflect"
	"strconv"
	"testing"

	"rushlight/api"
	"rushlight/kind"
)

// answer is a function that returns a number that a call must give without an error.
func answer(t *testing.T) func(n int, e api.Errno) int {
	return func(n int, e api.Errno) int {
		t.Helper()
		if e != api.OK {
			t.Fatalf("%d, %v", n, e)
		}
		return n
	}
}

// refused reports as a fault a call that does not give this error alone.
func refused(t *testing.T, what string, n int, e, want api.Errno) {
	t.Helper()
	if n != 0 || e != want {
		t.Errorf("%s: %d, %v, not %v", what, n, e, want)
	}
}

// same reports as a fault a type that is not as it should be.
func same(t *testing.T, table *kind.Table, n int, want api.Type, size, align int, scalar bool) {
	t.Helper()
	got, e := table.Type(n)
	if len(got.Fields) == 0 {
		got.Fields = nil
	}
	if e != api.OK || !reflect.DeepEqual(got, want) {
		t.Errorf("type %d: %v, %v, not %v", n, got, e, want)
	}
	if table.Size(n) != size || table.Align(n) != align || table.Scalar(n) != scalar {
		t.Errorf("type %d: size %d, alignment %d, %v; not %d, %d, %v", n, table.Size(n), table.Align(n), table.Scalar(n), size, align, scalar)
	}
}

// missing reports as a fault a type that is there.
func missing(t *testing.T, table *kind.Table, n int, want api.Errno) {
	t.Helper()
	if got, e := table.Type(n); !reflect.DeepEqual(got, api.Type{}) || e != want {
		t.Errorf("type %d: %v, %v", n, got, e)
	}
	if table.Size(n) != 0 || table.Align(n) != 0 || table.Scalar(n) {
		t.Errorf("type %d: size %d, alignment %d, %v", n, table.Size(n), table.Align(n), table.Scalar(n))
	}
	got, e := table.Field(n, "a")
	if got != (api.Field{}) || e != want {
		t.Errorf("field of type %d: %v, %v", n, got, e)
	}
	p, e := table.Ptr(n)
	refused(t, "pointer", p, e, want)
	a, e := table.Array(n, 0)
	refused(t, "array", a, e, want)
}

// fields is fields of types, named a, b and so on, whose offsets are to be ignored.
func fields(types ...int) []api.Field {
	var l []api.Field
	for k, n := range types {
		l = append(l, api.Field{Name: string(rune('a' + k)), Type: n, At: 1000 - k})
	}
	return l
}

// structure is a new struct with fields of types.
func structure(t *testing.T, table *kind.Table, name string, types ...int) int {
	t.Helper()
	ok := answer(t)
	n := ok(table.Open(name))
	if same := ok(table.Struct(name, fields(types...))); same != n {
		t.Errorf("struct %d is %d", n, same)
	}
	return n
}

// Promise 8.1: the first types.
func TestFirstTypes(t *testing.T) {
	for name, table := range map[string]*kind.Table{"New": kind.New(), "the zero Table": {}} {
		t.Run(name, func(t *testing.T) {
			if table.Count() != 3 {
				t.Errorf("%d types", table.Count())
			}
			same(t, table, kind.Void, api.Type{Kind: api.TypeVoid}, 0, 0, false)
			same(t, table, kind.Int, api.Type{Kind: api.TypeInt}, 4, 4, true)
			same(t, table, kind.Char, api.Type{Kind: api.TypeChar}, 1, 1, true)
			for _, n := range []int{-1, 3, 4, 400, math.MinInt, math.MaxInt} {
				missing(t, table, n, api.ErrNone)
			}
		})
	}
}

// Promises 8.1 to 8.4: a nil Table.
func TestNilTable(t *testing.T) {
	var table *kind.Table
	if table.Count() != 0 {
		t.Errorf("%d types", table.Count())
	}
	for _, n := range []int{-1, 0, 1, 2, 3} {
		missing(t, table, n, api.ErrArg)
	}
	n, e := table.Open("s")
	refused(t, "Open", n, e, api.ErrArg)
	n, e = table.Find("s")
	refused(t, "Find", n, e, api.ErrArg)
	n, e = table.Struct("s", fields(1))
	refused(t, "Struct", n, e, api.ErrArg)
}

// Promise 8.2: pointers and arrays, which are there once.
func TestPointersAndArrays(t *testing.T) {
	table, ok := kind.New(), answer(t)
	for k, x := range []struct {
		made        func() int
		want        api.Type
		size, align int
	}{
		{func() int { return ok(table.Ptr(kind.Int)) }, api.Type{Kind: api.TypePtr, Elem: 1}, 4, 4},
		{func() int { return ok(table.Ptr(kind.Void)) }, api.Type{Kind: api.TypePtr}, 4, 4},
		{func() int { return ok(table.Ptr(kind.Char)) }, api.Type{Kind: api.TypePtr, Elem: 2}, 4, 4},
		{func() int { return ok(table.Ptr(3)) }, api.Type{Kind: api.TypePtr, Elem: 3}, 4, 4},
		{func() int { return ok(table.Array(kind.Char, 3)) }, api.Type{Kind: api.TypeArray, Elem: 2, Len: 3}, 3, 1},
		{func() int { return ok(table.Array(kind.Int, 3)) }, api.Type{Kind: api.TypeArray, Elem: 1, Len: 3}, 12, 4},
		{func() int { return ok(table.Array(kind.Int, 1)) }, api.Type{Kind: api.TypeArray, Elem: 1, Len: 1}, 4, 4},
		{func() int { return ok(table.Array(7, 5)) }, api.Type{Kind: api.TypeArray, Elem: 7, Len: 5}, 15, 1},
		{func() int { return ok(table.Array(3, 2)) }, api.Type{Kind: api.TypeArray, Elem: 3, Len: 2}, 8, 4},
		{func() int { return ok(table.Ptr(7)) }, api.Type{Kind: api.TypePtr, Elem: 7}, 4, 4},
		{func() int { return ok(table.Array(kind.Char, kind.MaxSize)) }, api.Type{Kind: api.TypeArray, Elem: 2, Len: 32768}, 32768, 1},
		{func() int { return ok(table.Array(kind.Int, kind.MaxSize/4)) }, api.Type{Kind: api.TypeArray, Elem: 1, Len: 8192}, 32768, 4},
		{func() int { return ok(table.Array(13, 1)) }, api.Type{Kind: api.TypeArray, Elem: 13, Len: 1}, 32768, 1},
	} {
		want := 3 + k
		for range 2 {
			if n := x.made(); n != want || table.Count() != want+1 {
				t.Errorf("%v: %d of %d, not %d", x.want, n, table.Count(), want)
			}
		}
		same(t, table, want, x.want, x.size, x.align, x.want.Kind == api.TypePtr)
	}
}

// Promise 8.2: arrays that there cannot be.
func TestArrayErrors(t *testing.T) {
	table, ok := kind.New(), answer(t)
	open, chars, ints := ok(table.Open("open")), ok(table.Array(kind.Char, 3)), ok(table.Array(kind.Int, 8192))
	count := table.Count()
	for _, x := range []struct {
		n, long int
		want    api.Errno
	}{
		{-1, 1, api.ErrNone}, {count, 1, api.ErrNone}, {count, 0, api.ErrNone}, {math.MaxInt, math.MaxInt, api.ErrNone},
		{kind.Void, 1, api.ErrType}, {kind.Void, 0, api.ErrType}, {kind.Void, math.MaxInt, api.ErrType}, {open, 1, api.ErrType}, {open, -1, api.ErrType},
		{kind.Int, 0, api.ErrArg}, {kind.Int, -1, api.ErrArg}, {kind.Char, math.MinInt, api.ErrArg}, {ints, 0, api.ErrArg},
		{kind.Int, 8193, api.ErrLong}, {kind.Char, 32769, api.ErrLong}, {chars, 10923, api.ErrLong}, {ints, 2, api.ErrLong},
		{kind.Int, 1 << 62, api.ErrLong}, {kind.Int, math.MaxInt, api.ErrLong}, {kind.Char, math.MaxInt, api.ErrLong}, {chars, math.MaxInt/3 + 1, api.ErrLong},
	} {
		n, e := table.Array(x.n, x.long)
		refused(t, "Array", n, e, x.want)
		if table.Count() != count {
			t.Fatalf("%d of %d: %d types", x.long, x.n, table.Count())
		}
	}
	if n := ok(table.Array(chars, 10922)); table.Size(n) != 32766 {
		t.Errorf("%d bytes", table.Size(n))
	}
}

// Promises 8.2 and 8.3: a table that is full.
func TestFull(t *testing.T) {
	table, ok := kind.New(), answer(t)
	first := ok(table.Ptr(kind.Int))
	open := ok(table.Open("open"))
	array := ok(table.Array(kind.Char, 7))
	last := array
	for range kind.MaxTypes - table.Count() {
		last = ok(table.Ptr(last))
	}
	if last != 399 || table.Count() != 400 {
		t.Fatalf("the last type is %d of %d", last, table.Count())
	}
	n, e := table.Ptr(last)
	refused(t, "Ptr", n, e, api.ErrFull)
	n, e = table.Array(kind.Char, 8)
	refused(t, "Array", n, e, api.ErrFull)
	n, e = table.Open("new")
	refused(t, "Open", n, e, api.ErrFull)
	// what is named first is returned
	n, e = table.Ptr(400)
	refused(t, "Ptr of none", n, e, api.ErrNone)
	n, e = table.Array(kind.Void, 8)
	refused(t, "Array of void", n, e, api.ErrType)
	n, e = table.Array(kind.Char, 0)
	refused(t, "Array of no length", n, e, api.ErrArg)
	n, e = table.Array(kind.Char, 40000)
	refused(t, "great Array", n, e, api.ErrLong)
	n, e = table.Open("")
	refused(t, "Open without a name", n, e, api.ErrArg)
	n, e = table.Open("open")
	refused(t, "Open again", n, e, api.ErrTwice)
	// what is there already needs no room
	if ok(table.Ptr(kind.Int)) != first || ok(table.Array(kind.Char, 7)) != array || ok(table.Struct("open", fields(1))) != open || ok(table.Find("open")) != open {
		t.Errorf("not the types that were there")
	}
	n, e = table.Find("new")
	refused(t, "Find", n, e, api.ErrNone)
	if table.Count() != kind.MaxTypes {
		t.Errorf("%d types", table.Count())
	}
}

// Promise 8.3: open structs, and their fields.
func TestStructs(t *testing.T) {
	table, ok := kind.New(), answer(t)
	n := ok(table.Open("s"))
	if n != 3 || table.Count() != 4 || ok(table.Find("s")) != n {
		t.Fatalf("struct %d of %d", n, table.Count())
	}
	same(t, table, n, api.Type{Kind: api.TypeStruct, Name: "s"}, 0, 0, false)
	p := ok(table.Ptr(n)) // may point to itself
	same(t, table, p, api.Type{Kind: api.TypePtr, Elem: n}, 4, 4, true)
	if ok(table.Struct("s", []api.Field{{Name: "c", Type: kind.Char, At: 7}, {Name: "next", Type: p, At: -1}, {Name: "d", Type: kind.Char}})) != n || table.Count() != 5 {
		t.Errorf("another number than %d", n)
	}
	want := []api.Field{{Name: "c", Type: kind.Char}, {Name: "next", Type: p, At: 4}, {Name: "d", Type: kind.Char, At: 8}}
	same(t, table, n, api.Type{Kind: api.TypeStruct, Name: "s", Fields: want}, 12, 4, false)
	if again, e := table.Open("s"); again != 0 || e != api.ErrTwice {
		t.Errorf("Open again: %d, %v", again, e)
	}
	if again, e := table.Struct("s", fields(1)); again != 0 || e != api.ErrNone {
		t.Errorf("Struct again: %d, %v", again, e)
	}
	same(t, table, n, api.Type{Kind: api.TypeStruct, Name: "s", Fields: want}, 12, 4, false)
}

// Promises 8.1 and 8.3: offsets, sizes and alignments.
func TestLayout(t *testing.T) {
	table, ok := kind.New(), answer(t)
	const i, c = kind.Int, kind.Char
	c3, i2, pv := ok(table.Array(c, 3)), ok(table.Array(i, 2)), ok(table.Ptr(kind.Void))
	chars, mixed := structure(t, table, "chars", c, c3), structure(t, table, "mixed", c, i, c)
	mixed2 := ok(table.Array(mixed, 2))
	for k, x := range []struct {
		types       []int
		at          []int
		size, align int
	}{
		{[]int{c}, []int{0}, 1, 1},
		{[]int{i}, []int{0}, 4, 4},
		{[]int{pv}, []int{0}, 4, 4},
		{[]int{c, i, c}, []int{0, 4, 8}, 12, 4},
		{[]int{c, c, c}, []int{0, 1, 2}, 3, 1},
		{[]int{i, c}, []int{0, 4}, 8, 4},
		{[]int{c, c, i}, []int{0, 1, 4}, 8, 4},
		{[]int{c3, i}, []int{0, 4}, 8, 4},
		{[]int{c3, c, i}, []int{0, 3, 4}, 8, 4},
		{[]int{c3, c, c, pv}, []int{0, 3, 4, 8}, 12, 4},
		{[]int{c, i2, c}, []int{0, 4, 12}, 16, 4},
		{[]int{chars, chars, c}, []int{0, 4, 8}, 9, 1},
		{[]int{c, chars, i}, []int{0, 1, 8}, 12, 4},
		{[]int{c, mixed, c}, []int{0, 4, 16}, 20, 4},
		{[]int{c, mixed2, c3, c}, []int{0, 4, 28, 31}, 32, 4},
	} {
		name := "s" + strconv.Itoa(k)
		n := structure(t, table, name, x.types...)
		want := api.Type{Kind: api.TypeStruct, Name: name, Fields: fields(x.types...)}
		for k := range want.Fields {
			want.Fields[k].At = x.at[k]
			if got, e := table.Field(n, want.Fields[k].Name); got != want.Fields[k] || e != api.OK {
				t.Errorf("%v: field %d: %v, %v", x.types, k, got, e)
			}
		}
		same(t, table, n, want, x.size, x.align, false)
		a := ok(table.Array(n, 3))
		same(t, table, a, api.Type{Kind: api.TypeArray, Elem: n, Len: 3}, 3*x.size, x.align, false)
	}
}

// Promise 8.3: what is no struct is refused, and stays open.
func TestStructErrors(t *testing.T) {
	table, ok := kind.New(), answer(t)
	n, other := ok(table.Open("s")), ok(table.Open("other"))
	big, bigInts, rest := ok(table.Array(kind.Char, kind.MaxSize)), ok(table.Array(kind.Int, 8191)), ok(table.Array(kind.Char, 5))
	count := table.Count()
	field := func(name string, n int) api.Field { return api.Field{Name: name, Type: n} }
	for k, x := range []struct {
		fields []api.Field
		want   api.Errno
	}{
		{nil, api.ErrArg},
		{[]api.Field{}, api.ErrArg},
		{[]api.Field{field("", 1)}, api.ErrArg},
		{[]api.Field{field("a", 1), field("", 1)}, api.ErrArg},
		{[]api.Field{field("a", -1)}, api.ErrNone},
		{[]api.Field{field("a", 1), field("b", count)}, api.ErrNone},
		{[]api.Field{field("a", math.MaxInt)}, api.ErrNone},
		{[]api.Field{field("a", kind.Void)}, api.ErrType},
		{[]api.Field{field("a", 1), field("b", n)}, api.ErrType},
		{[]api.Field{field("a", other)}, api.ErrType},
		{[]api.Field{field("a", 1), field("a", 1)}, api.ErrTwice},
		{[]api.Field{field("a", 1), field("b", 2), field("a", 2)}, api.ErrTwice},
		{[]api.Field{field("a", big), field("b", kind.Char)}, api.ErrLong},
		{[]api.Field{field("a", kind.Char), field("b", big)}, api.ErrLong},
		{[]api.Field{field("a", kind.Char), field("b", kind.Int), field("c", bigInts)}, api.ErrLong},
		{[]api.Field{field("a", bigInts), field("b", rest)}, api.ErrLong},
		// what is named first is returned, wherever in the list it is
		{[]api.Field{field("a", -1), field("", 1)}, api.ErrArg},
		{[]api.Field{field("a", kind.Void), field("b", -1)}, api.ErrNone},
		{[]api.Field{field("a", 1), field("a", 1), field("b", 99)}, api.ErrNone},
		{[]api.Field{field("a", 1), field("a", 1), field("b", kind.Void)}, api.ErrType},
		{[]api.Field{field("a", big), field("a", big)}, api.ErrTwice},
		{[]api.Field{field("a", big), field("b", kind.Void)}, api.ErrType},
	} {
		got, e := table.Struct("s", x.fields)
		refused(t, "case "+strconv.Itoa(k), got, e, x.want)
	}
	for _, name := range []string{"", "none", "S", "s "} {
		got, e := table.Struct(name, nil)
		refused(t, name, got, e, api.ErrNone)
	}
	got, e := table.Open("")
	refused(t, "Open without a name", got, e, api.ErrArg)
	got, e = table.Open("s")
	refused(t, "Open again", got, e, api.ErrTwice)
	same(t, table, n, api.Type{Kind: api.TypeStruct, Name: "s"}, 0, 0, false)
	if table.Count() != count {
		t.Errorf("%d types", table.Count())
	}
	if ok(table.Struct("s", []api.Field{field("a", big)})) != n || table.Size(n) != kind.MaxSize {
		t.Errorf("%d bytes", table.Size(n))
	}
	if ok(table.Struct("other", []api.Field{field("a", bigInts), field("b", kind.Char)})) != other || table.Size(other) != kind.MaxSize {
		t.Errorf("%d bytes", table.Size(other))
	}
}

// Promise 8.3: more fields than there is room for.
func TestManyFields(t *testing.T) {
	table, ok := kind.New(), answer(t)
	n := ok(table.Open("s"))
	var l []api.Field
	for k := range 200000 {
		l = append(l, api.Field{Name: strconv.Itoa(k), Type: kind.Char})
	}
	got, e := table.Struct("s", l)
	refused(t, "200000 fields", got, e, api.ErrLong)
	got, e = table.Struct("s", append(l[:32769:32769], l[0]))
	refused(t, "a field twice", got, e, api.ErrTwice)
	got, e = table.Struct("s", l[:32769])
	refused(t, "32769 fields", got, e, api.ErrLong)
	if ok(table.Struct("s", l[:32768])) != n || table.Size(n) != 32768 || table.Align(n) != 1 {
		t.Errorf("size %d, alignment %d", table.Size(n), table.Align(n))
	}
	if f, e := table.Field(n, "32767"); e != api.OK || f.At != 32767 {
		t.Errorf("%v, %v", f, e)
	}
}

// Promise 8.4.
func TestFindAndField(t *testing.T) {
	table, ok := kind.New(), answer(t)
	open := ok(table.Open("open"))
	s := structure(t, table, "s", kind.Char, kind.Int)
	p, a := ok(table.Ptr(s)), ok(table.Array(s, 2))
	for name, want := range map[string]int{"open": open, "s": s} {
		if n := ok(table.Find(name)); n != want {
			t.Errorf("%s: %d", name, n)
		}
	}
	for _, name := range []string{"", "S", "a", "b", "int", "s\x00"} {
		n, e := table.Find(name)
		refused(t, name, n, e, api.ErrNone)
	}
	for _, x := range []struct {
		n    int
		name string
		want api.Field
		e    api.Errno
	}{
		{s, "a", api.Field{Name: "a", Type: kind.Char}, api.OK},
		{s, "b", api.Field{Name: "b", Type: kind.Int, At: 4}, api.OK},
		{s, "c", api.Field{}, api.ErrNone}, {s, "", api.Field{}, api.ErrNone}, {s, "A", api.Field{}, api.ErrNone}, {s, "s", api.Field{}, api.ErrNone},
		{open, "a", api.Field{}, api.ErrNone}, {open, "", api.Field{}, api.ErrNone},
		{p, "a", api.Field{}, api.ErrType}, {a, "a", api.Field{}, api.ErrType}, {kind.Void, "", api.Field{}, api.ErrType}, {kind.Int, "a", api.Field{}, api.ErrType}, {kind.Char, "a", api.Field{}, api.ErrType},
		{-1, "a", api.Field{}, api.ErrNone}, {table.Count(), "a", api.Field{}, api.ErrNone}, {math.MinInt, "", api.Field{}, api.ErrNone},
	} {
		if got, e := table.Field(x.n, x.name); got != x.want || e != x.e {
			t.Errorf("field %q of %d: %v, %v", x.name, x.n, got, e)
		}
	}
}

// Rule R3: what is handed in and out shares nothing with the table, and tables share nothing with each other.
func TestSharing(t *testing.T) {
	table, other, ok := kind.New(), kind.New(), answer(t)
	n := ok(table.Open("s"))
	l := fields(kind.Char, kind.Int)
	ok(table.Struct("s", l))
	if !reflect.DeepEqual(l, fields(kind.Char, kind.Int)) {
		t.Errorf("the argument is now %v", l)
	}
	clear(l)
	want := api.Type{Kind: api.TypeStruct, Name: "s", Fields: []api.Field{{Name: "a", Type: kind.Char}, {Name: "b", Type: kind.Int, At: 4}}}
	got, _ := table.Type(n)
	clear(got.Fields)
	_ = append(got.Fields, api.Field{Name: "x"})
	same(t, table, n, want, 8, 4, false)
	if other.Count() != 3 {
		t.Errorf("the other table has %d types", other.Count())
	}
}
