package store_test

import (
	"math"
	"slices"
	"testing"

	"rushlight/api"
	"rushlight/store"
)

// number is a number as a value.
func number(n uint32) store.Value { return store.Value{Num: n} }

// pointer is a pointer as a value.
func pointer(p store.Ptr) store.Value { return store.Value{Ptr: p, Is: true} }

// made is a new object.
func made(t *testing.T, s *store.Store, size int) store.Ptr {
	t.Helper()
	p, e := s.Make(size)
	if want := (store.Ptr{Obj: s.Count(), Hi: size}); e != api.OK || p != want {
		t.Fatalf("Make(%d): %v, %v, not %v", size, p, e, want)
	}
	return p
}

// at is a pointer at another offset.
func at(p store.Ptr, off int) store.Ptr {
	p.Off = off
	return p
}

// does reports as a fault a call that does not give this error.
func does(t *testing.T, what string, e, want api.Errno) {
	t.Helper()
	if e != want {
		t.Errorf("%s: %v, not %v", what, e, want)
	}
}

// loads reports as a fault a Load that does not give this value.
func loads(t *testing.T, s *store.Store, p store.Ptr, size int, want store.Value) {
	t.Helper()
	if v, e := s.Load(p, size, want.Is); e != api.OK || v != want {
		t.Errorf("load of %d bytes at %v: %v, %v, not %v", size, p, v, e, want)
	}
}

// refuses reports as a fault a Load that does not give this error alone.
func refuses(t *testing.T, s *store.Store, p store.Ptr, size int, ptr bool, want api.Errno) {
	t.Helper()
	if v, e := s.Load(p, size, ptr); e != want || v != (store.Value{}) {
		t.Errorf("load of %d bytes at %v: %v, %v, not %v", size, p, v, e, want)
	}
}

// Promise 11.1: Make and Count.
func TestMake(t *testing.T) {
	for name, s := range map[string]*store.Store{"New": store.New(), "the zero Store": {}} {
		if s.Count() != 0 {
			t.Errorf("%s: %d objects", name, s.Count())
		}
		for k, size := range []int{1, 2, 3, 4, 511, 512, 513, 32767, 32768} {
			p := made(t, s, size)
			if p.Obj != k+1 {
				t.Errorf("%s: object %d is %d", name, k+1, p.Obj)
			}
			for _, off := range []int{0, size / 2, size - 1} {
				refuses(t, s, at(p, off), 1, false, api.ErrUnset)
			}
		}
		for _, size := range []int{0, -1, 32769, 1 << 32, math.MinInt, math.MaxInt} {
			p, e := s.Make(size)
			does(t, "Make", e, api.ErrArg)
			if p != (store.Ptr{}) || s.Count() != 9 {
				t.Errorf("Make(%d): %v, %d objects", size, p, s.Count())
			}
		}
	}
	one, other := store.New(), store.New()
	made(t, one, 4)
	if other.Count() != 0 {
		t.Errorf("stores share objects")
	}
}

// Promise 11.1: as many objects as there may be, dead ones included, and each as large as it may be.
func TestFull(t *testing.T) {
	s := store.New()
	for k := range 1 << 20 {
		if p, e := s.Make(32768); e != api.OK || p.Obj != k+1 {
			t.Fatalf("object %d: %v, %v", k+1, p, e)
		}
	}
	does(t, "Drop", s.Drop(7), api.OK)
	p, e := s.Make(1)
	does(t, "Make", e, api.ErrFull)
	_, e = s.Make(0)
	does(t, "Make of no bytes", e, api.ErrArg)
	if p != (store.Ptr{}) || s.Count() != 1<<20 {
		t.Errorf("%v, %d objects", p, s.Count())
	}
	last := store.Ptr{Obj: 1 << 20, Hi: 32768, Off: 32764}
	does(t, "Put", s.Put(last, 4, number(9)), api.OK)
	loads(t, s, last, 4, number(9))
	refuses(t, s, store.Ptr{Obj: 1<<20 + 1, Hi: 4}, 4, false, api.ErrNone)
}

// Promise 11.1: Fill, whose bytes are copied.
func TestFill(t *testing.T) {
	s := store.New()
	p := made(t, s, 6)
	data := []byte{1, 2, 3, 4, 0xff}
	does(t, "Fill", s.Fill(p.Obj, data), api.OK)
	if !slices.Equal(data, []byte{1, 2, 3, 4, 0xff}) {
		t.Errorf("the argument is now %v", data)
	}
	clear(data)
	loads(t, s, p, 4, number(0x04030201))
	loads(t, s, at(p, 1), 4, number(0xff040302))
	loads(t, s, at(p, 4), 1, number(0xff))
	refuses(t, s, at(p, 5), 1, false, api.ErrUnset)
	refuses(t, s, at(p, 2), 4, false, api.ErrUnset)
	does(t, "Fill with too many", s.Fill(p.Obj, make([]byte, 7)), api.ErrArg)
	loads(t, s, p, 4, number(0x04030201))
	does(t, "Fill with none", s.Fill(p.Obj, nil), api.OK)
	loads(t, s, p, 4, number(0x04030201))
	does(t, "Fill with all", s.Fill(p.Obj, []byte{6, 5, 4, 3, 2, 1}), api.OK)
	loads(t, s, at(p, 2), 4, number(0x01020304))
	does(t, "Fill with one", s.Fill(p.Obj, []byte{9}), api.OK)
	loads(t, s, p, 4, number(0x03040509))
	large := make([]byte, 32768)
	for k := range large {
		large[k] = byte(k * 7 / 3)
	}
	q := made(t, s, 32768)
	does(t, "Fill of a large one", s.Fill(q.Obj, large), api.OK)
	for k := 0; k < len(large); k += 11 {
		loads(t, s, at(q, k), 1, number(uint32(large[k])))
	}
}

// Promise 11.1: Unset and Drop.
func TestUnsetAndDrop(t *testing.T) {
	s := store.New()
	p, q := made(t, s, 8), made(t, s, 1000)
	does(t, "Fill", s.Fill(p.Obj, make([]byte, 8)), api.OK)
	does(t, "Put", s.Put(at(q, 996), 4, pointer(p)), api.OK)
	does(t, "Unset", s.Unset(p.Obj), api.OK)
	for off := range 8 {
		refuses(t, s, at(p, off), 1, false, api.ErrUnset)
	}
	loads(t, s, at(q, 996), 4, pointer(p)) // another object stays as it is
	does(t, "Unset", s.Unset(q.Obj), api.OK)
	refuses(t, s, at(q, 996), 4, true, api.ErrUnset)
	does(t, "Put", s.Put(at(q, 996), 4, number(5)), api.OK) // the pointer that was there is not
	loads(t, s, at(q, 996), 4, pointer(store.Ptr{}))
	does(t, "Drop", s.Drop(p.Obj), api.OK)
	refuses(t, s, p, 4, false, api.ErrDead)
	loads(t, s, at(q, 996), 4, number(5))
	if s.Count() != 2 || made(t, s, 1).Obj != 3 {
		t.Errorf("%d objects", s.Count())
	}
	for _, obj := range []int{p.Obj, 0, -1, 4, math.MinInt, math.MaxInt} {
		does(t, "Fill", s.Fill(obj, nil), api.ErrNone)
		does(t, "Fill with too many", s.Fill(obj, make([]byte, 40000)), api.ErrNone)
		does(t, "Unset", s.Unset(obj), api.ErrNone)
		does(t, "Drop", s.Drop(obj), api.ErrNone)
	}
}

// Promises 11.1 to 11.4: a nil Store.
func TestNilStore(t *testing.T) {
	var s *store.Store
	if s.Count() != 0 {
		t.Errorf("%d objects", s.Count())
	}
	p, e := s.Make(4)
	does(t, "Make", e, api.ErrArg)
	if p != (store.Ptr{}) {
		t.Errorf("Make: %v", p)
	}
	does(t, "Fill", s.Fill(1, nil), api.ErrArg)
	does(t, "Unset", s.Unset(1), api.ErrArg)
	does(t, "Drop", s.Drop(1), api.ErrArg)
	for _, p := range []store.Ptr{{}, {Obj: 1, Hi: 4}, {Obj: -1}} {
		refuses(t, s, p, 4, false, api.ErrArg)
		does(t, "Put", s.Put(p, 4, number(1)), api.ErrArg)
		q, e := s.Move(p, 0)
		does(t, "Move", e, api.ErrArg)
		r, f := s.Part(p, 0, 1)
		does(t, "Part", f, api.ErrArg)
		if q != (store.Ptr{}) || r != (store.Ptr{}) {
			t.Errorf("%v, %v", q, r)
		}
	}
}

// Promise 11.2: which pointers are valid. All else about them and about the arguments comes behind.
func TestValidity(t *testing.T) {
	s := store.New()
	made(t, s, 8)
	does(t, "Drop", s.Drop(1), api.OK)
	made(t, s, 8)
	for _, x := range []struct {
		p    store.Ptr
		want api.Errno
	}{
		{store.Ptr{}, api.ErrNil},
		{store.Ptr{Hi: 8}, api.ErrNil},
		{store.Ptr{Lo: -5, Hi: 5, Off: 99}, api.ErrNil},
		{store.Ptr{Obj: 3, Hi: 8}, api.ErrNone},
		{store.Ptr{Obj: -1, Hi: 8}, api.ErrNone},
		{store.Ptr{Obj: math.MinInt}, api.ErrNone},
		{store.Ptr{Obj: math.MaxInt, Hi: 8, Off: 9}, api.ErrNone},
		{store.Ptr{Obj: 1, Hi: 8}, api.ErrDead},
		{store.Ptr{Obj: 1, Hi: 8, Off: 99}, api.ErrDead},
	} {
		for _, by := range []int64{0, 1, math.MinInt64, math.MaxInt64} {
			if p, e := s.Move(x.p, by); e != x.want || p != (store.Ptr{}) {
				t.Errorf("Move(%v, %d): %v, %v", x.p, by, p, e)
			}
		}
		for _, size := range []int{0, 1, -1, math.MaxInt} {
			if p, e := s.Part(x.p, -size, size); e != x.want || p != (store.Ptr{}) {
				t.Errorf("Part(%v, %d, %d): %v, %v", x.p, -size, size, p, e)
			}
		}
		refuses(t, s, x.p, 4, false, x.want)
		refuses(t, s, x.p, 4, true, x.want)
		refuses(t, s, x.p, 1, false, x.want)
		does(t, "Put", s.Put(x.p, 1, number(1)), x.want)
		does(t, "Put", s.Put(x.p, 4, pointer(store.Ptr{})), x.want)
		// the arguments of Load and Put come first
		refuses(t, s, x.p, 2, false, api.ErrArg)
		refuses(t, s, x.p, 1, true, api.ErrArg)
		does(t, "Put", s.Put(x.p, 3, number(1)), api.ErrArg)
		does(t, "Put", s.Put(x.p, 1, pointer(store.Ptr{})), api.ErrArg)
	}
}

// Promise 11.2: Move, within what a pointer covers and to its end.
func TestMove(t *testing.T) {
	s := store.New()
	made(t, s, 100)
	whole := store.Ptr{Obj: 1, Hi: 100}
	part := store.Ptr{Obj: 1, Lo: 20, Hi: 30, Off: 24}
	for _, x := range []struct {
		p   store.Ptr
		by  int64
		off int // -1 for ErrBound
	}{
		{whole, 0, 0}, {whole, 99, 99}, {whole, 100, 100}, {whole, 101, -1}, {whole, -1, -1},
		{at(whole, 100), 0, 100}, {at(whole, 100), -100, 0}, {at(whole, 100), -101, -1}, {at(whole, 100), 1, -1},
		{part, 0, 24}, {part, -4, 20}, {part, -5, -1}, {part, 6, 30}, {part, 7, -1},
		{whole, math.MaxInt64, -1}, {whole, math.MinInt64, -1}, {at(whole, 1), math.MaxInt64, -1}, {at(whole, 100), math.MinInt64, -1},
		// pointers that no call has given
		{store.Ptr{Obj: 1, Lo: 500, Hi: 600, Off: 400}, 100, 500},
		{store.Ptr{Obj: 1, Lo: 500, Hi: 600, Off: 700}, -100, 600},
		{store.Ptr{Obj: 1, Lo: 500, Hi: 600, Off: 400}, 99, -1},
		{store.Ptr{Obj: 1, Lo: 5, Hi: 4, Off: 5}, 0, -1},
		{store.Ptr{Obj: 1, Lo: math.MinInt, Hi: math.MaxInt, Off: math.MaxInt}, 1, -1},
		{store.Ptr{Obj: 1, Lo: math.MinInt, Hi: math.MaxInt, Off: math.MaxInt}, math.MaxInt64, -1},
		{store.Ptr{Obj: 1, Lo: math.MinInt, Hi: math.MaxInt, Off: math.MinInt}, -1, -1},
		{store.Ptr{Obj: 1, Lo: math.MinInt, Hi: math.MaxInt, Off: math.MinInt}, math.MinInt64, -1},
		{store.Ptr{Obj: 1, Lo: math.MinInt, Hi: math.MaxInt, Off: math.MaxInt}, -math.MaxInt64, 0},
		{store.Ptr{Obj: 1, Lo: math.MinInt, Hi: math.MaxInt, Off: -7}, math.MaxInt64, math.MaxInt - 7},
		{store.Ptr{Obj: 1, Lo: math.MinInt, Hi: math.MinInt, Off: 0}, 0, -1},
	} {
		want, wantE := at(x.p, x.off), api.OK
		if x.off < 0 {
			want, wantE = store.Ptr{}, api.ErrBound
		}
		if p, e := s.Move(x.p, x.by); p != want || e != wantE {
			t.Errorf("Move(%v, %d): %v, %v, not %v, %v", x.p, x.by, p, e, want, wantE)
		}
	}
	if p, e := s.Move(store.Ptr{Obj: 1, Lo: -9, Hi: 9, Off: 3}, -8); e != api.OK || p.Off != -5 {
		t.Errorf("to below 0: %v, %v", p, e)
	}
}

// Promise 11.2: Part, from where a pointer is.
func TestPart(t *testing.T) {
	s := store.New()
	made(t, s, 100)
	whole := store.Ptr{Obj: 1, Hi: 100}
	part := store.Ptr{Obj: 1, Lo: 20, Hi: 30, Off: 24}
	wide := store.Ptr{Obj: 1, Lo: math.MinInt, Hi: math.MaxInt}
	for _, x := range []struct {
		p        store.Ptr
		at, size int
		e        api.Errno
	}{
		{whole, 0, 100, api.OK}, {whole, 0, 1, api.OK}, {whole, 99, 1, api.OK}, {whole, 40, 60, api.OK},
		{whole, 0, 101, api.ErrBound}, {whole, 99, 2, api.ErrBound}, {whole, 100, 1, api.ErrBound}, {whole, 101, 1, api.ErrBound},
		{whole, -1, 1, api.ErrBound}, {whole, -1, 5, api.ErrBound}, {at(whole, 50), -1, 1, api.ErrBound}, {whole, 0, 0, api.ErrBound}, {whole, 5, -1, api.ErrBound},
		{at(whole, 40), 10, 50, api.OK}, {at(whole, 40), 10, 51, api.ErrBound}, {at(whole, 100), 0, 1, api.ErrBound},
		{part, 0, 6, api.OK}, {part, 0, 7, api.ErrBound}, {part, 5, 1, api.OK}, {part, 6, 1, api.ErrBound},
		{whole, math.MaxInt, 1, api.ErrBound}, {whole, 0, math.MaxInt, api.ErrBound}, {whole, math.MaxInt, math.MaxInt, api.ErrBound}, {whole, math.MinInt, 1, api.ErrBound}, {whole, 0, math.MinInt, api.ErrBound}, {at(whole, 100), math.MaxInt, math.MaxInt, api.ErrBound},
		// pointers that no call has given
		{at(wide, math.MaxInt), 0, 1, api.ErrBound}, {at(wide, math.MaxInt-5), 3, 2, api.OK}, {at(wide, math.MaxInt-5), 3, 3, api.ErrBound},
		{at(wide, math.MinInt), math.MaxInt, math.MaxInt, api.OK}, {wide, math.MaxInt - 1, 1, api.OK}, {wide, math.MaxInt, 1, api.ErrBound},
		{store.Ptr{Obj: 1, Lo: 0, Hi: math.MinInt, Off: math.MaxInt}, 0, 1, api.ErrBound},
		{store.Ptr{Obj: 1, Lo: 0, Hi: math.MinInt, Off: 1}, 0, 1, api.ErrBound},
		{store.Ptr{Obj: 1, Lo: 50, Hi: 60, Off: 40}, 0, 20, api.OK}, // Lo is not asked
		{store.Ptr{Obj: 1, Lo: 0, Hi: 300, Off: 200}, 0, 100, api.OK},
	} {
		want := store.Ptr{}
		if x.e == api.OK {
			from := x.p.Off + x.at
			want = store.Ptr{Obj: 1, Lo: from, Hi: from + x.size, Off: from}
		}
		if p, e := s.Part(x.p, x.at, x.size); p != want || e != x.e {
			t.Errorf("Part(%v, %d, %d): %v, %v, not %v, %v", x.p, x.at, x.size, p, e, want, x.e)
		}
	}
}
