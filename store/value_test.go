package store_test

import (
	"math"
	"testing"

	"rushlight/api"
	"rushlight/store"
)

// The example of the chapter.
func TestExample(t *testing.T) {
	s := store.New()
	p := made(t, s, 8)
	does(t, "Put", s.Put(at(p, 4), 4, number(7)), api.OK)
	loads(t, s, at(p, 4), 4, number(7))
	refuses(t, s, p, 4, false, api.ErrUnset)
	q, e := s.Move(p, 8)
	does(t, "Move", e, api.OK)
	refuses(t, s, q, 4, false, api.ErrBound)
	refuses(t, s, q, 1, false, api.ErrBound)
}

// Promises 11.3 and 11.4: arguments that there cannot be.
func TestSizes(t *testing.T) {
	s := store.New()
	p := made(t, s, 8)
	for _, size := range []int{0, -1, 2, 3, 5, 8, 1 << 32, math.MinInt, math.MaxInt, 1<<32 + 4} {
		for _, ptr := range []bool{false, true} {
			refuses(t, s, p, size, ptr, api.ErrArg)
			does(t, "Put", s.Put(p, size, store.Value{Is: ptr}), api.ErrArg)
		}
	}
	refuses(t, s, p, 1, true, api.ErrArg)
	does(t, "Put", s.Put(p, 1, pointer(p)), api.ErrArg)
	refuses(t, s, p, 1, false, api.ErrUnset) // nothing was stored
	does(t, "Put", s.Put(p, 1, store.Value{Num: 5, Ptr: p}), api.OK)
	loads(t, s, p, 1, number(5)) // a number, whatever stands in its Ptr
}

// Promises 11.3 and 11.4: what a pointer covers, and the object.
func TestBounds(t *testing.T) {
	s := store.New()
	made(t, s, 100)
	does(t, "Fill", s.Fill(1, make([]byte, 100)), api.OK)
	for _, x := range []struct {
		lo, hi, off, size int
		e                 api.Errno
	}{
		{0, 100, 0, 4, api.OK}, {0, 100, 96, 4, api.OK}, {0, 100, 97, 4, api.ErrBound}, {0, 100, 99, 1, api.OK}, {0, 100, 100, 1, api.ErrBound}, {0, 100, -1, 1, api.ErrBound}, {0, 100, -1, 4, api.ErrBound},
		{20, 30, 20, 4, api.OK}, {20, 30, 26, 4, api.OK}, {20, 30, 27, 4, api.ErrBound}, {20, 30, 29, 1, api.OK}, {20, 30, 30, 1, api.ErrBound}, {20, 30, 19, 1, api.ErrBound}, {20, 30, 18, 4, api.ErrBound},
		{20, 23, 20, 4, api.ErrBound}, {20, 20, 20, 1, api.ErrBound}, {30, 20, 25, 1, api.ErrBound},
		// pointers that no call has given
		{0, 200, 99, 1, api.OK}, {0, 200, 100, 1, api.ErrBound}, {0, 200, 97, 4, api.ErrBound}, {-50, 100, -1, 1, api.ErrBound}, {-50, 100, -4, 4, api.ErrBound}, {-50, 100, 0, 4, api.OK},
		{math.MinInt, math.MaxInt, math.MaxInt, 4, api.ErrBound}, {math.MinInt, math.MaxInt, math.MaxInt - 3, 4, api.ErrBound}, {math.MinInt, math.MaxInt, math.MinInt, 1, api.ErrBound}, {math.MinInt, math.MaxInt, 96, 4, api.OK}, {math.MaxInt, math.MinInt, 50, 1, api.ErrBound}, {math.MinInt, math.MinInt, 50, 1, api.ErrBound}, {math.MaxInt, math.MaxInt, 50, 1, api.ErrBound},
	} {
		p := store.Ptr{Obj: 1, Lo: x.lo, Hi: x.hi, Off: x.off}
		if v, e := s.Load(p, x.size, false); v != (store.Value{}) || e != x.e {
			t.Errorf("load of %d bytes at %v: %v, %v, not %v", x.size, p, v, e, x.e)
		}
		if x.size == 4 {
			if v, e := s.Load(p, 4, true); v.Is != (x.e == api.OK) || e != x.e {
				t.Errorf("load of a pointer at %v: %v, %v, not %v", p, v, e, x.e)
			}
			does(t, "Put of a pointer", s.Put(p, 4, pointer(store.Ptr{})), x.e)
		}
		does(t, "Put", s.Put(p, x.size, number(0)), x.e)
	}
	small := made(t, s, 3)
	does(t, "Fill", s.Fill(small.Obj, []byte{1, 2, 3}), api.OK)
	small.Hi = 100
	refuses(t, s, small, 4, false, api.ErrBound)
	does(t, "Put", s.Put(small, 4, number(0)), api.ErrBound)
	loads(t, s, at(small, 2), 1, number(3))
}

// Promises 11.3 and 11.4: numbers, and their bytes. They need not be aligned.
func TestNumbers(t *testing.T) {
	s := store.New()
	p := made(t, s, 1030)
	does(t, "Put", s.Put(at(p, 1), 4, number(0x89abcdef)), api.OK)
	for k, b := range []uint32{0xef, 0xcd, 0xab, 0x89} {
		loads(t, s, at(p, 1+k), 1, number(b))
	}
	loads(t, s, at(p, 1), 4, number(0x89abcdef))
	refuses(t, s, p, 1, false, api.ErrUnset)
	refuses(t, s, p, 4, false, api.ErrUnset)
	refuses(t, s, at(p, 2), 4, false, api.ErrUnset)
	refuses(t, s, at(p, 2), 4, true, api.ErrUnset)
	does(t, "Put", s.Put(at(p, 5), 1, number(0xfffffe12)), api.OK)
	loads(t, s, at(p, 5), 1, number(0x12))
	loads(t, s, at(p, 2), 4, number(0x1289abcd))
	refuses(t, s, at(p, 6), 1, false, api.ErrUnset)
	for off := 500; off < 1026; off++ {
		does(t, "Put", s.Put(at(p, off), 4, number(uint32(off)*0x01234567)), api.OK)
		loads(t, s, at(p, off), 4, number(uint32(off)*0x01234567))
	}
	loads(t, s, at(p, 1025), 4, number(1025*0x01234567&math.MaxUint32))
	loads(t, s, at(p, 1028), 1, number(1025*0x01234567>>24&0xff))
}

// Promises 11.3 and 11.4: stored pointers, whatever they are.
func TestPointers(t *testing.T) {
	s := store.New()
	p, q := made(t, s, 16), made(t, s, 16)
	for _, x := range []store.Ptr{p, q, {}, {Obj: 1, Lo: 3, Hi: 9, Off: 9}, {Lo: 1, Hi: 2, Off: 3}, {Obj: 99, Hi: 1}, {Obj: -1, Lo: math.MinInt, Hi: math.MaxInt, Off: -1}} {
		for _, off := range []int{0, 4, 7, 12} {
			does(t, "Put", s.Put(at(q, off), 4, store.Value{Num: 0xffffffff, Ptr: x, Is: true}), api.OK)
			loads(t, s, at(q, off), 4, pointer(x))
			loads(t, s, at(q, off), 4, number(0))
			loads(t, s, at(q, off+3), 1, number(0))
		}
	}
	// a pointer may be read when what it points to is dead
	does(t, "Put", s.Put(q, 4, pointer(p)), api.OK)
	does(t, "Drop", s.Drop(p.Obj), api.OK)
	loads(t, s, q, 4, pointer(p))
	// four bytes of numbers are the null pointer
	does(t, "Put", s.Put(q, 4, number(77)), api.OK)
	loads(t, s, q, 4, pointer(store.Ptr{}))
	loads(t, s, q, 4, number(77))
	does(t, "Fill", s.Fill(q.Obj, make([]byte, 16)), api.OK)
	loads(t, s, at(q, 5), 4, pointer(store.Ptr{}))
}

// Promise 11.4: a pointer of which a byte is overwritten is no longer intact; the others of its bytes stay.
func TestOverwrittenPointers(t *testing.T) {
	for _, x := range []struct {
		off, size int
		over      bool
	}{{4, 1, false}, {5, 1, true}, {6, 1, true}, {8, 1, true}, {9, 1, false}, {1, 4, false}, {2, 4, true}, {5, 4, true}, {8, 4, true}, {9, 4, false}} {
		for _, isPtr := range []bool{false, true} {
			if isPtr && (x.size == 1 || x.off == 5) {
				continue
			}
			s := store.New()
			p := made(t, s, 16)
			does(t, "Put", s.Put(at(p, 5), 4, pointer(p)), api.OK)
			v := number(0xffffffff)
			if isPtr {
				v = pointer(at(p, 1))
			}
			does(t, "Put", s.Put(at(p, x.off), x.size, v), api.OK)
			want := pointer(p)
			if x.over {
				want = pointer(store.Ptr{})
			}
			loads(t, s, at(p, 5), 4, want)
			if isPtr {
				loads(t, s, at(p, x.off), 4, v)
			}
			for k := 5; k < 9; k++ {
				b := uint32(0)
				if k >= x.off && k < x.off+x.size && !isPtr {
					b = 0xff
				}
				loads(t, s, at(p, k), 1, number(b))
			}
		}
	}
	for n, over := range []bool{false, false, false, true, true, true, true, true, true} {
		s := store.New()
		p := made(t, s, 8)
		does(t, "Put", s.Put(at(p, 2), 4, pointer(p)), api.OK)
		does(t, "Fill", s.Fill(p.Obj, make([]byte, n)), api.OK)
		want := pointer(p)
		if over {
			want = pointer(store.Ptr{})
		}
		loads(t, s, at(p, 2), 4, want)
	}
}

// Promise 11.4: a Put that is refused stores nothing.
func TestRefusedPut(t *testing.T) {
	s := store.New()
	p := made(t, s, 6)
	does(t, "Put", s.Put(at(p, 2), 4, pointer(p)), api.OK)
	does(t, "Put", s.Put(at(p, 3), 4, number(5)), api.ErrBound)
	does(t, "Put", s.Put(at(p, 2), 2, number(5)), api.ErrArg)
	does(t, "Put", s.Put(store.Ptr{Obj: 1, Lo: 3, Hi: 6, Off: 2}, 1, number(5)), api.ErrBound)
	does(t, "Fill", s.Fill(p.Obj, make([]byte, 7)), api.ErrArg)
	loads(t, s, at(p, 2), 4, pointer(p))
	refuses(t, s, at(p, 1), 1, false, api.ErrUnset)
}
