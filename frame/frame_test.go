package frame_test

import (
	"math"
	"reflect"
	"slices"
	"testing"

	"rushlight/alloc"
	"rushlight/api"
	"rushlight/drawn"
	"rushlight/frame"
	"rushlight/irrun"
	. "rushlight/sketch"
)

// numbers is numbers.
func numbers(l ...int) []int { return l }

// lay is the frame of a procedure that has as many registers as seats, and objects of these sizes.
func lay(l []api.Seat, slots int, sizes ...int) (api.Frame, api.Errno) {
	return frame.Lay(api.Proc{Regs: len(l), Objects: Slots(sizes...)}, l, slots)
}

// same reports whether two frames are the same, where nil and empty lists are.
func same(a, b api.Frame) bool {
	return a.Size == b.Size && slices.Equal(a.Saved, b.Saved) && a.Slots == b.Slots && slices.Equal(a.Objects, b.Objects)
}

// The example of the chapter.
func TestExample(t *testing.T) {
	f, e := lay(Seats(InReg(8), InReg(9)), 1, 5)
	if e != api.OK || !same(f, api.Frame{Size: 24, Saved: numbers(8, 9), Slots: 12, Objects: numbers(16)}) {
		t.Errorf("%v, %v", f, e)
	}
	if a, b, c := frame.Kept(f, 0), frame.Kept(f, 1), frame.Slot(f, 0); a != 4 || b != 8 || c != 12 {
		t.Errorf("%d, %d, %d", a, b, c)
	}
}

// Promise 25.1: frames by hand.
func TestLay(t *testing.T) {
	for name, x := range map[string]struct {
		seats []api.Seat
		slots int
		sizes []int
		want  api.Frame
	}{
		"nothing":                     {nil, 0, nil, api.Frame{Size: 4, Slots: 4}},
		"a register":                  {Seats(InReg(27)), 0, nil, api.Frame{Size: 8, Saved: numbers(27), Slots: 8}},
		"a register several times":    {Seats(InReg(9), InReg(9), InReg(9)), 0, nil, api.Frame{Size: 8, Saved: numbers(9), Slots: 8}},
		"registers in their order":    {Seats(InReg(18), InReg(27), InReg(8), InReg(18), InReg(9)), 0, nil, api.Frame{Size: 20, Saved: numbers(8, 9, 18, 27), Slots: 20}},
		"nowhere":                     {Seats(Nowhere(), Nowhere()), 0, nil, api.Frame{Size: 4, Slots: 4}},
		"a slot":                      {Seats(InSlot(0)), 1, nil, api.Frame{Size: 8, Slots: 4}},
		"slots":                       {Seats(InSlot(2), InSlot(0), InSlot(1)), 3, nil, api.Frame{Size: 16, Slots: 4}},
		"slots that are not used":     {Seats(Nowhere()), 3, nil, api.Frame{Size: 16, Slots: 4}},
		"slots that are not counted":  {Seats(InSlot(5)), 0, nil, api.Frame{Size: 4, Slots: 4}},
		"an object":                   {nil, 0, numbers(4), api.Frame{Size: 8, Slots: 4, Objects: numbers(4)}},
		"objects of bytes":            {nil, 0, numbers(1, 1, 2, 3), api.Frame{Size: 20, Slots: 4, Objects: numbers(4, 8, 12, 16)}},
		"objects that are not words":  {nil, 0, numbers(5, 6, 7, 8, 9), api.Frame{Size: 48, Slots: 4, Objects: numbers(4, 12, 20, 28, 36)}},
		"a slot and an object":        {Seats(InSlot(0)), 1, numbers(3), api.Frame{Size: 12, Slots: 4, Objects: numbers(8)}},
		"a register and an object":    {Seats(InReg(8)), 0, numbers(3), api.Frame{Size: 12, Saved: numbers(8), Slots: 8, Objects: numbers(8)}},
		"some of everything":          {Seats(InSlot(1), InReg(19), Nowhere(), InReg(8), InSlot(0), InReg(19)), 2, numbers(10, 1, 4), api.Frame{Size: 40, Saved: numbers(8, 19), Slots: 12, Objects: numbers(20, 32, 36)}},
		"objects without bytes":       {nil, 1, numbers(0, 4, -1, math.MinInt, 4), api.Frame{Size: 16, Slots: 4, Objects: numbers(8, 8, 12, 12, 12)}},
		"as large as it may be":       {Seats(InReg(8)), 1, numbers(1985), api.Frame{Size: 2000, Saved: numbers(8), Slots: 8, Objects: numbers(12)}},
		"so by an object":             {nil, 0, numbers(1996), api.Frame{Size: 2000, Slots: 4, Objects: numbers(4)}},
		"so by slots":                 {nil, 499, nil, api.Frame{Size: 2000, Slots: 4}},
		"so by slots, with registers": {Seats(InReg(8), InReg(9)), 496, numbers(1), api.Frame{Size: 2000, Saved: numbers(8, 9), Slots: 12, Objects: numbers(1996)}},
	} {
		if f, e := lay(x.seats, x.slots, x.sizes...); e != api.OK || !same(f, x.want) {
			t.Errorf("%s: %v, %v", name, f, e)
		}
	}
}

// Promise 25.1: frames that are too large.
func TestErrLong(t *testing.T) {
	const most = math.MaxInt
	many := make([]api.Seat, 500)
	for n := range many {
		many[n] = InReg(n + 1)
	}
	for name, x := range map[string]struct {
		seats []api.Seat
		slots int
		sizes []int
	}{
		"an object of a byte too much": {Seats(InReg(8)), 1, numbers(1989)},
		"a slot too much":              {nil, 500, nil},
		"a register too much":          {Seats(InReg(8), InReg(9)), 498, nil},
		"an object too much":           {nil, 498, numbers(1, 1)},
		"many objects":                 {nil, 0, slices.Repeat(numbers(1), 500)},
		"many registers":               {many, 0, nil},
		"a large object":               {nil, 0, numbers(32768)},
		"large objects":                {nil, 0, slices.Repeat(numbers(32768), 400)},
		"as many slots as there are":   {nil, most, nil},
		"slots that are 0 again":       {nil, 1 << 62, nil},
		"slots that are 4 again":       {nil, 1<<62 + 1, numbers(4)},
		"slots below 0":                {nil, 1 << 61, nil},
		"an object beyond all":         {nil, 0, numbers(most)},
		"objects that are 0 again":     {nil, 0, numbers(1<<62, 1<<62, 1<<62, 1<<62)},
		"an object and many slots":     {nil, 1 << 61, numbers(1 << 62)},
	} {
		if f, e := lay(x.seats, x.slots, x.sizes...); e != api.ErrLong || !reflect.DeepEqual(f, api.Frame{}) {
			t.Errorf("%s: %v, %v", name, f, e)
		}
	}
}

// Promise 25.1: arguments that may not be, whether or not the frame would be too large.
func TestErrArg(t *testing.T) {
	for name, x := range map[string]struct {
		regs  int
		seats []api.Seat
		slots int
	}{
		"slots below 0":       {1, Seats(InReg(8)), -1},
		"slots far below 0":   {1, Seats(InReg(8)), math.MinInt},
		"a seat too little":   {2, Seats(InReg(8)), 0},
		"no seats":            {1, nil, 0},
		"a seat too much":     {1, Seats(InReg(8), InReg(9)), 0},
		"seats of nothing":    {0, Seats(Nowhere()), 0},
		"registers below 0":   {-1, nil, 0},
		"many registers":      {math.MaxInt, Seats(InReg(8)), 0},
		"a seat and slots":    {2, Seats(InReg(8)), -1},
		"and very many slots": {2, Seats(InReg(8)), math.MaxInt},
	} {
		for _, sizes := range [][]int{nil, {32768}} {
			if f, e := frame.Lay(api.Proc{Regs: x.regs, Objects: Slots(sizes...)}, x.seats, x.slots); e != api.ErrArg || !reflect.DeepEqual(f, api.Frame{}) {
				t.Errorf("%s: %v, %v", name, f, e)
			}
		}
	}
}

// Promise 25.1: where slots and registers lie.
func TestPlaces(t *testing.T) {
	f, _ := lay(Seats(InReg(8), InReg(9), InReg(18)), 7, 1)
	for n := range 7 {
		if got := frame.Slot(f, n); got != 16+4*n {
			t.Errorf("slot %d: %d", n, got)
		}
	}
	for k := range 3 {
		if got := frame.Kept(f, k); got != 4+4*k {
			t.Errorf("register %d: %d", k, got)
		}
	}
	for _, n := range []int{math.MaxInt, math.MinInt, -1} { // of no use, but they end
		frame.Slot(f, n)
		frame.Kept(f, n)
		frame.Slot(api.Frame{Slots: n}, n)
	}
}

// Promise 25.2: what lies in the frames of drawn procedures.
func TestDrawn(t *testing.T) {
	frames, long := 0, 0
	for n := range 1000 {
		m := drawn.PointerModule(n)
		if n%4 == 0 {
			m = drawn.Lowered(n)
		}
		for _, p := range m.Procs {
			l, slots, _ := alloc.Assign(p, n%(alloc.MaxRegs+1))
			slots += 100 * (n % 6) // there may be more than registers lie in
			f, e := frame.Lay(p, l, slots)
			if _, bytes := irrun.Place(p.Objects); 4+4*len(alloc.Given(l))+4*slots+bytes > frame.MaxFrame {
				if long++; e != api.ErrLong {
					t.Fatalf("%v, %v", f, e)
				}
				continue
			}
			if e != api.OK || !slices.Equal(f.Saved, alloc.Given(l)) || len(f.Objects) != len(p.Objects) {
				t.Fatalf("%v, %v", f, e)
			}
			checkApart(t, p, f, slots)
			frames++
		}
	}
	if frames < 2000 || long < 200 {
		t.Errorf("%d frames, %d that are too large", frames, long)
	}
}

// checkApart holds the parts of a frame with so many slots against each other and its Size.
func checkApart(t *testing.T, p api.Proc, f api.Frame, slots int) {
	t.Helper()
	parts := make([]int, frame.MaxFrame) // how many of them have each byte
	add := func(at, size int) {
		if at < 0 || at%4 != 0 || at+size > f.Size {
			t.Fatalf("%v: %d bytes at %d", f, size, at)
		}
		for n := range size {
			if parts[at+n]++; parts[at+n] > 1 {
				t.Fatalf("%v: two parts at %d", f, at+n)
			}
		}
	}
	add(0, 4)
	for k := range f.Saved {
		add(frame.Kept(f, k), 4)
	}
	for n := range slots {
		add(frame.Slot(f, n), 4)
	}
	for k, at := range f.Objects {
		add(at, p.Objects[k].Size)
	}
	if f.Size%4 != 0 || slices.Max(parts[f.Size-4:f.Size]) == 0 {
		t.Fatalf("%v: Size is too large", f)
	}
}

// Rule R3: nothing that is handed in is changed, and no two answers share anything.
func TestSharing(t *testing.T) {
	p := api.Proc{Regs: 3, Objects: Slots(4, 8)}
	l := Seats(InReg(9), InSlot(0), InReg(8))
	want := api.Frame{Size: 28, Saved: numbers(8, 9), Slots: 12, Objects: numbers(16, 20)}
	for range 2 {
		f, e := frame.Lay(p, l, 1)
		if e != api.OK || !same(f, want) {
			t.Fatalf("%v, %v", f, e)
		}
		clear(f.Saved)
		clear(f.Objects)
		_ = append(f.Saved, 7, 7, 7, 7)
		_ = append(f.Objects, 7, 7, 7, 7)
		if !slices.Equal(l, Seats(InReg(9), InSlot(0), InReg(8))) || !slices.Equal(p.Objects, Slots(4, 8)) {
			t.Fatalf("changed: %v, %v", l, p.Objects)
		}
	}
}
