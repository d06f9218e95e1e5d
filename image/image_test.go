package image_test

import (
	"bytes"
	"math"
	"reflect"
	"slices"
	"sort"
	"testing"

	"rushlight/alloc"
	"rushlight/api"
	"rushlight/asm"
	"rushlight/device"
	"rushlight/drawn"
	"rushlight/frame"
	"rushlight/gen"
	"rushlight/image"
	"rushlight/inst"
	"rushlight/ir"
	"rushlight/procs"
	"rushlight/region"
	"rushlight/rts"
	. "rushlight/sketch"
)

// usual is options.
func usual() api.Options { return api.Options{Data: 4096, Regs: 12, Notes: 16} }

// with is the usual options after a change.
func with(change func(o *api.Options)) api.Options {
	o := usual()
	change(&o)
	return o
}

// linked is the image of a module that Link must accept.
func linked(t *testing.T, m api.Module, o api.Options) api.Image {
	t.Helper()
	g, e := image.Link(m, o)
	if e != api.OK {
		t.Fatalf("Link: %v", e)
	}
	return g
}

// The example of the chapter.
func TestExample(t *testing.T) {
	m := Main(Ret(0, Const(0, 7)))
	x, e := image.Load(linked(t, m, usual()), nil)
	if e != api.OK || x.Run(1000, nil) != api.Halted || x.Exit() != 7 {
		t.Errorf("%v: %d, %d", e, x.State(), x.Exit())
	}
}

// Promise 28.1: which options are valid. Plain is not looked at.
func TestRight(t *testing.T) {
	for _, plain := range []bool{false, true} {
		for n, want := range map[int]bool{4096: true, 4100: true, 65536: true, 65532: true, 4092: false, 65540: false, 0: false, -4096: false, 4097: false, 4098: false, 4099: false, 5001: false, math.MaxInt - 3: false, math.MinInt: false} {
			if image.Right(with(func(o *api.Options) { o.Data, o.Plain = n, plain })) != want {
				t.Errorf("Data %d", n)
			}
		}
		for n := -2; n < 20; n++ {
			if image.Right(with(func(o *api.Options) { o.Regs, o.Plain = n, plain })) != (n >= 0 && n <= 12) {
				t.Errorf("Regs %d", n)
			}
		}
		for n := -2; n < 70; n++ {
			if image.Right(with(func(o *api.Options) { o.Notes, o.Plain = n, plain })) != (n >= 2 && n <= 64) {
				t.Errorf("Notes %d", n)
			}
		}
	}
	if image.Right(api.Options{}) || image.Right(with(func(o *api.Options) { o.Regs = math.MaxInt })) || image.Right(with(func(o *api.Options) { o.Notes = math.MinInt })) {
		t.Errorf("options far out")
	}
}

// large is a module of a main with a frame of so many bytes, if none of its registers is in the frame.
func large(bytes int) api.Module {
	m := Main(Ret(0, Const(0, 7)))
	m.Procs[0].Objects = Slots(bytes - 4)
	return m
}

// Promise 28.1: errors of Parts and Link, the first of several; beside an error there is nothing.
func TestErrors(t *testing.T) {
	bad := api.Options{Data: 4096, Regs: 13, Notes: 16}
	none := with(func(o *api.Options) { o.Regs = 0 })
	for name, x := range map[string]struct {
		m    api.Module
		o    api.Options
		want api.Errno
	}{
		"options":                     {Main(Ret(0)), bad, api.ErrArg},
		"no options":                  {Main(Ret(0)), api.Options{}, api.ErrArg},
		"options, and no module":      {api.Module{}, bad, api.ErrArg},
		"options, and a large frame":  {large(4000), bad, api.ErrArg},
		"no module":                   {api.Module{}, usual(), api.ErrForm},
		"a register that is not":      {Main(Ret(10)), usual(), api.ErrForm},
		"no form, and a large frame":  {api.Module{Procs: append(large(4000).Procs, api.Proc{})}, usual(), api.ErrForm},
		"a large frame":               {large(2004), usual(), api.ErrLong},
		"a frame with slots":          {large(2000), none, api.ErrLong},
		"a large frame that is never": {api.Module{Procs: append(Main(Ret(0)).Procs, large(2004).Procs...)}, usual(), api.ErrLong},
	} {
		if l, e := image.Parts(x.m, x.o); l != nil || e != x.want {
			t.Errorf("%s: Parts: %v, %v", name, l, e)
		}
		if g, e := image.Link(x.m, x.o); e != x.want || !reflect.DeepEqual(g, api.Image{}) {
			t.Errorf("%s: Link: %v", name, e)
		}
	}
	for _, m := range []api.Module{large(2000 - 4), large(8)} { // 8 is saved
		if _, e := image.Parts(m, usual()); e != api.OK {
			t.Errorf("Parts: %v", e)
		}
	}
}

// Promise 28.1: the globals leave 1024 bytes.
func TestGlobalsEnd(t *testing.T) {
	for _, data := range []int{4096, 4100, 65536} {
		o := with(func(o *api.Options) { o.Data = data })
		left := data - 1024 - (rts.Globals - api.Base)
		sizes := []int{}
		for left > 32768 {
			sizes, left = append(sizes, 32768), left-32768
		}
		for more, want := range map[int]api.Errno{-4: api.OK, -3: api.OK, 0: api.OK, 1: api.ErrLong, 4: api.ErrLong} {
			m := WithGlobals(Main(Ret(0, Const(0, 7))), append(slices.Clone(sizes), left+more)...)
			g, e := image.Link(m, o)
			if e != want {
				t.Errorf("%d and %d bytes: %v", data, more, e)
			}
			if _, e := image.Parts(m, o); e != api.OK {
				t.Errorf("%d and %d bytes: Parts: %v", data, more, e)
			}
			if e == api.OK && g.Limit != gen.Limit(m) {
				t.Errorf("%d and %d bytes: limit %#x", data, more, g.Limit)
			}
		}
	}
}

// chain is a module of procedures with so many blocks in all, of instructions that are all the same.
func chain(blocks int, l ...api.Ins) api.Module {
	var m api.Module
	for blocks > 0 {
		n := min(blocks, ir.MaxBlocks-5)
		blocks -= n
		p := api.Proc{Regs: 3}
		for k := range n - 1 {
			p.Blocks = append(p.Blocks, Jump(k+1, l...))
		}
		p.Blocks = append(p.Blocks, Ret(0, l...))
		m.Procs = append(m.Procs, p)
	}
	return m
}

// Promise 28.1: as many labels, items and words as there may be, and one more.
func TestTooMuch(t *testing.T) {
	for blocks, want := range map[int]api.Errno{4096 - 16 - 2: api.OK, 4096 - 16 - 1: api.ErrLong, 5000: api.ErrLong, 100000: api.ErrLong} {
		if _, e := image.Link(chain(blocks, Const(0, 1)), usual()); e != want {
			t.Errorf("%d blocks: %v", blocks, e)
		}
	}
	for _, x := range []struct {
		name         string
		small, large api.Ins // of one and two words; or of one and two items
	}{
		{"words", Const(0, 1), Const(0, 70001)},
		{"items", Un(api.FnZero, 0, 1), Bin(api.FnEq, 0, 1, 2)},
	} {
		// Many large ones, and behind them so many small ones.
		fits := func(larges, smalls int) bool {
			l := append(slices.Repeat([]api.Ins{x.large}, larges), slices.Repeat([]api.Ins{x.small}, smalls)...)
			g, e := image.Link(Main(Ret(0, l...)), usual())
			if e != api.OK && e != api.ErrLong || e == api.OK && len(g.Code) > device.MaxCode {
				t.Fatalf("%s: %v, %d words", x.name, e, len(g.Code))
			}
			return e == api.OK
		}
		if !fits(16300, 0) || fits(16400, 0) {
			t.Errorf("%s: not as many as expected", x.name)
		}
		smalls := sort.Search(300, func(n int) bool { return !fits(16300, n) })
		if smalls == 300 {
			t.Fatalf("%s: no number of small ones is too much", x.name)
		}
		l := append(slices.Repeat([]api.Ins{x.large}, 16300), slices.Repeat([]api.Ins{x.small}, smalls-1)...)
		most := len(linked(t, Main(Ret(0, l...)), usual()).Code)
		if x.name == "words" && most != device.MaxCode {
			t.Errorf("at most %d words", most)
		}
	}
}

// Promise 28.1: the parts are what the layers below make of each procedure.
func TestParts(t *testing.T) {
	for n := range 300 {
		m := drawn.CallModule(n)
		d := drawn.Dice(n)
		o := api.Options{Data: 4096 + 4*d.Roll(15000), Regs: d.Roll(13), Notes: 2 + d.Roll(63), Plain: d.Roll(2) == 0}
		parts, e := image.Parts(m, o)
		if e != api.OK || len(parts) != len(m.Procs) {
			t.Fatalf("%d: %v", n, e)
		}
		for k, p := range parts {
			seats, slots, _ := alloc.Assign(m.Procs[k], o.Regs)
			plan, _ := region.Plan(m, k, alloc.Spilled(seats), o.Notes)
			f, _ := frame.Lay(m.Procs[k], seats, slots)
			if !slices.Equal(p.Seats, seats) || p.Slots != slots || !procs.Equal(p.Plan, plan) || !reflect.DeepEqual(p.Frame, f) {
				t.Fatalf("%d: procedure %d: %v", n, k, p)
			}
		}
	}
}

// Promise 28.1: an image is the runtime and the code of the plans; the data are 0 but for the globals.
func TestLink(t *testing.T) {
	for n := range 300 {
		m := drawn.CallModule(n)
		if n%3 == 0 {
			m = drawn.WildModule(n)
		}
		d := drawn.Dice(n)
		m.Main = mainOf(&d, m)
		o := api.Options{Data: 4096 + 4*d.Roll(15000), Regs: d.Roll(13), Notes: 2 + d.Roll(63), Plain: d.Roll(2) == 0}
		g := linked(t, m, o)
		parts, _ := image.Parts(m, o)
		planned := m
		planned.Procs = nil
		for _, p := range parts {
			planned.Procs = append(planned.Procs, p.Plan)
		}
		code := rts.Items(uint32(api.Base+o.Data), rts.FirstLabel+m.Main)
		next := rts.FirstLabel + len(m.Procs)
		for k, p := range parts {
			var l []api.Item
			l, next = gen.Proc(planned, k, p.Seats, p.Frame, next)
			code = append(code, l...)
		}
		words, _, e := asm.Assemble(code)
		if e != api.OK || !slices.Equal(g.Code, words) {
			t.Fatalf("%d: other code: %v", n, e)
		}
		data := make([]byte, o.Data)
		for k, b := range m.Data {
			copy(data[gen.Global(m, k)-api.Base:], b)
		}
		if !bytes.Equal(g.Data, data) || g.Limit != gen.Limit(m) || g.Notes != o.Notes {
			t.Fatalf("%d: other data, limit %#x, notes %d", n, g.Limit, g.Notes)
		}
	}
}

// mainOf is a procedure of a module that may be main.
func mainOf(d *drawn.Dice, m api.Module) int {
	for {
		if n := d.Roll(len(m.Procs)); m.Procs[n].Params == 0 && !m.Procs[n].Void {
			return n
		}
	}
}

// Promise 28.2, and P5 of the whole: each word is one of an instruction, and each branch and jump leads to one.
func TestWords(t *testing.T) {
	for n := range 100 {
		m := drawn.Lowered(n)
		d := drawn.Dice(n)
		if n%2 == 0 {
			m = drawn.Better(m)
		}
		g, e := image.Link(m, api.Options{Data: 65536, Regs: d.Roll(13), Notes: 2 + d.Roll(63)})
		if e == api.ErrLong {
			continue
		}
		for k, w := range g.Code {
			i, e := inst.Decode(w)
			if e != api.OK {
				t.Fatalf("%d: word %d: %#x", n, k, w)
			}
			form := inst.Form(i.Op)
			if to := 4*k + i.Imm; (form == 'B' || form == 'J') && (to < 0 || to%4 != 0 || to/4 >= len(g.Code)) {
				t.Fatalf("%d: word %d leads to %d", n, k, to)
			}
		}
	}
}

// Promise 28.1: Load is device.New.
func TestLoad(t *testing.T) {
	g := linked(t, WithGlobals(Main(Ret(0, In(0), Out(0))), 5), usual())
	x, e := image.Load(g, []uint32{77, 78})
	if e != api.OK || !bytes.Equal(x.Data(), g.Data) || x.Run(1000, nil) != api.Halted || x.Exit() != 77 {
		t.Errorf("%v: %v", e, x)
	}
	for name, g := range map[string]api.Image{
		"nothing": {}, "no code": {Data: make([]byte, 4096)}, "no data": {Code: []uint32{19}}, "odd data": {Code: []uint32{19}, Data: make([]byte, 5)},
		"much code": {Code: make([]uint32, device.MaxCode+1), Data: make([]byte, 4)}, "much data": {Code: []uint32{19}, Data: make([]byte, device.MaxData+4)},
	} {
		if x, e := image.Load(g, nil); x != nil || e != api.ErrArg {
			t.Errorf("%s: %v", name, e)
		}
	}
}

// Rules R1 and R3: arguments are not changed, results are not shared, and what is not valid ends in no panic.
func TestArguments(t *testing.T) {
	m, o := WithGlobals(Main(Branch(0, 0, 1, In(0), Out(0)), Ret(0)), 8, 4), usual()
	kept := WithGlobals(Main(Branch(0, 0, 1, In(0), Out(0)), Ret(0)), 8, 4)
	g, parts := linked(t, m, o), partsOf(t, m, o)
	if !reflect.DeepEqual(m, kept) {
		t.Errorf("changed: %v", m)
	}
	was, wasParts := linked(t, m, o), partsOf(t, m, o)
	clear(g.Code)
	clear(g.Data)
	clear(parts[0].Seats)
	clear(parts[0].Plan.Blocks[0].Ins)
	clear(parts[0].Plan.Blocks)
	if !reflect.DeepEqual(m, kept) || !reflect.DeepEqual(linked(t, m, o), was) || !reflect.DeepEqual(partsOf(t, m, o), wasParts) {
		t.Errorf("shared")
	}
	for n := range 200 {
		m := drawn.WildModule(n)
		d := drawn.Dice(n)
		p := &m.Procs[d.Roll(len(m.Procs))]
		switch d.Roll(6) {
		case 0:
			p.Blocks = nil
		case 1:
			p.Regs = -d.Roll(3)
		case 2:
			p.Blocks[0].To = 1 << 40
		case 3:
			p.Blocks[0].Ins = append(p.Blocks[0].Ins, api.Ins{Op: d.Roll(20), D: d.Roll(20), Obj: -1})
		case 4:
			m.Data = nil
		case 5:
			m.Globals, m.Main = nil, d.Roll(9)-2
		}
		image.Link(m, usual())
		image.Parts(m, usual())
	}
}

// partsOf is the parts of a module that Parts must accept.
func partsOf(t *testing.T, m api.Module, o api.Options) []image.Part {
	t.Helper()
	l, e := image.Parts(m, o)
	if e != api.OK {
		t.Fatalf("Parts: %v", e)
	}
	return l
}
