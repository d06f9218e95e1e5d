package gen_test

import (
	"encoding/binary"
	"math"
	"slices"
	"testing"

	"rushlight/alloc"
	"rushlight/api"
	"rushlight/asm"
	"rushlight/device"
	"rushlight/drawn"
	"rushlight/frame"
	"rushlight/gen"
	"rushlight/ir"
	"rushlight/irrun"
	"rushlight/record"
	"rushlight/region"
	"rushlight/rts"
	. "rushlight/sketch"
)

// seated is where the registers of a procedure lie, and how many slots there are.
type seated struct {
	seats []api.Seat
	slots int
}

// assigned is where layer 24 puts the registers of each procedure.
func assigned(m api.Module, regs int) []seated {
	var l []seated
	for _, p := range m.Procs {
		seats, slots, _ := alloc.Assign(p, regs)
		l = append(l, seated{seats, slots})
	}
	return l
}

// machine is a machine with so many bytes of data, the runtime and the code of a module; or false if that is too long.
func machine(t *testing.T, m api.Module, l []seated, size int, inputs []uint32) (*device.Machine, bool) {
	t.Helper()
	code := rts.Items(uint32(api.Base+size), gen.Label(m.Main))
	next := gen.Label(len(m.Procs))
	for n, p := range m.Procs {
		f, e := frame.Lay(p, l[n].seats, l[n].slots)
		if e == api.ErrLong {
			return nil, false
		}
		var items []api.Item
		items, next = gen.Proc(m, n, l[n].seats, f, next)
		code = append(code, items...)
	}
	words, _, e := asm.Assemble(code)
	if e == api.ErrLong || len(words) > device.MaxCode {
		return nil, false
	}
	if e != api.OK {
		t.Fatalf("Assemble: %v", e)
	}
	data := make([]byte, size)
	for n, d := range m.Data {
		copy(data[gen.Global(m, n)-api.Base:], d)
	}
	x, e := device.New(words, data, inputs)
	if e != api.OK {
		t.Fatalf("New: %v", e)
	}
	return x, true
}

// ran is such a machine when it has run.
func ran(t *testing.T, m api.Module, l []seated, inputs []uint32) *device.Machine {
	t.Helper()
	x, is := machine(t, m, l, device.MaxData, inputs)
	if !is {
		t.Fatal("too long")
	}
	x.Run(math.MaxInt, nil)
	return x
}

// word is a word of the data.
func word(x *device.Machine, at int) uint32 {
	return binary.LittleEndian.Uint32(x.Data()[at-api.Base:])
}

// notes is the notes of the epoch of a machine, each an address and a word.
func notes(x *device.Machine) [][2]uint32 {
	var l [][2]uint32
	for at := rts.Log; at < rts.Globals && word(x, at+8) == word(x, rts.Selector); at += 12 {
		l = append(l, [2]uint32{word(x, at), word(x, at+4)})
	}
	return l
}

// same reports whether a machine has done what a run did that terminated: the values have the numbers 0, 1, 2 and so on.
func same(x *device.Machine, want api.Outcome) bool {
	for n, r := range x.Log() {
		if r.Seq != uint32(n) {
			return false
		}
	}
	return x.State() == api.Halted && x.Exit() == want.Exit && slices.Equal(record.Values(x.Log()), want.Out) &&
		word(x, rts.Seq) == uint32(len(want.Out)) && word(x, rts.Index) == uint32(want.Ins)
}

// checkSame checks that the code of a module does what irrun.Run does.
func checkSame(t *testing.T, name string, m api.Module, l []seated, inputs ...uint32) *device.Machine {
	t.Helper()
	want := irrun.Run(m, inputs, 100000)
	if want.E != api.OK {
		t.Fatalf("%s: %v", name, want.E)
	}
	x := ran(t, m, l, inputs)
	if !same(x, want) {
		t.Fatalf("%s, inputs %v: %v, exit %d, state %d; not %v\n%s", name, inputs, x.Log(), x.Exit(), x.State(), want, ir.Text(m.Procs[m.Main]))
	}
	return x
}

// seatings is all ways in which three registers may lie, each in a register of the machine or a slot; two more are in slots.
func seatings() [][]seated {
	var l [][]seated
	for n := range 8 {
		s := Seats(InReg(8), InReg(27), InReg(18), InSlot(3), InSlot(4))
		for r := range 3 {
			if n>>r&1 == 1 {
				s[r] = InSlot(r)
			}
		}
		l = append(l, []seated{{s, 5}})
	}
	return l
}

// single is a module of a main with 5 registers, two objects and two globals.
func single(l ...api.Ins) api.Module {
	m := WithGlobals(Main(Ret(2, l...)), 6, 64)
	m.Procs[0].Regs, m.Procs[0].Objects = 5, Slots(6, 64)
	return m
}

// Promise 27.2: all functions, wherever their operands and results lie, also where these are the same, noted or not.
func TestFunctions(t *testing.T) {
	values := []uint32{0, 1, 7, 31, 32, 1<<31 - 1, 1 << 31, 1<<32 - 7, 1<<32 - 1}
	for fn := api.FnAdd; fn <= api.FnZero; fn++ {
		for _, same := range [][3]int{{2, 0, 1}, {0, 0, 1}, {1, 0, 1}, {2, 0, 0}, {0, 0, 0}} {
			d, a, b := same[0], same[1], same[2]
			i := Bin(fn, d, a, b)
			if fn >= api.FnNeg {
				i = Un(fn, d, a)
			}
			var code []api.Ins
			for range values {
				for n := range values {
					i.Log = n%2 == 0
					code = append(code, In(0), In(1), Const(2, 9), i, Out(d), Out(0), Out(1), Mark())
				}
			}
			var inputs []uint32
			for _, x := range values {
				for _, y := range values {
					inputs = append(inputs, x, y)
				}
			}
			for _, l := range seatings() {
				checkSame(t, "functions", single(code...), l, inputs...)
			}
		}
	}
}

// Promise 27.2: what is noted of a slot is where it lies and what was there, ahead of being overwritten. A register of the machine needs no note.
func TestNotedSlots(t *testing.T) {
	for name, i := range map[string]api.Ins{
		"constant": Const(2, 7), "copy": Copy(2, 0), "function": Bin(api.FnGe, 2, 2, 0), "unary": Un(api.FnNot, 2, 2), "load": Load(2, 4, 0, 4),
		"object": Frame(2, 0, 2), "global": Global(2, 0, 2), "call": Call(2, 1), "input": In(2),
	} {
		for _, l := range seatings() {
			m := single(Const(0, 5), Const(2, 1234), Global(4, 1, 0), Mark(), Log(i), Const(2, 0))
			m.Procs = append(m.Procs, api.Proc{Blocks: []api.Block{Ret(0)}, Regs: 1})
			x := ran(t, m, append(l, seated{Seats(InReg(8)), 0}), nil)
			f, _ := frame.Lay(m.Procs[0], l[0].seats, 5)
			var want [][2]uint32
			if i.Op == api.IrIn {
				want = append(want, [2]uint32{rts.Index, 0})
			}
			if l[0].seats[2] == InSlot(2) {
				want = append(want, [2]uint32{uint32(api.Base + device.MaxData - f.Size + frame.Slot(f, 2)), 1234})
			}
			if got := notes(x); x.State() != api.Halted || !slices.Equal(got, want) {
				t.Errorf("%s in %v: %v, not %v", name, l[0].seats, got, want)
			}
		}
	}
}

// Promise 27.2: loads and stores of objects and globals at all distances, noted or not, wherever the registers lie.
func TestAccesses(t *testing.T) {
	for _, far := range []int{0, 4, 60, -4, 2044, 2048, 2052, -2048, -2052, 32764, 32768, -32768, 4096, -4096} {
		for _, store := range []api.Ins{Store(0, 1, far, 4), Store(0, 1, far, 1), Store(0, 1, far+1, 1), Store(0, 1, far+3, 1)} {
			if store.Off > 32768 {
				continue
			}
			for _, l := range seatings() {
				checkAccess(t, far, store, l)
				checkAccess(t, far, Log(store), l)
			}
		}
	}
}

// checkAccess checks a store, and a load from where that goes, far behind an address. Both lie in the first word of an object, then of a global.
func checkAccess(t *testing.T, far int, store api.Ins, l []seated) {
	t.Helper()
	for _, address := range []func(d, obj, off int) api.Ins{Frame, Global} {
		m := single(
			Const(4, 0x12345678), address(3, 1, 0), Store(3, 4, 0, 4), address(0, 1, -far), In(1), Mark(),
			store, Load(2, 0, store.Off, store.Size), Out(2), Load(3, 3, 0, 4), Out(3),
			Global(4, 1, 0), Load(4, 4, 0, 4), Out(4),
		)
		x := checkSame(t, "accesses", m, l, 0xfedcba98)
		if !store.Log {
			continue
		}
		f, _ := frame.Lay(m.Procs[0], l[0].seats, 5)
		at := uint32(api.Base + device.MaxData - f.Size + f.Objects[1])
		if address(0, 0, 0).Op == api.IrGlobal {
			at = gen.Global(m, 1)
		}
		if got := notes(x); len(got) == 0 || got[0] != [2]uint32{at, 0x12345678} {
			t.Errorf("%v: notes %v, not of %#x", store, got, at)
		}
	}
}

// Promise 27.2: outputs and inputs have their numbers, which are noted.
func TestPorts(t *testing.T) {
	for _, l := range seatings() {
		x := checkSame(t, "ports", single(In(0), In(1), Out(1), Out(0), In(2), Mark(), Out(2), In(0), In(1), Out(0)), l, 5, 6, 7, 8)
		if got := notes(x); !slices.Equal(got, [][2]uint32{{rts.Seq, 2}, {rts.Index, 3}, {rts.Index, 4}, {rts.Seq, 3}}) {
			t.Errorf("notes: %v", got)
		}
	}
}

// Promise 27.2: calls with six arguments, with and without results, of a procedure by itself too. Registers of the caller stay as they were.
func TestCalls(t *testing.T) {
	six := api.Proc{Params: 6, Regs: 12, Objects: Slots(4)}
	l := []api.Ins{Frame(6, 0, 0), Store(6, 3, 0, 4)}
	for r := range 6 {
		l = append(l, Out(r))
	}
	six.Blocks = []api.Block{
		Branch(0, 1, 2, l...),
		Ret(8, Const(7, 1), Bin(api.FnSub, 7, 0, 7), Call(8, 1, 7, 2, 1, 4, 5, 3), Load(9, 6, 0, 4), Out(9), Out(1), Out(5), Bin(api.FnAdd, 8, 8, 3), Call(None, 2, 8)),
		Ret(5),
	}
	void := api.Proc{Void: true, Params: 1, Regs: 1, Blocks: []api.Block{Ret(None, Out(0))}}
	m := Main(Ret(9, Const(0, 3), Const(1, 11), Const(2, 12), Const(3, 13), Const(4, 14), Const(5, 15), Const(6, 16), Call(9, 1, 0, 1, 2, 3, 4, 5), Call(None, 2, 6), Out(4)))
	m.Procs = append(m.Procs, six, void)
	for regs := range alloc.MaxRegs + 1 {
		checkSame(t, "calls", m, assigned(m, regs))
	}
}

// Promise 27.2: main may be any procedure, branches may be far.
func TestFar(t *testing.T) {
	var l []api.Ins
	for range 1500 {
		l = append(l, Const(1, 70000), Bin(api.FnAdd, 2, 2, 1))
	}
	m := Main(Jump(1, Const(0, 3), Const(2, 0)), Branch(0, 3, 2), Ret(2, Out(2)), Branch(0, 4, 1, l...), Jump(1, Const(3, 1), Bin(api.FnSub, 0, 0, 3)))
	m.Procs = append(m.Procs, api.Proc{Regs: 2, Blocks: []api.Block{Ret(1, Call(0, 0), Out(0), Const(1, 4))}})
	m.Main = 1
	for _, regs := range []int{0, 2, 12} {
		checkSame(t, "far", m, assigned(m, regs))
	}
}

// Promise 27.2: where there is not enough stack space the machine halts with FullCode, behind what was put out until then. Nothing below the stack limit is written.
func TestFull(t *testing.T) {
	m := WithGlobals(Main(Ret(0, In(0), Call(0, 1, 0))), 100)
	m.Procs = append(m.Procs, api.Proc{Params: 1, Regs: 2, Objects: Slots(40), Blocks: []api.Block{
		Ret(1, Out(0), Const(1, 1), Bin(api.FnAdd, 1, 0, 1), Call(1, 1, 1)),
	}})
	for size := 4096; size < 4200; size += 4 {
		for _, regs := range []int{0, 12} {
			x, _ := machine(t, m, assigned(m, regs), size, nil)
			if x.Run(100000, nil) != api.Halted || x.Exit() != rts.FullCode {
				t.Fatalf("%d bytes: state %d, exit %d", size, x.State(), x.Exit())
			}
			l := x.Log()
			for k, r := range l {
				if r != (api.Record{Seq: uint32(k), Val: uint32(k)}) {
					t.Errorf("%d bytes: record %d: %v", size, k, r)
				}
			}
			// The next frame would have lain below the globals, the last one does not.
			l0, l1 := layOf(m, 0, regs), layOf(m, 1, regs)
			if most := (size - (gen.Limit(m) - api.Base) - l0.Size) / l1.Size; len(l) != most {
				t.Errorf("%d bytes, %d registers: %d calls, not %d", size, regs, len(l), most)
			}
			if at := int(gen.Global(m, 0)) - api.Base; !slices.Equal(x.Data()[at:at+100], m.Data[0]) {
				t.Errorf("%d bytes: globals are overwritten", size)
			}
		}
	}
}

// layOf is the frame of a procedure.
func layOf(m api.Module, n, regs int) api.Frame {
	l := assigned(m, regs)[n]
	f, _ := frame.Lay(m.Procs[n], l.seats, l.slots)
	return f
}

// Promise 27.2: programs do what their modules do, or are out of stack space. Their procedures are plans.
func TestPrograms(t *testing.T) {
	programs, full := 0, 0
	for n := range 400 {
		inputs := []uint32{uint32(n), 3, 0, 7}
		m, want, is := drawn.Defined(n, inputs)
		if !is {
			continue
		}
		d := drawn.Dice(n)
		if d.Roll(2) == 0 {
			m = drawn.Better(m)
		}
		for _, regs := range []int{0, d.Roll(alloc.MaxRegs), alloc.MaxRegs} {
			l := assigned(m, regs)
			planned := m
			planned.Procs = nil
			for k := range m.Procs {
				p, _ := region.Plan(m, k, alloc.Spilled(l[k].seats), 1+d.Roll(rts.MaxNotes))
				planned.Procs = append(planned.Procs, p)
			}
			size := []int{device.MaxData, 3000 + 4*d.Roll(500)}[d.Roll(4)/3]
			x, is := machine(t, planned, l, size, inputs)
			if !is {
				continue
			}
			programs++
			x.Run(10000000, nil)
			if size < device.MaxData && x.Exit() == rts.FullCode {
				full++
				if !record.Begins(x.Log(), want.Out) {
					t.Errorf("program %d: %v, not %v", n, record.Values(x.Log()), want)
				}
			} else if !same(x, want) {
				t.Fatalf("program %d: state %d, exit %d, %v, not %v", n, x.State(), x.Exit(), record.Values(x.Log()), want)
			}
		}
	}
	if programs < 1000 || full < 20 {
		t.Errorf("%d programs, %d of them without enough stack", programs, full)
	}
}
