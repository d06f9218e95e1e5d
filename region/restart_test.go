package region_test

import (
	"encoding/binary"
	"slices"
	"testing"

	"rushlight/api"
	"rushlight/drawn"
	"rushlight/irrun"
	"rushlight/record"
	"rushlight/region"
)

// call is a call of a procedure: where it stands, and what is lost at a failure.
type call struct {
	proc, block, at int
	frame           int // where its objects lie in the memory
	regs            []uint32
	answer          int // the caller's register that is set
}

// slot is where a spilled register lies.
type slot struct{ depth, register int }

// beyond is the exit of a run that accesses what is no memory.
const beyond = 999

// machine runs the plans of a module with power failures: its registers are lost, but for those that are spilled, and the run goes on at the last mark.
type machine struct {
	module  api.Module
	spilled [][]bool
	inputs  []uint32
	forget  bool // notes are not written back

	memory     []byte
	slots      map[slot]uint32
	seq, index uint32
	log        []api.Record

	calls, saved []call
	notes        []func() // each writes back what it notes
	most         int      // of them
	exit         uint32
	done         bool
}

// newMachine is a machine at the start of main.
func newMachine(m api.Module, spilled [][]bool, inputs []uint32) *machine {
	x := &machine{module: m, spilled: spilled, inputs: inputs, memory: make([]byte, irrun.MemSize), slots: map[slot]uint32{}}
	at, _ := irrun.Place(m.Globals)
	for n, d := range m.Data {
		copy(x.memory[4096+at[n]:], d)
	}
	x.enter(m.Main, nil, api.None)
	x.mark()
	return x
}

// enter begins a call.
func (x *machine) enter(n int, args []uint32, answer int) {
	p := x.module.Procs[n]
	_, size := irrun.Place(p.Objects)
	frame := len(x.memory)
	if k := len(x.calls); k > 0 {
		frame = x.calls[k-1].frame
	}
	x.calls = append(x.calls, call{proc: n, frame: frame - size, regs: make([]uint32, p.Regs), answer: answer})
	for r, v := range args {
		x.set(r, v)
	}
}

// now is the call that is being executed.
func (x *machine) now() *call { return &x.calls[len(x.calls)-1] }

// slotOf is where a register lies, if it is spilled.
func (x *machine) slotOf(r int) (slot, bool) {
	l := x.spilled[x.now().proc]
	return slot{len(x.calls), r}, r < len(l) && l[r]
}

// get reads a register.
func (x *machine) get(r int) uint32 {
	if s, is := x.slotOf(r); is {
		return x.slots[s]
	}
	return x.now().regs[r]
}

// set sets a register.
func (x *machine) set(r int, v uint32) {
	if s, is := x.slotOf(r); is {
		x.slots[s] = v
	} else {
		x.now().regs[r] = v
	}
}

// mark makes all sure up to here.
func (x *machine) mark() {
	x.saved, x.notes = slices.Clone(x.calls), nil
	for k := range x.saved {
		x.saved[k].regs = slices.Clone(x.saved[k].regs)
	}
}

// note adds a note.
func (x *machine) note(back func()) {
	x.notes = append(x.notes, back)
	x.most = max(x.most, len(x.notes))
}

// fail is a power failure, and what is done behind it.
func (x *machine) fail() {
	for _, back := range slices.Backward(x.notes) {
		if !x.forget {
			back()
		}
	}
	x.calls = slices.Clone(x.saved)
	x.mark()
}

// step does an instruction or a block's end.
func (x *machine) step() {
	c := x.now()
	b := x.module.Procs[c.proc].Blocks[c.block]
	if c.at < len(b.Ins) {
		c.at++
		x.execute(b.Ins[c.at-1])
		return
	}
	switch {
	case b.End == api.EndRet:
		x.leave(b)
	case b.End == api.EndBranch && x.get(b.A) == 0:
		c.block, c.at = b.Else, 0
	default:
		c.block, c.at = b.To, 0
	}
}

// leave ends a call.
func (x *machine) leave(b api.Block) {
	v, answer := uint32(0), x.now().answer
	if b.A != api.None {
		v = x.get(b.A)
	}
	if len(x.calls) == 1 {
		x.done, x.exit = true, v&255
		return
	}
	x.calls = x.calls[:len(x.calls)-1]
	if answer != api.None {
		x.set(answer, v)
	}
}

// execute does an instruction.
func (x *machine) execute(i api.Ins) {
	switch i.Op {
	case api.IrMark:
		x.mark()
		return
	case api.IrStore:
		x.store(i)
		return
	case api.IrOut:
		old := x.seq
		x.note(func() { x.seq = old })
		x.log = append(x.log, api.Record{Seq: x.seq, Val: x.get(i.A)})
		x.seq++
		return
	case api.IrCall:
		var args []uint32
		for _, r := range i.Args {
			args = append(args, x.get(r))
		}
		x.enter(i.Obj, args, i.D)
		return
	}
	v := x.value(i)
	if s, is := x.slotOf(i.D); is && i.Log {
		old := x.slots[s]
		x.note(func() { x.slots[s] = old })
	}
	x.set(i.D, v)
}

// reach is where a load or store accesses the memory. One beyond it ends the run.
func (x *machine) reach(i api.Ins) int {
	at := int(x.get(i.A)) + i.Off - api.Base
	if at < 0 || at+i.Size > len(x.memory) {
		x.done, x.exit = true, beyond
		return 0
	}
	return at
}

// store does a store.
func (x *machine) store(i api.Ins) {
	at := x.reach(i)
	if i.Log {
		old := slices.Clone(x.memory[at&^3 : at&^3+4])
		x.note(func() { copy(x.memory[at&^3:], old) })
	}
	if i.Size == 1 {
		x.memory[at] = byte(x.get(i.B))
	} else {
		binary.LittleEndian.PutUint32(x.memory[at:], x.get(i.B))
	}
}

// value is what an instruction sets its register to.
func (x *machine) value(i api.Ins) uint32 {
	switch i.Op {
	case api.IrConst:
		return i.Num
	case api.IrCopy:
		return x.get(i.A)
	case api.IrBin:
		return irrun.Fn(i.Fn, x.get(i.A), x.get(i.B))
	case api.IrUn:
		return irrun.Fn(i.Fn, x.get(i.A), 0)
	case api.IrFrame:
		at, _ := irrun.Place(x.module.Procs[x.now().proc].Objects)
		return uint32(api.Base + x.now().frame + at[i.Obj] + i.Off)
	case api.IrGlobal:
		at, _ := irrun.Place(x.module.Globals)
		return uint32(api.Base + 4096 + at[i.Obj] + i.Off)
	case api.IrLoad:
		at := x.reach(i)
		if i.Size == 1 {
			return uint32(x.memory[at])
		}
		return binary.LittleEndian.Uint32(x.memory[at:])
	}
	old := x.index
	x.note(func() { x.index = old })
	x.index++
	if int(old) < len(x.inputs) {
		return x.inputs[old]
	}
	return 0
}

// run runs a machine to its end, with so many failures at drawn times. It gives up where that takes very long.
func (x *machine) run(d *drawn.Dice, fails, apart int) {
	for rounds := 0; !x.done && rounds < 100000; rounds++ {
		for n := 1 + d.Roll(apart); n > 0 && !x.done; n-- {
			x.step()
		}
		if fails > 0 && !x.done {
			x.fail()
			fails--
		}
	}
}

// agrees reports whether what a machine has put out is what a run does.
func (x *machine) agrees(want api.Outcome) bool {
	first := record.First(x.log)
	return record.Orderly(x.log) && slices.Equal(record.Values(first), want.Out) && x.exit == want.Exit
}

// plans is the plans of a module.
func plans(m api.Module, spilled [][]bool, notes int) api.Module {
	planned := m
	planned.Procs = nil
	for n := range m.Procs {
		p, _ := region.Plan(m, n, spilled[n], notes)
		planned.Procs = append(planned.Procs, p)
	}
	return planned
}

// Promises 22.2 and 23.4, and P7 of the whole: programs whose power fails again and again put out what they do without, and note no more than they may.
// When the notes are not written back, many do something else.
func TestRestart(t *testing.T) {
	programs, broken, replays := 0, 0, 0
	for n := range 500 {
		inputs := []uint32{uint32(n), 3, 0, 7}
		m, want, is := drawn.Defined(n, inputs)
		if !is {
			continue
		}
		programs++
		d := drawn.Dice(n)
		if d.Roll(2) == 0 {
			m = drawn.Better(m)
		}
		var spilled [][]bool
		for _, p := range m.Procs {
			spilled = append(spilled, chosen(&d, p.Regs))
		}
		notes := 1 + d.Roll(12)
		planned := plans(m, spilled, notes)
		for _, apart := range []int{10, 40, 200} {
			x := newMachine(planned, spilled, inputs)
			x.run(&d, 400, apart)
			if !x.agrees(want) || x.most > notes {
				t.Fatalf("program %d: exit %d, %v, not %v; %d notes of %d", n, x.exit, record.Values(record.First(x.log)), want, x.most, notes)
			}
			replays += record.Replays(x.log)
		}
		x := newMachine(planned, spilled, inputs)
		x.forget = true
		x.run(&d, 100, 20)
		if !x.agrees(want) {
			broken++
		}
	}
	if programs < 300 || broken < programs/2 || replays < 20 {
		t.Errorf("%d programs, of which %d need their notes; %d replays", programs, broken, replays)
	}
}

// Promise 22.1: less than half of what programs store is noted.
func TestFewNotes(t *testing.T) {
	writes, logs := 0, 0
	for n := range 200 {
		m := drawn.Lowered(n)
		for k := range m.Procs {
			p, _ := region.Plan(m, k, nil, region.MaxNotes)
			for _, b := range p.Blocks {
				for _, i := range b.Ins {
					if i.Op == api.IrStore {
						writes++
					}
					if i.Log {
						logs++
					}
				}
			}
		}
	}
	if writes < 5000 || logs > writes/2 {
		t.Errorf("%d of %d writes have Log", logs, writes)
	}
}
