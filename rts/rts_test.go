package rts_test

import (
	"encoding/binary"
	"math"
	"reflect"
	"slices"
	"testing"

	"rushlight/api"
	"rushlight/asm"
	"rushlight/device"
	"rushlight/ops"
	"rushlight/rts"
)

// size is how many bytes of data the machines have, top where they end.
const (
	size = 4096
	top  = api.Base + size
)

// machine is a machine with the runtime and a main of these items, and the addresses of the labels.
func machine(t *testing.T, main ...[]api.Item) (*device.Machine, []int) {
	t.Helper()
	return machineWith(t, make([]byte, size), main...)
}

// machineWith is such a machine with these data.
func machineWith(t *testing.T, data []byte, main ...[]api.Item) (*device.Machine, []int) {
	t.Helper()
	l := append(rts.Items(top, rts.FirstLabel), asm.Label(rts.FirstLabel))
	words, at, e := asm.Assemble(append(l, slices.Concat(main...)...))
	if e != api.OK {
		t.Fatalf("Assemble: %v", e)
	}
	m, e := device.New(words, data, nil)
	if e != api.OK {
		t.Fatalf("New: %v", e)
	}
	return m, at
}

// items is items as a list.
func items(l ...api.Item) []api.Item { return l }

// word is a word of the data.
func word(m *device.Machine, at int) uint32 {
	return binary.LittleEndian.Uint32(m.Data()[at-api.Base:])
}

// until runs a machine to an address, and tells how many instructions that took.
func until(t *testing.T, m *device.Machine, pc int) int {
	t.Helper()
	from := m.Steps()
	for m.Pc() != uint32(pc) {
		if m.Step() != api.Running || m.Steps() > 100000 {
			t.Fatalf("%#x is not reached: state %d at %#x", pc, m.State(), m.Pc())
		}
	}
	return m.Steps() - from
}

// fill sets all preserved registers to numbers that tell them apart, from a number on.
func fill(from uint32) []api.Item {
	var l []api.Item
	for _, r := range rts.Kept() {
		l = append(l, asm.Const(r, from+uint32(r)))
	}
	return l
}

// isFilled reports whether all preserved registers are as fill sets them.
func isFilled(m *device.Machine, from uint32) bool {
	for _, r := range rts.Kept() {
		if m.Reg(r) != from+uint32(r) {
			return false
		}
	}
	return true
}

// notes is the notes of a machine, each an address, a word and an epoch, up to the first one that has no epoch.
func notes(m *device.Machine) [][3]uint32 {
	var l [][3]uint32
	for at := rts.Log; at < rts.Globals && word(m, at+8) != 0; at += 12 {
		l = append(l, [3]uint32{word(m, at), word(m, at+4), word(m, at+8)})
	}
	return l
}

// The examples of the chapter, and promise 26.1: Kept.
func TestKept(t *testing.T) {
	want := []int{1, 2, 8, 9, 10, 11, 12, 13, 14, 15, 16, 17, 18, 19, 20, 21, 22, 23, 24, 25, 26, 27, 28, 29, 30, 31}
	if l := rts.Kept(); !slices.Equal(l, want) || len(l) != 26 {
		t.Errorf("%v", l)
	}
}

// The example of the chapter: a mark takes 39 instructions, the jump to it among them, in even and odd epochs.
func TestMarkSteps(t *testing.T) {
	const first = rts.FirstLabel + 1
	m, at := machine(t, items(asm.Label(first)), rts.Mark(), items(asm.Label(first+1)), rts.Mark(), items(asm.Label(first+2)), rts.Mark(), items(asm.Label(first+3)))
	until(t, m, at[first])
	for k := 1; k <= 3; k++ {
		if n := until(t, m, at[first+k]); n != 39 {
			t.Errorf("mark %d takes %d", k, n)
		}
	}
}

// Promise 26.1: Mark is a jal 5 to MarkLabel.
func TestMark(t *testing.T) {
	if l := rts.Mark(); !slices.Equal(l, items(asm.Jump(5, rts.MarkLabel))) {
		t.Errorf("%v", l)
	}
}

// Promise 26.1: what a mark does: the epoch is one more, there are no notes, the preserved registers are as they were.
// The data are as they were too, but for the checkpoints and the epoch, which is stored once.
func TestMarkDoes(t *testing.T) {
	const here = rts.FirstLabel + 1
	m, at := machine(t, fill(1<<20), items(asm.Const(6, rts.Globals)), rts.Note(6), items(asm.Label(here)), rts.Mark(), items(asm.Label(here+1)))
	until(t, m, at[here])
	before, epochs := m.Data(), 0
	for epoch := word(m, rts.Selector); m.Pc() != uint32(at[here+1]); m.Step() {
		if now := word(m, rts.Selector); now != epoch {
			epochs++
			epoch = now
		}
	}
	after := m.Data()
	if word(m, rts.Selector) != 2 || epochs > 1 || m.Reg(4) != 2 || m.Reg(3) != rts.Log || !isFilled(m, 1<<20) {
		t.Errorf("epoch %d, registers 3 and 4: %#x, %d", word(m, rts.Selector), m.Reg(3), m.Reg(4))
	}
	clear(before[:4])
	clear(after[:4])
	clear(before[128:256]) // the checkpoint of the epoch 2; that of the epoch 1 is not touched
	clear(after[128:256])
	if !slices.Equal(before, after) {
		t.Errorf("other data are changed")
	}
}

// Promise 26.1: what a note of each register that may have an address does.
func TestNote(t *testing.T) {
	regs := []int{5, 6}
	for r := 8; r < 32; r++ {
		regs = append(regs, r)
	}
	for _, r := range regs {
		l := rts.Note(r)
		const here, at = rts.FirstLabel + 1, rts.Globals + 40
		m, labels := machine(t, fill(1<<20), items(asm.Const(6, 77), asm.Const(5, at), ops.Store(6, 5, 0), asm.Const(r, at)),
			items(asm.Label(here)), l, items(asm.Label(here+1)), l, items(asm.Label(here+2)))
		until(t, m, labels[here])
		var before [32]uint32
		for k := range before {
			before[k] = m.Reg(k)
		}
		for n := 1; n <= 2; n++ {
			until(t, m, labels[here+n])
			want := slices.Repeat([][3]uint32{{at, 77, 1}}, n)
			if got := notes(m); !slices.Equal(got, want) {
				t.Errorf("register %d: %v", r, got)
			}
			if m.Reg(3) != rts.Log+uint32(12*n) {
				t.Errorf("register %d: the next note is at %#x", r, m.Reg(3))
			}
			for k := range before {
				if k != 3 && k != 7 && m.Reg(k) != before[k] {
					t.Errorf("register %d: changes %d", r, k)
				}
			}
		}
		if add := asm.Inst(api.OpAddi, 3, 3, 0, 12); !slices.Contains(l, add) {
			t.Errorf("register %d: no addi by 12", r)
		}
	}
}

// Promise 26.1: how the program starts: sp at the end of the data, a mark behind which there are no notes, a call.
func TestStart(t *testing.T) {
	for _, top := range []uint32{top, top - 4, api.Base + 65536, api.Base + 2048, 0, 1<<32 - 1} {
		l := append(rts.Items(top, rts.FirstLabel+3), asm.Label(rts.FirstLabel+3))
		words, at, e := asm.Assemble(l)
		m, _ := device.New(words, make([]byte, size), nil)
		if e != api.OK {
			t.Fatalf("%v", e)
		}
		until(t, m, at[rts.FirstLabel+3])
		call := int(m.Reg(1))/4 - 1
		if m.Reg(2) != top || m.Reg(3) != rts.Log || m.Reg(4) != 1 || word(m, rts.Selector) != 1 {
			t.Errorf("%#x: sp %#x, next note at %#x, epoch %d", top, m.Reg(2), m.Reg(3), m.Reg(4))
		}
		for r := 8; r < 32; r++ {
			if m.Reg(r) != 0 {
				t.Errorf("%#x: register %d is set", top, r)
			}
		}
		want, _, _ := asm.Assemble(items(asm.Inst(api.OpJal, 1, 0, 0, at[rts.FirstLabel+3]-4*call)))
		if words[call] != want[0] {
			t.Errorf("%#x: main is not called by jal 1", top)
		}
	}
}

// Promise 26.1: when main returns the machine halts with the lowest eight bits of a0. Nothing but 5, 6 and 7 is used for that.
func TestHalt(t *testing.T) {
	for _, n := range []uint32{0, 1, 7, 255, 256, 300, 1<<32 - 1, 1 << 31} {
		const base = rts.FirstLabel + 1
		m, at := machine(t, items(asm.Const(5, 0), ops.Add(5, 1, 0)), fill(1<<20), items(asm.Const(10, n), ops.Add(1, 5, 0), asm.Label(base), ops.Back(1)))
		until(t, m, at[base])
		checkHalt(t, m, n&255)
	}
}

// Promise 26.1: Full halts with FullCode.
func TestFull(t *testing.T) {
	const base = rts.FirstLabel + 1
	m, at := machine(t, fill(1<<20), items(asm.Label(base), asm.Jump(0, rts.FullLabel)))
	until(t, m, at[base])
	checkHalt(t, m, rts.FullCode)
}

// checkHalt runs a machine until it halts. Its registers, but for 5, 6 and 7, and its data must be then what they are now.
func checkHalt(t *testing.T, m *device.Machine, exit uint32) {
	t.Helper()
	before, data := [32]uint32{}, m.Data()
	for k := range before {
		before[k] = m.Reg(k)
	}
	if m.Run(m.Steps()+20, nil) != api.Halted || m.Exit() != exit || len(m.Log()) != 0 {
		t.Errorf("state %d, exit %d, not %d", m.State(), m.Exit(), exit)
	}
	for k := range before {
		if (k < 5 || k > 7) && m.Reg(k) != before[k] {
			t.Errorf("exit %d: register %d is changed", exit, k)
		}
	}
	if !slices.Equal(data, m.Data()) {
		t.Errorf("exit %d: data are changed", exit)
	}
}

// Promise 26.1: the labels of the runtime, and that its code is valid and does nothing else with the registers that bear marks, calls and notes.
func TestItems(t *testing.T) {
	l := rts.Items(top, rts.FirstLabel)
	if l[0] != asm.Label(rts.BootLabel) {
		t.Errorf("boot is not first: %v", l[0])
	}
	defined, marks, calls := map[int]int{}, 0, 0
	for _, x := range l {
		switch {
		case !asm.Right(x):
			t.Errorf("not valid: %v", x)
		case x.Kind == api.ItemLabel:
			defined[x.Label]++
			if x.Label >= rts.FirstLabel {
				t.Errorf("label %d", x.Label)
			}
		case x == asm.Jump(5, rts.MarkLabel):
			marks++
		case x == asm.Jump(1, rts.FirstLabel):
			calls++
		case x == asm.Inst(api.OpAddi, 3, 3, 0, 12), x.Kind == api.ItemJump && x.Inst.Rd != 0:
			t.Errorf("%v", x)
		}
	}
	for n := range rts.FullLabel + 1 {
		if defined[n] != 1 {
			t.Errorf("label %d: %d times", n, defined[n])
		}
	}
	if marks != 1 || calls != 1 {
		t.Errorf("%d marks, %d calls", marks, calls)
	}
	if _, at, e := asm.Assemble(append(l, asm.Label(rts.FirstLabel))); e != api.OK || at[rts.BootLabel] != 0 {
		t.Errorf("%v", e)
	}
}

// Promise 26.1: boot with hand-made data: it goes on where the valid checkpoint was made, with its registers.
func TestCheckpoints(t *testing.T) {
	const a, b = rts.FirstLabel + 1, rts.FirstLabel + 2
	for _, epoch := range []uint32{1, 2, 3, 4, 1<<31 + 1, 1<<32 - 1} {
		// Two checkpoints are made, one in each place; then the epoch is set.
		m, at := machine(t, fill(100), rts.Mark(), items(asm.Label(a)), fill(200), rts.Mark(), items(asm.Label(b)), items(asm.Jump(0, b)))
		until(t, m, at[b])
		data := m.Data()
		binary.LittleEndian.PutUint32(data, epoch)
		m, _ = machineWith(t, data, fill(100), rts.Mark(), items(asm.Label(a)), fill(200), rts.Mark(), items(asm.Label(b)), items(asm.Jump(0, b)))
		pc, from := at[a], uint32(100)
		if epoch%2 == 1 {
			pc, from = at[b], 200
		}
		n := until(t, m, pc)
		if !isFilled(m, from) || m.Reg(3) != rts.Log || m.Reg(4) != epoch || n > 60 {
			t.Errorf("epoch %d: %d instructions, registers 2 and 31: %d, %d", epoch, n, m.Reg(2), m.Reg(31))
		}
		if !slices.Equal(data, m.Data()) {
			t.Errorf("epoch %d: data are changed", epoch)
		}
	}
}

// Promise 26.1: boot writes back the notes of its epoch, the last one first, up to the first one of another epoch or the end.
// It takes no longer than chapter 30 says.
func TestNotesBack(t *testing.T) {
	const here, first = rts.FirstLabel + 1, rts.Globals + 100
	loop := items(asm.Label(here), asm.Jump(0, here))
	m, at := machine(t, loop)
	until(t, m, at[here])
	start := m.Data()
	for n := range rts.MaxNotes + 1 {
		for _, behind := range []uint32{0, 2, 1 << 31} { // the epoch of the note behind the last one
			data := slices.Clone(start)
			put := func(at int, w uint32) { binary.LittleEndian.PutUint32(data[at-api.Base:], w) }
			put(rts.Globals, first+4) // what lies behind the notes is none, though it looks like one
			put(rts.Globals+4, 77)
			put(rts.Globals+8, 1)
			for k := range rts.MaxNotes {
				epoch := uint32(1)
				if k == n {
					epoch = behind
				}
				put(rts.Log+12*k, uint32(first+8*(k/2))) // two of each word
				put(rts.Log+12*k+4, uint32(1000+k))
				put(rts.Log+12*k+8, epoch)
			}
			m, _ := machineWith(t, data, loop)
			if steps := until(t, m, at[here]); steps > 60+16*n {
				t.Errorf("%d notes: %d instructions", n, steps)
			}
			for k := 0; k < n; k += 2 {
				put(first+8*(k/2), uint32(1000+k)) // of two, the first one
			}
			if !slices.Equal(data, m.Data()) || m.Reg(3) != rts.Log || m.Reg(4) != 1 {
				t.Errorf("%d notes, then epoch %d: other data", n, behind)
			}
		}
	}
}

// Rules R1 and R3: no arguments end in a panic, and results are not shared.
func TestArguments(t *testing.T) {
	for _, n := range []int{math.MinInt, -1, 0, 3, 7, 15, 32, 4096, math.MaxInt} {
		rts.Note(n)
		rts.Items(uint32(n), n)
	}
	for _, f := range []func() []api.Item{rts.Mark, func() []api.Item { return rts.Note(8) }, func() []api.Item { return rts.Items(top, 16) }} {
		a, b := f(), f()
		clear(a)
		if reflect.DeepEqual(a, b) || !reflect.DeepEqual(b, f()) {
			t.Errorf("shared: %v", b)
		}
	}
	l := rts.Kept()
	clear(l)
	if rts.Kept()[0] != 1 {
		t.Errorf("shared: %v", rts.Kept())
	}
}
