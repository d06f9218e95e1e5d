package rts_test

import (
	"slices"
	"testing"

	"rushlight/api"
	"rushlight/asm"
	"rushlight/device"
	"rushlight/drawn"
	"rushlight/ops"
	"rushlight/rts"
)

// drawer draws code: regions that compute in the preserved registers and note each word before they write it.
type drawer struct {
	drawn.Dice
	bare  bool // nothing is noted
	label int  // the next one
	left  int  // how many notes the region may still make
}

// kept is one of the preserved registers.
func (d *drawer) kept() int {
	l := rts.Kept()
	return l[d.Roll(len(l))]
}

// place is the address of one of few words: of the numbers of records and inputs, of globals, and of the stack.
func (d *drawer) place() uint32 {
	switch d.Roll(8) {
	case 0:
		return rts.Seq
	case 1:
		return rts.Index
	case 2, 3:
		return uint32(top - 4*(1+d.Roll(3)))
	}
	return uint32(rts.Globals + 4*d.Roll(4))
}

// region is the code between two marks.
func (d *drawer) region() []api.Item {
	d.left = rts.MaxNotes
	if d.Roll(3) > 0 {
		d.left = d.Roll(8)
	}
	var l []api.Item
	for range 5 + d.Roll(30) {
		l = append(l, d.some()...)
	}
	for d.left > 0 && d.Roll(40) > 0 {
		l = append(l, d.write()...)
	}
	return l
}

// some is a computation, a load, a write, or some of these that are gone round where two registers are equal.
func (d *drawer) some() []api.Item {
	switch d.Roll(8) {
	case 0, 1, 2:
		op := []int{api.OpAdd, api.OpSub, api.OpXor, api.OpMul, api.OpSltu}[d.Roll(5)]
		return items(ops.Three(op, d.kept(), d.kept(), d.kept()))
	case 3:
		return items(asm.Const(d.kept(), uint32(d.Roll(5000))))
	case 4, 5:
		return items(asm.Const(5, d.place()), ops.Load(d.kept(), 5, 0))
	case 6:
		d.label++
		end := d.label
		return slices.Concat(items(ops.Two(api.OpAndi, 6, d.kept(), 1), asm.Branch(api.OpBne, 6, 0, end)), d.some(), d.some(), items(asm.Label(end)))
	}
	return d.write()
}

// write notes a word, and writes it or one of its bytes; it does nothing if there are no notes left.
func (d *drawer) write() []api.Item {
	if d.left == 0 {
		return nil
	}
	d.left--
	r := []int{5, 6, 28}[d.Roll(3)] // one that has the address
	l := items(asm.Const(r, d.place()))
	if !d.bare {
		l = append(l, rts.Note(r)...)
	}
	if d.Roll(3) == 0 {
		return append(l, ops.StoreAs(api.OpSb, d.kept(), r, d.Roll(4)))
	}
	return append(l, ops.Store(d.kept(), r, 0))
}

// program is so many regions, with marks behind them, and a loop at the end.
func (d *drawer) program(regions int) []api.Item {
	d.label = rts.FirstLabel
	l := fill(uint32(d.Roll(1000)))
	for range regions {
		l = slices.Concat(l, d.region(), rts.Mark())
	}
	return append(l, asm.Label(rts.FirstLabel+1000), asm.Jump(0, rts.FirstLabel+1000))
}

// stand is what the data and the preserved registers are when a mark has been made.
type stand struct {
	data, regs string
}

// standing is how a machine stands. The checkpoints and the notes are not part of that.
func standing(m *device.Machine) stand {
	data := m.Data()
	var regs []byte
	for _, r := range rts.Kept() {
		for k := range 4 {
			regs = append(regs, byte(m.Reg(r)>>(8*k)))
		}
	}
	return stand{data: string(data[:rts.Keeps-api.Base]) + string(data[rts.Globals-api.Base:]), regs: string(regs)}
}

// follow runs a machine until so many marks have been made, with the power failing before the next instruction whenever a function says so.
// It tells how the machine stands when each mark has been made, as the epoch counts them, and after how many instructions.
func follow(t *testing.T, m *device.Machine, marks int, fails func() bool) ([]stand, []int) {
	t.Helper()
	var l []stand
	var steps []int
	for m.Steps() < 200000 && len(l) < marks {
		if fails() {
			m.Fail()
		}
		if m.Step() != api.Running {
			t.Fatalf("state %d", m.State())
		}
		if m.Reg(4) > uint32(len(l)) && word(m, rts.Selector) == uint32(len(l)+1) {
			l, steps = append(l, standing(m)), append(steps, m.Steps())
		}
	}
	return l, steps
}

// never is power that does not fail.
func never() bool { return false }

// often is power that fails after drawn numbers of instructions, up to apart; but not any more after so many failures.
func often(d *drawn.Dice, apart, most int) func() bool {
	left := 1 + d.Roll(apart)
	return func() bool {
		left--
		if left > 0 || most == 0 {
			return false
		}
		most--
		left = 1 + d.Roll(apart)
		return true
	}
}

// once is power that fails at a step, and again a number of steps later.
func once(at, again int) func() bool {
	n := 0
	return func() bool {
		n++
		return n-1 == at || n-1 == at+again
	}
}

// Promise 26.2: regions that note what they write take effect once, wherever the power fails once, and wherever it fails again soon.
func TestOnceEverywhere(t *testing.T) {
	for n := range 12 {
		d := drawer{Dice: drawn.Dice(n)}
		l := d.program(2)
		m, _ := machine(t, l)
		want, steps := follow(t, m, 3, never)
		for at := range steps[2] {
			m, _ := machine(t, l)
			got, _ := follow(t, m, 3, once(at, 1+d.Roll(200)))
			if !slices.Equal(got, want) {
				t.Fatalf("program %d: a failure at %d", n, at)
			}
		}
	}
}

// Promise 26.2: and however often it fails. If nothing is noted, that is seldom so.
func TestOnceOften(t *testing.T) {
	const programs, marks = 150, 7
	broken := 0
	for n := range programs {
		for _, bare := range []bool{false, true} {
			d := drawer{Dice: drawn.Dice(n), bare: bare}
			l := d.program(marks - 1)
			m, _ := machine(t, l)
			want, _ := follow(t, m, marks, never)
			for _, apart := range []int{200, 700, 1500} {
				m, _ := machine(t, l)
				got, _ := follow(t, m, marks, often(&d.Dice, apart, 60))
				switch same := slices.Equal(got, want); {
				case !same && !bare:
					t.Fatalf("program %d: failures %d apart", n, apart)
				case !same:
					broken++
				}
			}
		}
	}
	if broken < programs {
		t.Errorf("%d runs need notes", broken)
	}
}

// Promise 26.2: as many notes as there is space for, of one word and of many, do not reach the globals.
func TestMostNotes(t *testing.T) {
	for _, apart := range []int{0, 4} {
		l := items(asm.Const(5, rts.Globals))
		for range rts.MaxNotes {
			l = append(l, rts.Note(5)...)
			l = append(l, ops.Load(6, 5, 0), ops.Add(6, 6, 3), ops.Store(6, 5, 0), ops.Add(5, 5, apart))
		}
		l = append(append(l, rts.Mark()...), asm.Label(rts.FirstLabel+1), asm.Jump(0, rts.FirstLabel+1))
		m, _ := machine(t, l)
		want, steps := follow(t, m, 2, never)
		if n := len(notes(m)); n != rts.MaxNotes {
			t.Errorf("%d notes", n)
		}
		for at := steps[0]; at < steps[1]; at++ {
			m, _ := machine(t, l)
			if got, _ := follow(t, m, 2, once(at, 700)); !slices.Equal(got, want) {
				t.Fatalf("a failure at %d", at)
			}
		}
		m, _ = machine(t, l)
		if follow(t, m, 2, never); word(m, rts.Globals) == 0 || word(m, rts.Globals+4*rts.MaxNotes) != 0 {
			t.Errorf("other globals")
		}
	}
}
