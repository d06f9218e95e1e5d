// Package reads is no layer: for layers 22 and 23 it follows which reads of a procedure may precede its writes, without a mark or call between.
package reads

import (
	"iter"

	"rushlight/alias"
	"rushlight/api"
	"rushlight/ir"
)

// Tracker knows what the instructions of a procedure read and write. What is read has numbers, in this order:
// memory regions into which an address points that is not exact; memory regions into which an exact one points; registers that are spilled;
// and bytes that are read at exact addresses. So a write finds by few numbers whether something that was read conflicts with it.
type Tracker struct {
	view      *alias.View
	regions   int // how many memory regions there are
	registers int // how many registers are looked at: all, if the procedure is valid
	spilled   []bool
	things    [][]int // into which memory regions each register may point that is an address somewhere
	bytes     map[spot]int
}

// spot is a byte of a memory region.
type spot struct{ thing, at int }

// New is a tracker for a procedure, and for what is made of it by adding marks. It is of use as long as what is handed in does not change.
func New(m api.Module, n int, spilled []bool) (*Tracker, api.Errno) {
	v, e := alias.New(m, n)
	if e != api.OK {
		return nil, e
	}
	p := m.Procs[n]
	t := &Tracker{view: v, regions: len(p.Objects) + len(m.Globals) + 1, registers: min(max(0, p.Regs), ir.MaxRegs), bytes: map[spot]int{}}
	t.spilled = spilled[:min(len(spilled), t.registers)]
	t.things = make([][]int, t.registers)
	for _, b := range p.Blocks {
		for _, i := range b.Ins {
			t.meet(i)
		}
	}
	return t, api.OK
}

// meet prepares for an instruction: it finds out where an address points, and gives what is read at an exact one numbers.
func (t *Tracker) meet(i api.Ins) {
	if i.Op != api.IrLoad && i.Op != api.IrStore {
		return
	}
	if r := i.A; r >= 0 && r < t.registers && t.things[r] == nil {
		t.things[r] = t.view.Things(r)
	}
	if i.Op == api.IrLoad {
		for s := range t.spots(i) {
			if _, is := t.bytes[s]; !is {
				t.bytes[s] = 2*t.regions + t.registers + len(t.bytes)
			}
		}
	}
}

// None is a set without reads.
func (t *Tracker) None() Set { return make(Set, (2*t.regions+t.registers+len(t.bytes)+63)/64) }

// Pass reports whether an instruction is a hazard behind reads, and makes of these what they are behind it.
func (t *Tracker) Pass(s Set, i api.Ins) bool {
	if IsBoundary(i) {
		clear(s)
		return false
	}
	for n := range t.read(i) {
		s.add(n)
	}
	for n := range t.conflicting(i) {
		if s.has(n) {
			return true
		}
	}
	return false
}

// End makes of reads ahead of the end of a block what they are behind it.
func (t *Tracker) End(s Set, b api.Block) {
	if (b.End == api.EndBranch || b.End == api.EndRet) && t.isSpilled(b.A) {
		s.add(2*t.regions + b.A)
	}
}

// IsBoundary reports whether no read ahead of an instruction conflicts with a write behind it: it is a mark or a call.
func IsBoundary(i api.Ins) bool { return i.Op == api.IrMark || i.Op == api.IrCall }

// read yields what an instruction reads.
func (t *Tracker) read(i api.Ins) iter.Seq[int] {
	return func(yield func(int) bool) {
		for _, r := range ir.Uses(i) {
			if t.isSpilled(r) && !yield(2*t.regions+r) {
				return
			}
		}
		if i.Op != api.IrLoad {
			return
		}
		kind := 0
		if _, _, is := t.view.Exact(i.A); is {
			kind = t.regions
		}
		for _, thing := range t.thingsAt(i.A) {
			if !yield(kind + thing) {
				return
			}
		}
		for s := range t.spots(i) {
			if !yield(t.bytes[s]) {
				return
			}
		}
	}
}

// conflicting yields the reads with which what an instruction writes conflicts.
func (t *Tracker) conflicting(i api.Ins) iter.Seq[int] {
	return func(yield func(int) bool) {
		if d := ir.Def(i); t.isSpilled(d) && !yield(2*t.regions+d) || i.Op != api.IrStore {
			return
		}
		_, _, exact := t.view.Exact(i.A)
		for _, thing := range t.thingsAt(i.A) {
			if !yield(thing) || !exact && !yield(t.regions+thing) {
				return
			}
		}
		for s := range t.spots(i) {
			if n, is := t.bytes[s]; is && !yield(n) {
				return
			}
		}
	}
}

// spots yields the bytes that a load or store accesses, if its address is exact.
func (t *Tracker) spots(i api.Ins) iter.Seq[spot] {
	return func(yield func(spot) bool) {
		thing, off, is := t.view.Exact(i.A)
		for k := 0; is && k < min(i.Size, 4) && yield(spot{thing, off + i.Off + k}); k++ {
		}
	}
}

// thingsAt is the memory regions into which an address may point.
func (t *Tracker) thingsAt(r int) []int {
	if r < 0 || r >= t.registers {
		return nil
	}
	return t.things[r]
}

// isSpilled reports whether there is such a register, and it is spilled.
func (t *Tracker) isSpilled(r int) bool { return r >= 0 && r < len(t.spilled) && t.spilled[r] }
