package fold

import (
	"slices"

	"rushlight/api"
	"rushlight/flow"
	"rushlight/ir"
	"rushlight/irrun"
	"rushlight/procs"
)

// maxCells is how many registers all blocks together may have so that constants are followed from block to block.
const maxCells = 2000000

// Consts is what registers have whenever a block begins.
func Consts(p api.Proc) []map[int]uint32 {
	l := make([]map[int]uint32, len(p.Blocks))
	for n, at := range starts(p) {
		l[n] = map[int]uint32{}
		for r, c := range at {
			if c.known {
				l[n][r] = c.num
			}
		}
	}
	return l
}

// Known is a procedure in which what is known stands as numbers.
func Known(p api.Proc) api.Proc {
	q := procs.Clone(p)
	at := make(row, min(max(0, p.Regs), ir.MaxRegs))
	for n, start := range starts(p) {
		clear(at)
		copy(at, start)
		makeKnown(&q.Blocks[n], at)
	}
	return q
}

// makeKnown makes numbers of what is known in a block. The row tells what is known where the block begins, and is used up.
func makeKnown(b *api.Block, at row) {
	for k, i := range b.Ins {
		at.pass(i)
		switch i.Op {
		case api.IrBin, api.IrUn, api.IrCopy:
			if c := at.get(i.D); c.known {
				b.Ins[k] = constant(i.D, c.num)
			}
		}
	}
	if c := at.get(b.A); c.known && b.End == api.EndBranch {
		settle(b, c.num)
	}
}

// starts tells what is known where each block begins; it is nil for those that are not reached.
func starts(p api.Proc) []row {
	l := make([]row, len(p.Blocks))
	if n := len(p.Blocks); n == 0 || p.Regs > maxCells/n {
		return l
	}
	s := search{proc: p, starts: l, stale: make([]int, len(l)), at: make(row, max(0, p.Regs))}
	s.starts[0] = make(row, max(0, p.Regs))
	s.stale[0] = 1
	order := flow.Order(p)
	for s.round(order) {
	}
	return s.starts
}

// search goes from block to block for what is known where they begin. What is known when a block is led to for the first time is taken
// to be so always, and forgotten when it is led to with something else, until nothing is forgotten any more: so as much as can be is known.
type search struct {
	proc   api.Proc
	starts []row
	stale  []int // 1 for blocks to whose successors that of their start is yet to be led on
	at     row
}

// round goes through the stale blocks once, and reports whether there were any.
func (s *search) round(order []int) bool {
	any := false
	for _, n := range order {
		if s.stale[n] > 0 {
			s.stale[n] = 0
			s.leadOn(n)
			any = true
		}
	}
	return any
}

// leadOn leads to the successors of a block with what is known at its end.
func (s *search) leadOn(n int) {
	b := s.proc.Blocks[n]
	copy(s.at, s.starts[n])
	for _, i := range b.Ins {
		s.at.pass(i)
	}
	for _, to := range ir.Outs(b) {
		if to >= 0 && to < len(s.starts) && lead(&s.starts[to], s.at) {
			s.stale[to] = 1
		}
	}
}

// lead leads to the start of a block with what is known, and reports whether something else is known there than before.
func lead(start *row, at row) bool {
	if *start == nil {
		*start = slices.Clone(at)
		return true
	}
	return start.meet(at)
}

// cell is what is known of a register: its number, or nothing.
type cell struct {
	known bool
	num   uint32
}

// row is what is known of each register at a point.
type row []cell

// get is what is known of a register; nothing, if the row does not have it.
func (l row) get(r int) cell {
	if r < 0 || r >= len(l) {
		return cell{}
	}
	return l[r]
}

// pass makes what is known ahead of an instruction what is known behind it.
func (l row) pass(i api.Ins) {
	if d := ir.Def(i); d >= 0 && d < len(l) {
		l[d] = l.result(i)
	}
}

// result is what is known of what an instruction sets its register to.
func (l row) result(i api.Ins) cell {
	switch i.Op {
	case api.IrConst:
		return cell{true, i.Num}
	case api.IrCopy:
		return l.get(i.A)
	case api.IrUn:
		return apply(i.Fn, l.get(i.A), cell{known: true})
	case api.IrBin:
		return apply(i.Fn, l.get(i.A), l.get(i.B))
	}
	return cell{}
}

// apply is what is known of a function of operands.
func apply(fn int, a, b cell) cell {
	if !a.known || !b.known {
		return cell{}
	}
	return cell{true, irrun.Fn(fn, a.num, b.num)}
}

// meet forgets what another row does not know to be so too, and reports whether that was anything.
func (l row) meet(other row) bool {
	forgot := false
	for r, c := range l {
		if c.known && other[r] != c {
			l[r] = cell{}
			forgot = true
		}
	}
	return forgot
}
