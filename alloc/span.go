package alloc

import (
	"rushlight/api"
	"rushlight/flow"
	"rushlight/ir"
)

// span is the range of a register, if it has one.
type span struct {
	register int
	from, to int
	is       bool
}

// spans is the spans of registers, by their numbers. They are extended to points in ascending order.
type spans []span

// reach extends the span of a register to a point, if it exists.
func (l spans) reach(r, at int) {
	if r < 0 || r >= len(l) {
		return
	}
	s := &l[r]
	if !s.is {
		s.is, s.from = true, at
	}
	s.to = at
}

// reachAll extends the spans of those registers that are live to a point.
func (l spans) reachAll(live []bool, at int) {
	for r, is := range live {
		if is {
			l.reach(r, at)
		}
	}
}

// spansIn is the spans of a procedure's registers: of all, if it is valid.
func spansIn(p api.Proc) spans {
	p.Regs = min(max(0, p.Regs), ir.MaxRegs)
	l := make(spans, p.Regs)
	for r := range l {
		l[r].register = r
	}
	for r := range min(p.Params, p.Regs) {
		l.reach(r, 0)
	}
	in, out := flow.Live(p)
	at := 0
	for n := range in {
		l.reachAll(in[n], at)
		for _, i := range p.Blocks[n].Ins {
			for _, r := range ir.Uses(i) {
				l.reach(r, at)
			}
			l.reach(ir.Def(i), at+1)
			at += 2
		}
		l.reachAll(out[n], at) // what the end reads is live ahead of it
		at++
	}
	return l
}
