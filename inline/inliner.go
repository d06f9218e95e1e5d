package inline

import (
	"iter"
	"slices"

	"rushlight/api"
	"rushlight/flow"
	"rushlight/ir"
	"rushlight/procs"
)

// inliner inlines the small procedures of a module.
type inliner struct {
	module api.Module
	small  []int         // 1 for procedures that are small
	unset  map[int][]int // of small procedures that were inlined: the registers beside the parameters that are live at the start
}

// newInliner is an inliner of a module.
func newInliner(m api.Module) inliner {
	x := inliner{module: m, small: make([]int, len(m.Procs)), unset: map[int][]int{}}
	for n, p := range m.Procs {
		if Small(p) {
			x.small[n] = 1
		}
	}
	return x
}

// proc is a procedure in which calls are inlined, as many as may be. It shares nothing with the given one.
func (x inliner) proc(p api.Proc) api.Proc {
	p.Blocks = slices.Clone(p.Blocks)
	size := ir.Size(p)
	for n := range growing(&p) {
		k := slices.IndexFunc(p.Blocks[n].Ins, x.inlinable)
		if k < 0 {
			continue
		}
		obj := p.Blocks[n].Ins[k].Obj
		if x.module.Procs[obj].Regs > ir.MaxRegs-max(0, p.Regs) {
			break
		}
		c := call{block: p.Blocks[n], at: k, registers: p.Regs, blocks: len(p.Blocks), small: x.module.Procs[obj], unset: x.unsetOf(obj)}
		head, others := c.inlined()
		size += ir.Size(api.Proc{Blocks: others}) + len(head.Ins) - len(c.block.Ins)
		if size > MaxSize {
			break
		}
		p.Blocks[n] = head
		p.Blocks = append(p.Blocks, others...)
		p.Regs += c.small.Regs
	}
	return procs.Clone(p)
}

// growing yields the numbers of the blocks of a procedure, also of those that are appended meanwhile.
func growing(p *api.Proc) iter.Seq[int] {
	return func(yield func(n int) bool) {
		for n := 0; n < len(p.Blocks) && yield(n); n++ {
		}
	}
}

// inlinable reports whether an instruction is a call of a small procedure.
func (x inliner) inlinable(i api.Ins) bool {
	return i.Op == api.IrCall && i.Obj >= 0 && i.Obj < len(x.small) && x.small[i.Obj] > 0
}

// unsetOf are the registers of a small procedure, beside its parameters, that are live at its start, ascending.
func (x inliner) unsetOf(n int) []int {
	l, known := x.unset[n]
	if p := x.module.Procs[n]; !known && len(p.Blocks) > 0 {
		in, _ := flow.Live(p)
		for r, is := range in[0] {
			if is && r >= p.Params {
				l = append(l, r)
			}
		}
		x.unset[n] = l
	}
	return l
}

// call is a call that is to be inlined.
type call struct {
	block     api.Block // in which it stands
	at        int       // its index there
	registers int       // how many there are ahead of those of the small procedure
	blocks    int       // how many there are ahead of those of the small procedure
	small     api.Proc
	unset     []int // what must be 0 at the start of the small procedure
}

// inlined is what becomes of the block of the call, and the blocks to be appended: those of the small procedure, and that with what came after the call.
func (c call) inlined() (head api.Block, others []api.Block) {
	for _, b := range c.small.Blocks {
		others = append(others, c.moved(b))
	}
	rest := c.block
	rest.Ins = c.block.Ins[c.at+1:]
	return api.Block{Ins: c.entry(), End: api.EndJump, A: api.None, To: c.blocks}, append(others, rest)
}

// entry is what stands ahead of the call, and what sets the registers of the small procedure.
func (c call) entry() []api.Ins {
	l := slices.Clone(c.block.Ins[:c.at])
	for n, arg := range c.block.Ins[c.at].Args {
		l = append(l, api.Ins{Op: api.IrCopy, D: c.register(n), A: arg, B: api.None})
	}
	for _, r := range c.unset {
		l = append(l, api.Ins{Op: api.IrConst, D: c.register(r), A: api.None, B: api.None})
	}
	return l
}

// moved is a block of the small procedure, with the numbers that its registers and successors have at their new place.
func (c call) moved(b api.Block) api.Block {
	m := api.Block{End: b.End, A: c.register(b.A), To: c.blocks + b.To}
	for _, i := range b.Ins {
		i.D, i.A, i.B = c.register(i.D), c.register(i.A), c.register(i.B)
		m.Ins = append(m.Ins, i)
	}
	switch b.End {
	case api.EndBranch:
		m.Else = c.blocks + b.Else
	case api.EndRet:
		if d := c.block.Ins[c.at].D; d != api.None {
			m.Ins = append(m.Ins, api.Ins{Op: api.IrCopy, D: d, A: m.A, B: api.None})
		}
		m.End, m.A, m.To = api.EndJump, api.None, c.blocks+len(c.small.Blocks)
	}
	return m
}

// register is the new number of a register of the small procedure.
func (c call) register(r int) int {
	if r == api.None {
		return api.None
	}
	return c.registers + r
}
