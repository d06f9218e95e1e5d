package alloc

import (
	"slices"

	"rushlight/api"
	"rushlight/ir"
)

// alone is a procedure whose register 0 is read and set at the same points as register r of a given one, and which has no other:
// what is live is found out for one register much faster than for all.
func alone(p api.Proc, r int) api.Proc {
	number := func(register int) int {
		if register == r {
			return 0
		}
		return api.None
	}
	q := api.Proc{Regs: 1, Blocks: slices.Clone(p.Blocks)}
	if r < p.Params {
		q.Params = 1
	}
	for n := range q.Blocks {
		b := &q.Blocks[n]
		b.A = number(b.A)
		b.Ins = make([]api.Ins, len(b.Ins))
		for k, i := range p.Blocks[n].Ins {
			b.Ins[k] = api.Ins{Op: api.IrCall, D: number(ir.Def(i))}
			if slices.Contains(ir.Uses(i), r) {
				b.Ins[k].Args = []int{0}
			}
		}
	}
	return q
}
