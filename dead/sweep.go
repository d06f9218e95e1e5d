package dead

import (
	"slices"

	"rushlight/api"
	"rushlight/flow"
	"rushlight/ir"
)

// sweep goes through the blocks backward and hands to remove the indices of the dead instructions of each, ascending.
// What these read does not count as read, neither ahead of them in their block nor in the blocks that come later.
func sweep(p api.Proc, remove func(n int, gone []int)) {
	if tooLarge(p) {
		return
	}
	in, _ := flow.Live(p)
	for _, n := range backward(p) {
		b := p.Blocks[n]
		live := atEnd(b, in, p.Regs)
		var gone []int
		for k, i := range slices.Backward(b.Ins) {
			if idle(i, live) {
				gone = append(gone, k)
			} else {
				live.pass(i)
			}
		}
		slices.Reverse(gone)
		remove(n, gone)
		in[n] = live
	}
}

// backward is all blocks, as far as can be each behind those that it leads to.
func backward(p api.Proc) []int {
	l := flow.Order(p)
	for n, is := range flow.Reach(p) {
		if !is {
			l = append(l, n)
		}
	}
	slices.Reverse(l)
	return l
}

// registers tells of each register whether it is live.
type registers []bool

// atEnd is what is live ahead of the end of a block, where in tells what is live when each block begins.
func atEnd(b api.Block, in [][]bool, regs int) registers {
	live := make(registers, max(0, regs))
	for _, to := range ir.Outs(b) {
		if to < 0 || to >= len(in) {
			continue // in no valid procedure
		}
		for r, is := range in[to] {
			live[r] = live[r] || is
		}
	}
	if b.End == api.EndBranch || b.End == api.EndRet {
		live.set(b.A, true)
	}
	return live
}

// pass makes what is live behind an instruction what is live ahead of it.
func (l registers) pass(i api.Ins) {
	l.set(ir.Def(i), false)
	for _, r := range ir.Uses(i) {
		l.set(r, true)
	}
}

// set makes a register live or not, if it exists.
func (l registers) set(r int, live bool) {
	if r >= 0 && r < len(l) {
		l[r] = live
	}
}
