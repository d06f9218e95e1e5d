package flow

import (
	"iter"
	"slices"

	"rushlight/api"
	"rushlight/ir"
)

// maxAnswer is how many registers the answer of a call tells of at most. Of what is beyond that nothing is promised; it would not fit into a memory.
const maxAnswer = 1<<31 - 1

// Row tells of each register whether it is live.
type Row []bool

// pass makes what is live behind an instruction what is live ahead of it.
func (l Row) pass(e effect) {
	if l.has(e.sets) {
		l[e.sets] = false
	}
	l.read(e.reads)
}

// read makes registers live, as far as they exist.
func (l Row) read(registers []int) {
	for _, r := range registers {
		if l.has(r) {
			l[r] = true
		}
	}
}

// has reports whether a register exists.
func (l Row) has(r int) bool { return r >= 0 && r < len(l) }

// effect is what an instruction does to registers.
type effect struct {
	sets  int
	reads []int
}

// effectOf is what an instruction does to registers. It shares nothing with the instruction.
func effectOf(i api.Ins) effect { return effect{sets: ir.Def(i), reads: ir.Uses(i)} }

// endReads are the registers that the end of a block reads.
func endReads(b api.Block) []int {
	if b.End == api.EndBranch || b.End == api.EndRet {
		return []int{b.A}
	}
	return nil
}

// Each yields a block's instructions backward, each with which registers are live behind it.
func Each(p api.Proc, n int, out []bool) iter.Seq2[int, Row] {
	if n < 0 || n >= len(p.Blocks) || p.Regs > maxAnswer {
		return func(func(int, Row) bool) {}
	}
	// The caller may change what it has handed in before it goes through the instructions, so all that is needed of it is kept apart.
	regs := max(0, p.Regs)
	last := slices.Clone(out[:min(len(out), regs)])
	var effects []effect
	for _, i := range p.Blocks[n].Ins {
		effects = append(effects, effectOf(i))
	}
	return func(yield func(int, Row) bool) {
		if len(effects) == 0 {
			return
		}
		live, row := make(Row, regs), make(Row, regs)
		copy(live, last)
		for k, e := range slices.Backward(effects) {
			copy(row, live)
			if !yield(k, row) {
				return
			}
			live.pass(e)
		}
	}
}

// Live tells which registers are live where each block begins, and ahead of its end.
func Live(p api.Proc) (in, out [][]bool) {
	if blocks := len(p.Blocks); blocks > 0 && p.Regs > maxAnswer/blocks/2 {
		return nil, nil
	}
	in, out = table(p), table(p)
	sets := make([][]int, len(p.Blocks)) // by each block, ascending
	for n, b := range p.Blocks {
		Row(out[n]).read(endReads(b))
		copy(in[n], out[n])
		for _, i := range slices.Backward(b.Ins) {
			e := effectOf(i)
			Row(in[n]).pass(e)
			sets[n] = append(sets[n], e.sets)
		}
		slices.Sort(sets[n])
	}
	spread(Preds(p), sets, in, out)
	return in, out
}

// table has a row for each block, in which no register is live.
func table(p api.Proc) [][]bool {
	l := make([][]bool, len(p.Blocks))
	for n := range l {
		l[n] = make([]bool, max(0, p.Regs))
	}
	return l
}

// spread completes what is live. At first in tells which registers each block reads ahead of setting them, and out which ones its end reads.
// From there it goes back over the predecessors, and so looks at each register once for each edge at whose target that is live.
func spread(preds, sets [][]int, in, out [][]bool) {
	type spot struct{ block, register int }
	var work []spot
	for n, l := range in {
		for r, is := range l {
			if is {
				work = append(work, spot{n, r})
			}
		}
	}
	for len(work) > 0 {
		s := work[len(work)-1]
		work = work[:len(work)-1]
		for _, n := range preds[s.block] {
			if out[n][s.register] {
				continue
			}
			out[n][s.register] = true
			if _, is := slices.BinarySearch(sets[n], s.register); !is && !in[n][s.register] {
				in[n][s.register] = true
				work = append(work, spot{n, s.register})
			}
		}
	}
}
