package shape

import (
	"iter"
	"slices"

	"rushlight/api"
	"rushlight/flow"
	"rushlight/ir"
)

// merged are blocks that have taken in what they may. Their instructions may be shared with the procedure.
// Those that were absorbed stay as they were, or without instructions if they are not kept.
//
// In which order blocks absorb each other changes nothing about what can be absorbed: the successors of an absorbed block have its absorber
// for a predecessor in its place. So a block has in the end all that follows it in its chain, unless it was absorbed before its turn.
func merged(p api.Proc, keep bool) []api.Block {
	c := chains{blocks: p.Blocks, next: absorbed(p), first: slices.Repeat([]int{1}, len(p.Blocks))}
	for _, to := range c.next {
		if to != api.None {
			c.first[to] = 0
		}
	}
	// Were all those kept that a block has absorbed with what they had absorbed themselves, the procedure might not be valid any more.
	return c.join(keep && c.total() <= ir.MaxIns)
}

// absorbed is which block each block absorbs at first, or api.None.
func absorbed(p api.Proc) []int {
	sources := make([]int, len(p.Blocks)) // how many blocks that are reached lead to each
	reach := flow.Reach(p)
	for n, is := range reach {
		if !is {
			continue
		}
		for _, to := range ir.Outs(p.Blocks[n]) {
			if to >= 0 && to < len(sources) {
				sources[to]++
			}
		}
	}
	next := slices.Repeat([]int{api.None}, len(p.Blocks))
	for n, b := range p.Blocks {
		if reach[n] && b.End == api.EndJump && b.To > 0 && b.To < len(p.Blocks) && b.To != n && sources[b.To] == 1 {
			next[n] = b.To
		}
	}
	return next
}

// chains are blocks of which each absorbs the next one. A block is in one chain, and no chain leads back into itself: block 0, by which
// what is reached must be entered, is absorbed by none.
type chains struct {
	blocks []api.Block
	next   []int // behind each block, or api.None
	first  []int // 1 for blocks with which a chain begins
}

// turns yields the blocks that are not absorbed before it is their turn to absorb others: those with which a chain begins, and those
// whose number is less than all ahead of them in their chain.
func (c chains) turns(yield func(n int) bool) {
	gone := make([]int, len(c.blocks))
	for n := range c.blocks {
		if gone[n] > 0 {
			continue
		}
		if !yield(n) {
			return
		}
		for to := range c.behind(n) {
			gone[to] = 1
		}
	}
}

// behind yields the blocks behind one in its chain.
func (c chains) behind(n int) iter.Seq[int] {
	return func(yield func(to int) bool) {
		for to := c.next[n]; to != api.None && yield(to); to = c.next[to] {
		}
	}
}

// total is how many instructions there are when all blocks have absorbed what they can, and those that were absorbed are kept.
func (c chains) total() int {
	sum := ir.Size(api.Proc{Blocks: c.blocks}) - len(c.blocks)
	for n := range c.turns {
		for to := range c.behind(n) {
			sum += len(c.blocks[to].Ins)
		}
	}
	return sum
}

// join lets all blocks absorb what they can. If those that are absorbed are not kept, they are left without instructions.
func (c chains) join(keep bool) []api.Block {
	l := slices.Clone(c.blocks)
	for n := range c.turns {
		last, ins := n, slices.Clip(c.blocks[n].Ins)
		for to := range c.behind(n) {
			if keep || c.first[n] > 0 {
				ins = append(ins, c.blocks[to].Ins...)
			}
			last = to
		}
		l[n] = c.blocks[last]
		l[n].Ins = ins
	}
	for n := range l {
		if !keep && c.first[n] == 0 {
			l[n].Ins = nil
		}
	}
	return l
}
