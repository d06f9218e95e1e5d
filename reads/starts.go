package reads

import (
	"slices"

	"rushlight/api"
	"rushlight/flow"
	"rushlight/procs"
)

// Starts is which reads may precede the start of each block. The procedure is the tracker's, perhaps with marks added.
func (t *Tracker) Starts(p api.Proc) []Set {
	own := make([]Set, len(p.Blocks))     // the reads of each block that may precede its end
	passes := make([]bool, len(p.Blocks)) // whether what precedes its start may precede its end too
	for n, b := range p.Blocks {
		own[n] = t.None()
		for _, i := range b.Ins {
			t.Pass(own[n], i)
		}
		t.End(own[n], b)
		passes[n] = !slices.ContainsFunc(b.Ins, IsBoundary)
	}
	starts, preds := make([]Set, len(p.Blocks)), flow.Preds(p)
	for _, blocks := range circles(p, preds, passes) {
		// The same precedes all of them, and of those that lead to them, what precedes the others is known already.
		before := t.None()
		for _, n := range blocks {
			for _, from := range preds[n] {
				before.Join(own[from])
				if passes[from] {
					before.Join(starts[from])
				}
			}
		}
		for _, n := range blocks {
			starts[n] = slices.Clone(before)
		}
	}
	return starts
}

// circles is the blocks, those together that lead to each other through blocks that pass on what precedes them, and each behind all of which
// it is passed on what precedes them. They are found by going backward from the blocks in the order, the first first.
func circles(p api.Proc, preds [][]int, passes []bool) [][]int {
	var l [][]int
	seen := make([]bool, len(p.Blocks))
	for _, first := range flow.Order(procs.Entered(p, func(n int) bool { return passes[n] })) {
		first -= len(p.Blocks)
		if first < 0 || seen[first] {
			continue
		}
		seen[first] = true
		blocks := []int{first}
		for k := 0; k < len(blocks); k++ {
			for _, from := range preds[blocks[k]] {
				if passes[from] && !seen[from] {
					seen[from] = true
					blocks = append(blocks, from)
				}
			}
		}
		l = append(l, blocks)
	}
	return l
}
