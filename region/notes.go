package region

import (
	"slices"

	"rushlight/api"
	"rushlight/flow"
	"rushlight/procs"
)

// isBoundary reports whether an instruction is a boundary.
func isBoundary(i api.Ins) bool { return i.Op == api.IrMark || i.Op == api.IrCall }

// notes is how many notes an instruction is.
func notes(i api.Ins) int {
	n := 0
	if i.Log {
		n++
	}
	if i.Op == api.IrOut || i.Op == api.IrIn {
		n++
	}
	return n
}

// behind is how many notes a path has behind an instruction, with so many ahead of it. The notes of a call count for the path that it begins.
func behind(i api.Ins, before int) int {
	if isBoundary(i) {
		before = 0
	}
	return before + notes(i)
}

// paths is how many notes the paths through a procedure have.
type paths struct {
	order []int
	preds [][]int
	ends  map[int]int // behind each block, at most
}

// pathsOf is the paths through a procedure, whose blocks contribute nothing yet.
func pathsOf(p api.Proc) paths {
	return paths{order: flow.Order(p), preds: flow.Preds(p), ends: map[int]int{}}
}

// fill goes once through the blocks that are reached, in the order, with what each makes of the notes ahead of it.
// It reports whether some block had not had that contribution already.
func (l paths) fill(contribution func(n, before int) int) bool {
	changed := false
	for _, n := range l.order {
		before := 0
		for _, from := range l.preds[n] {
			before = max(before, l.ends[from])
		}
		was, is := l.ends[n]
		l.ends[n] = contribution(n, before)
		changed = changed || !is || was != l.ends[n]
	}
	return changed
}

// Most is how many notes a region has at most.
func Most(p api.Proc) (int, api.Errno) {
	if endless(p) {
		return 0, api.ErrRule
	}
	most := 0
	contribution := func(n, count int) int {
		for _, i := range p.Blocks[n].Ins {
			count = behind(i, count)
			most = max(most, count)
		}
		return count
	}
	// Where no block that an edge leads back to begins with a mark, once is not enough.
	for l := pathsOf(p); l.fill(contribution); {
	}
	return most, api.OK
}

// endless reports whether a path without a boundary forms a cycle among the blocks that are reached.
func endless(p api.Proc) bool {
	reached := flow.Reach(p)
	open := procs.Entered(p, func(n int) bool { return reached[n] && !slices.ContainsFunc(p.Blocks[n].Ins, isBoundary) })
	return len(flow.Back(open)) > 0
}
