package region

import (
	"math"

	"rushlight/api"
	"rushlight/flow"
	"rushlight/reads"
)

// planner makes a plan. A mark takes notes only from what comes behind it in the order, for whatever an edge leads back to begins with a mark.
// So what the chapter makes by finding all hazards anew for each mark comes of going once through the blocks in the order.
type planner struct {
	api.Proc
	tracker *reads.Tracker
	preds   [][]int
	ends    []reads.Set // what may have been read behind each block that has been gone through
}

// newPlanner is a planner for a procedure with the base marks, that has gone through the blocks that are not reached. These have no more marks.
func newPlanner(base api.Proc, t *reads.Tracker) *planner {
	k := &planner{Proc: base, tracker: t, preds: flow.Preds(base), ends: make([]reads.Set, len(base.Blocks))}
	reached := flow.Reach(base)
	for n, start := range t.Starts(base) {
		if !reached[n] {
			k.pass(n, start, 0, math.MaxInt)
		}
	}
	return k
}

// reach goes through a block that is reached, behind so many notes. It answers how many there are then.
func (k *planner) reach(n, before, limit int) int {
	start := k.tracker.None()
	for _, from := range k.preds[n] {
		start.Join(k.ends[from])
	}
	return k.pass(n, start, before, limit)
}

// pass goes through a block, behind some reads and so many notes: exactly the hazards get Log, and a mark comes ahead of where there would be
// more notes than the limit.
func (k *planner) pass(n int, before reads.Set, count, limit int) int {
	b := &k.Blocks[n]
	var l []api.Ins
	add := func(i api.Ins) {
		l = append(l, i)
		count = behind(i, count)
	}
	for _, i := range b.Ins {
		i.Log = k.tracker.Pass(before, i)
		if !isBoundary(i) && behind(i, count) > limit {
			k.tracker.Pass(before, mark())
			add(mark())
			i.Log = k.tracker.Pass(before, i)
		}
		add(i)
	}
	k.tracker.End(before, *b)
	b.Ins, k.ends[n] = l, before
	return count
}
