package shape_test

import (
	"slices"
	"testing"

	"rushlight/api"
	"rushlight/drawn"
	"rushlight/flow"
	"rushlight/ir"
	"rushlight/irrun"
	"rushlight/procs"
	"rushlight/shape"
	. "rushlight/sketch"
)

// isTrivial reports whether a block is trivial.
func isTrivial(p api.Proc, n int) bool {
	b := p.Blocks[n]
	return len(b.Ins) == 0 && b.End == api.EndJump && b.To != n
}

// finalTarget is the final target of a block, where those on the way are known.
func finalTarget(p api.Proc, n int, way []int) int {
	if !isTrivial(p, n) {
		return n
	}
	if k := slices.Index(way, n); k >= 0 {
		return slices.Min(way[k:])
	}
	return finalTarget(p, p.Blocks[n].To, append(way, n))
}

// threaded is Thread as the chapter words it.
func threaded(p api.Proc) api.Proc {
	q := procs.Clone(p)
	for n, b := range p.Blocks {
		to := &q.Blocks[n]
		if b.End != api.EndRet {
			to.To = finalTarget(p, b.To, nil)
		}
		if b.End == api.EndBranch {
			to.Else = finalTarget(p, b.Else, nil)
			if to.To == to.Else {
				*to = Jump(to.To, b.Ins...)
			}
		}
	}
	return q
}

// pruned is Prune as the chapter words it.
func pruned(p api.Proc) api.Proc {
	q, reach := procs.Clone(p), flow.Reach(p)
	for n := len(reach) - 1; n >= 0; n-- {
		if reach[n] {
			continue
		}
		q.Blocks = slices.Delete(q.Blocks, n, n+1)
		for k := range q.Blocks {
			if b := &q.Blocks[k]; b.To > n {
				b.To--
			}
			if b := &q.Blocks[k]; b.Else > n {
				b.Else--
			}
		}
	}
	return q
}

// absorbs reports whether a block absorbs the one to which it leads.
func absorbs(p api.Proc, n int) bool {
	b, reach := p.Blocks[n], flow.Reach(p)
	if b.End != api.EndJump || b.To == n || b.To == 0 {
		return false
	}
	return !slices.ContainsFunc(flow.Preds(p)[b.To], func(k int) bool { return k != n && reach[k] })
}

// merged is Merge as the chapter words it.
func merged(p api.Proc) api.Proc {
	q := procs.Clone(p)
	for n := range q.Blocks {
		for flow.Reach(q)[n] && absorbs(q, n) {
			other := q.Blocks[q.Blocks[n].To]
			other.Ins = slices.Concat(q.Blocks[n].Ins, other.Ins)
			q.Blocks[n] = other
		}
	}
	return q
}

// tidied is Tidy as the chapter words it.
func tidied(p api.Proc) api.Proc {
	for {
		q := pruned(merged(threaded(p)))
		if len(q.Blocks) == len(p.Blocks) {
			return q
		}
		p = q
	}
}

// drawnGraph is a procedure of up to eleven blocks, many of which are empty.
func drawnGraph(n int) api.Proc {
	d := drawn.Dice(n)
	count := 1 + d.Roll(11)
	empty, jumps := d.Roll(4), d.Roll(4)
	p := proc()
	for n := range count {
		var l []api.Ins
		for k := 0; k < 3 && d.Roll(4) >= empty; k++ {
			l = append(l, Const(k, uint32(n)))
		}
		b := Jump(d.Roll(count), l...)
		if d.Roll(4) >= jumps {
			b = Branch(d.Roll(3), d.Roll(count), d.Roll(count), l...)
		}
		if d.Roll(5) == 0 {
			b = Ret(d.Roll(3), l...)
		}
		p.Blocks = append(p.Blocks, b)
	}
	return p
}

// Promises 19.1 to 19.5: drawn graphs, held against the chapter's words.
func TestDrawnGraphs(t *testing.T) {
	models := map[string]func(p api.Proc) api.Proc{"Thread": threaded, "Prune": pruned, "Merge": merged, "Tidy": tidied}
	changed := map[string]int{}
	for n := range 10000 {
		p := drawnGraph(n)
		for name, f := range all() {
			got, want := f(p), models[name](p)
			if !procs.Equal(got, want) {
				t.Fatalf("%s of\n%sis\n%snot\n%s", name, ir.Text(p), ir.Text(got), ir.Text(want))
			}
			if !procs.Equal(got, p) {
				changed[name]++
			}
		}
		q := shape.Tidy(p)
		for k, is := range flow.Reach(q) {
			if !is || absorbs(q, k) {
				t.Fatalf("block %d of\n%s", k, ir.Text(q))
			}
		}
	}
	for name, count := range changed {
		if count < 2000 {
			t.Errorf("%s changes %d", name, count)
		}
	}
}

// fuel is with how many steps a run is done at least; at most some.
func fuel(m api.Module, inputs []uint32) int {
	least, most := 0, 20000
	for least < most {
		middle := (least + most) / 2
		if irrun.Run(m, inputs, middle).E == api.ErrFuel {
			least = middle + 1
		} else {
			most = middle
		}
	}
	return least
}

// Promise 19.5: what is made of drawn modules and programs is valid, and does the same in no more steps.
func TestEquivalent(t *testing.T) {
	for name, f := range all() {
		for n := range 600 {
			m := drawn.WildModule(n)
			switch n % 3 {
			case 1:
				m = drawn.TameModule(n)
			case 2:
				m = drawn.CallModule(n)
			}
			if s := drawn.Unequal(m, fuel(m, nil), f); s != "" {
				t.Fatalf("%s, %d: %s", name, n, s)
			}
		}
		for n := range 40 {
			m := drawn.Lowered(n)
			for _, inputs := range [][]uint32{nil, {1, 300, 1<<32 - 1}, {7, 0, 2, 5, 1 << 31}} {
				if s := drawn.Unequal(m, fuel(m, inputs), f); s != "" {
					t.Fatalf("%s of program %d: %s", name, n, s)
				}
			}
		}
	}
}
