package alias

import (
	"rushlight/api"
	"rushlight/ir"
)

// graph tells what hands on what it may point into to what. Its nodes are the registers of a procedure, and behind them one for all that has escaped.
type graph struct {
	objects int      // how many the procedure has
	regions int      // how many memory regions there are
	sets    []set    // what each node may point into
	edges   [][]edge // from each node
}

// edge leads to a node, and joins a set to what that one may point into.
type edge struct {
	to   int
	join func(s *set) bool
}

// newGraph is the graph of a procedure, in which nothing is handed on yet.
func newGraph(m api.Module, p api.Proc) *graph {
	regs := registers(p)
	g := &graph{objects: len(p.Objects), regions: len(p.Objects) + len(m.Globals) + 1, sets: make([]set, regs+1), edges: make([][]edge, regs+1)}
	outside := &g.sets[g.escaped()]
	for n := g.objects; n < g.regions; n++ {
		outside.add(n)
	}
	for r := range min(p.Params, regs) {
		g.sets[r] = *outside
	}
	for _, b := range p.Blocks {
		for _, i := range b.Ins {
			g.take(i)
		}
		if b.End == api.EndRet {
			g.lead(b.A, g.escaped())
		}
	}
	return g
}

// registers is how many registers of a procedure are looked at: all, if it is valid.
func registers(p api.Proc) int { return min(max(0, p.Regs), ir.MaxRegs) }

// escaped is the node for all that has escaped.
func (g *graph) escaped() int { return len(g.sets) - 1 }

// take adds what an instruction does.
func (g *graph) take(i api.Ins) {
	switch i.Op {
	case api.IrFrame:
		g.point(i.D, i.Obj)
	case api.IrGlobal:
		g.point(i.D, g.objects+i.Obj)
	case api.IrCopy:
		g.lead(i.A, i.D)
	case api.IrBin:
		if i.Fn == api.FnAdd || i.Fn == api.FnSub {
			g.lead(i.A, i.D)
			g.lead(i.B, i.D)
		}
	case api.IrLoad:
		if i.Size == 4 {
			g.lead(g.escaped(), i.D)
		}
	case api.IrStore:
		if i.Size == 4 {
			g.lead(i.B, g.escaped())
		}
	case api.IrCall:
		for _, r := range i.Args {
			g.lead(r, g.escaped())
		}
		g.lead(g.escaped(), i.D)
	}
}

// has reports whether there is such a node. For api.None there is none.
func (g *graph) has(n int) bool { return n >= 0 && n < len(g.sets) }

// point lets a node point into a memory region, if there is such a one.
func (g *graph) point(n, region int) {
	if g.has(n) && region < g.regions {
		g.sets[n].add(region)
	}
}

// lead lets a node point into whatever another one may.
func (g *graph) lead(from, to int) {
	if g.has(from) && g.has(to) {
		g.edges[from] = append(g.edges[from], edge{to, g.sets[to].join})
	}
}

// spread hands on what the nodes may point into, until none of them grows any more.
func (g *graph) spread() {
	work := make([]int, len(g.sets))
	waits := make([]bool, len(g.sets))
	for n := range work {
		work[n], waits[n] = n, true
	}
	for len(work) > 0 {
		n := work[len(work)-1]
		work, waits[n] = work[:len(work)-1], false
		for _, e := range g.edges[n] {
			if e.join(&g.sets[n]) && !waits[e.to] {
				work, waits[e.to] = append(work, e.to), true
			}
		}
	}
}
