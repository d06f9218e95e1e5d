package flow_test

import (
	"math"
	"reflect"
	"slices"
	"testing"

	"rushlight/api"
	"rushlight/drawn"
	"rushlight/flow"
	"rushlight/ir"
	. "rushlight/sketch"
)

// graph is a procedure without registers whose blocks lead to these ones: to none, to one, or to two.
func graph(outs ...[]int) api.Proc {
	var p api.Proc
	for _, l := range outs {
		switch len(l) {
		case 0:
			p.Blocks = append(p.Blocks, Ret(None))
		case 1:
			p.Blocks = append(p.Blocks, Jump(l[0]))
		default:
			p.Blocks = append(p.Blocks, Branch(0, l[0], l[1]))
		}
	}
	return p
}

// to is the blocks to which a block leads.
func to(l ...int) []int { return l }

// same reports whether two lists of lists are the same, where nil and empty ones are.
func same(a, b [][]int) bool { return slices.EqualFunc(a, b, slices.Equal[[]int]) }

// The example of the chapter.
func TestExample(t *testing.T) {
	p := graph(to(1), to(2, 0), to())
	if got := flow.Order(p); !slices.Equal(got, to(0, 1, 2)) {
		t.Errorf("Order: %v", got)
	}
	if got := flow.Back(p); !slices.Equal(got, [][2]int{{1, 0}}) {
		t.Errorf("Back: %v", got)
	}
}

// Promise 16.1: hand-made graphs.
func TestGraphs(t *testing.T) {
	for name, x := range map[string]struct {
		outs  [][]int
		preds [][]int
		order []int
		back  [][2]int
	}{
		"nothing":                         {},
		"one block":                       {[][]int{to()}, [][]int{{}}, to(0), nil},
		"a loop of one":                   {[][]int{to(0)}, [][]int{{0}}, to(0), [][2]int{{0, 0}}},
		"both ways to itself":             {[][]int{to(0, 0)}, [][]int{{0}}, to(0), [][2]int{{0, 0}}},
		"both ways to another":            {[][]int{to(1, 1), to()}, [][]int{{}, {0}}, to(0, 1), nil},
		"a diamond":                       {[][]int{to(1, 2), to(3), to(3), to()}, [][]int{{}, {0}, {0}, {1, 2}}, to(0, 2, 1, 3), nil},
		"a diamond, the other way round":  {[][]int{to(2, 1), to(3), to(3), to()}, [][]int{{}, {0}, {0}, {1, 2}}, to(0, 1, 2, 3), nil},
		"a way past":                      {[][]int{to(1, 2), to(2), to()}, [][]int{{}, {0}, {0, 1}}, to(0, 1, 2), nil},
		"a way past, visited first":       {[][]int{to(2, 1), to(2), to()}, [][]int{{}, {0}, {0, 1}}, to(0, 1, 2), nil},
		"not reached":                     {[][]int{to(2), to(2), to()}, [][]int{{}, {}, {0, 1}}, to(0, 2), nil},
		"a cycle that is not reached":     {[][]int{to(), to(2), to(1, 0)}, [][]int{{2}, {2}, {1}}, to(0), nil},
		"loops in each other":             {[][]int{to(1), to(2), to(2, 3), to(1, 4), to(0)}, [][]int{{4}, {0, 3}, {1, 2}, {2}, {3}}, to(0, 1, 2, 3, 4), [][2]int{{2, 2}, {3, 1}, {4, 0}}},
		"a loop with two ways back":       {[][]int{to(1, 2), to(0), to(0)}, [][]int{{1, 2}, {0}, {0}}, to(0, 2, 1), [][2]int{{1, 0}, {2, 0}}},
		"a cycle entered at two places":   {[][]int{to(1, 2), to(2), to(1)}, [][]int{{}, {0, 2}, {0, 1}}, to(0, 1, 2), [][2]int{{2, 1}}},
		"the same, entered otherwise":     {[][]int{to(2, 1), to(2), to(1)}, [][]int{{}, {0, 2}, {0, 1}}, to(0, 2, 1), [][2]int{{1, 2}}},
		"numbers backward":                {[][]int{to(3), to(), to(1), to(2)}, [][]int{{}, {2}, {3}, {0}}, to(0, 3, 2, 1), nil},
		"successors that do not exist":    {[][]int{to(5, 1), to(-1), to(3)}, [][]int{{}, {0}, {}}, to(0, 1), nil},
		"far beyond":                      {[][]int{to(math.MaxInt, math.MinInt), to(0)}, [][]int{{1}, {}}, to(0), nil},
		"the second one exists":           {[][]int{to(2, 0), to(0)}, [][]int{{0, 1}, {}}, to(0), [][2]int{{0, 0}}},
		"an edge that is found back late": {[][]int{to(1, 3), to(2), to(1, 0), to(1)}, [][]int{{2}, {0, 2, 3}, {1}, {0}}, to(0, 3, 1, 2), [][2]int{{2, 1}, {2, 0}}},
	} {
		p := graph(x.outs...)
		reach := make([]bool, len(x.outs))
		for _, n := range x.order {
			reach[n] = true
		}
		if got := flow.Preds(p); !same(got, x.preds) {
			t.Errorf("%s: Preds: %v", name, got)
		}
		if got := flow.Reach(p); !slices.Equal(got, reach) {
			t.Errorf("%s: Reach: %v", name, got)
		}
		if got := flow.Order(p); !slices.Equal(got, x.order) {
			t.Errorf("%s: Order: %v", name, got)
		}
		if got := flow.Back(p); !slices.Equal(got, x.back) {
			t.Errorf("%s: Back: %v", name, got)
		}
	}
}

// Promise 16.1: ends that there are not lead nowhere, whatever stands in them.
func TestStrangeEnds(t *testing.T) {
	for _, end := range []int{api.EndRet, 0, 4, -1, math.MaxInt} {
		p := api.Proc{Blocks: []api.Block{{End: end, To: 1, Else: 0}, {End: api.EndJump}}}
		if got := flow.Preds(p); !same(got, [][]int{{1}, {}}) {
			t.Errorf("%d: Preds: %v", end, got)
		}
		if got := flow.Order(p); !slices.Equal(got, to(0)) || len(flow.Back(p)) > 0 || !slices.Equal(flow.Reach(p), []bool{true, false}) {
			t.Errorf("%d: Order: %v", end, got)
		}
	}
	p := api.Proc{Blocks: []api.Block{{End: api.EndJump, To: 1, Else: 2}, {End: api.EndRet}, {End: api.EndRet}}}
	if got := flow.Order(p); !slices.Equal(got, to(0, 1)) {
		t.Errorf("the Else of a jump: %v", got)
	}
}

// drawnGraph is a graph of up to nine blocks, of which some lead to blocks that do not exist.
func drawnGraph(n int) api.Proc {
	d := drawn.Dice(n)
	count := 1 + d.Roll(9)
	var outs [][]int
	for range count {
		var l []int
		for range []int{0, 1, 1, 2, 2, 2}[d.Roll(6)] {
			l = append(l, d.Roll(count+2)-1)
		}
		outs = append(outs, l)
	}
	return graph(outs...)
}

// model is a traversal as the chapter words it.
type model struct {
	p             api.Proc
	visited, left []int
	back          [][2]int
}

func (m *model) visit(n int) {
	m.visited = append(m.visited, n)
	for _, to := range ir.Outs(m.p.Blocks[n]) {
		switch {
		case to < 0 || to >= len(m.p.Blocks):
		case !slices.Contains(m.visited, to):
			m.visit(to)
		case !slices.Contains(m.left, to):
			m.back = append(m.back, [2]int{n, to})
		}
	}
	m.left = append(m.left, n)
}

// Promises 16.1 and 16.4: drawn graphs, held against the model.
func TestDrawnGraphs(t *testing.T) {
	backs, unreached := 0, 0
	for n := range 5000 {
		p := drawnGraph(n)
		m := &model{p: p}
		m.visit(0)
		order, back, reach := flow.Order(p), flow.Back(p), flow.Reach(p)
		slices.Reverse(m.left)
		if !slices.Equal(order, m.left) || !slices.Equal(back, m.back) {
			t.Fatalf("%s: Order %v, not %v; Back %v, not %v", ir.Text(p), order, m.left, back, m.back)
		}
		preds := make([][]int, len(p.Blocks))
		for k := range p.Blocks {
			if reach[k] != slices.Contains(m.visited, k) {
				t.Fatalf("%s: Reach: %v", ir.Text(p), reach)
			}
			for to := range p.Blocks {
				if slices.Contains(ir.Outs(p.Blocks[k]), to) {
					preds[to] = append(preds[to], k)
					forward := slices.Index(order, k) < slices.Index(order, to)
					if reach[k] && forward == slices.Contains(back, [2]int{k, to}) {
						t.Fatalf("%s: %d to %d: forward %v, order %v, back %v", ir.Text(p), k, to, forward, order, back)
					}
				}
			}
		}
		if !same(flow.Preds(p), preds) {
			t.Fatalf("%s: Preds: %v", ir.Text(p), flow.Preds(p))
		}
		backs, unreached = backs+len(back), unreached+len(p.Blocks)-len(order)
	}
	if backs < 3000 || unreached < 3000 {
		t.Errorf("%d back edges, %d blocks that are not reached", backs, unreached)
	}
}

// Rule R1: very many blocks in a row.
func TestLongPath(t *testing.T) {
	const count = 1000000
	p := api.Proc{Blocks: make([]api.Block, count)}
	for n := range p.Blocks {
		p.Blocks[n] = Jump((n + 1) % count)
	}
	order := flow.Order(p)
	if len(order) != count || order[0] != 0 || order[count-1] != count-1 || !slices.Equal(flow.Back(p), [][2]int{{count - 1, 0}}) {
		t.Errorf("%d blocks in order", len(order))
	}
	if in, out := flow.Live(p); len(in) != count || len(out) != count {
		t.Errorf("Live: %d, %d", len(in), len(out))
	}
}

// Rule R3: nothing that is handed in is changed, and no two answers share anything.
func TestSharing(t *testing.T) {
	make := func() api.Proc {
		return api.Proc{Params: 1, Regs: 3, Blocks: []api.Block{Branch(0, 1, 2, Call(1, 0, 0, 2)), Jump(2, Out(1)), Ret(1)}}
	}
	p := make()
	for range 2 {
		preds, order, back, reach := flow.Preds(p), flow.Order(p), flow.Back(p), flow.Reach(p)
		in, out := flow.Live(p)
		if !same(preds, [][]int{{}, {0}, {0, 1}}) || !slices.Equal(order, to(0, 1, 2)) || len(back) > 0 || !slices.Equal(reach, []bool{true, true, true}) {
			t.Errorf("%v, %v, %v, %v", preds, order, back, reach)
		}
		if !reflect.DeepEqual(in, [][]bool{{true, false, true}, {false, true, false}, {false, true, false}}) || !reflect.DeepEqual(out, [][]bool{{true, true, false}, {false, true, false}, {false, true, false}}) {
			t.Errorf("%v, %v", in, out)
		}
		if !reflect.DeepEqual(p, make()) {
			t.Errorf("changed: %v", p)
		}
		for n := range in {
			clear(preds[n])
			_ = append(preds[n], 9, 9, 9)
			in[n][0], in[n][2], out[n][1] = true, true, false
			_ = append(in[n], true, true)
			_ = append(out[n], true, true)
		}
		clear(order)
		clear(reach)
	}
}
