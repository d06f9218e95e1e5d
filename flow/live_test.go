package flow_test

import (
	"math"
	"reflect"
	"slices"
	"testing"

	"rushlight/api"
	"rushlight/drawn"
	"rushlight/flow"
	"rushlight/ir"
	. "rushlight/sketch"
)

// registers are the numbers of those that are live.
func registers(l []bool) []int {
	var r []int
	for n, is := range l {
		if is {
			r = append(r, n)
		}
	}
	return r
}

// lists is the numbers of those that are live, by each block.
func lists(l [][]bool) [][]int {
	var r [][]int
	for _, x := range l {
		r = append(r, registers(x))
	}
	return r
}

// Promise 16.2: hand-made procedures with the registers 0 to 4.
func TestLive(t *testing.T) {
	loop := []api.Block{Jump(1, Const(0, 5), Const(1, 1)), Branch(0, 2, 3), Jump(1, Bin(api.FnSub, 0, 0, 1)), Ret(1)}
	for name, x := range map[string]struct {
		blocks  []api.Block
		in, out [][]int
	}{
		"a return":                      {[]api.Block{Ret(2)}, [][]int{{2}}, [][]int{{2}}},
		"a return without a register":   {[]api.Block{Ret(None)}, [][]int{{}}, [][]int{{}}},
		"what a return reads is set":    {[]api.Block{Ret(2, In(2))}, [][]int{{}}, [][]int{{2}}},
		"read ahead of being set":       {[]api.Block{Ret(2, Bin(api.FnAdd, 2, 2, 0))}, [][]int{{0, 2}}, [][]int{{2}}},
		"set ahead of being read":       {[]api.Block{Ret(1, Copy(2, 0), Copy(1, 2))}, [][]int{{0}}, [][]int{{1}}},
		"set twice":                     {[]api.Block{Ret(1, Const(1, 2), Const(1, 3))}, [][]int{{}}, [][]int{{1}}},
		"a store and an output":         {[]api.Block{Ret(None, Store(0, 1, 0, 4), Out(3))}, [][]int{{0, 1, 3}}, [][]int{{}}},
		"a load":                        {[]api.Block{Ret(0, Load(0, 1, 0, 4))}, [][]int{{1}}, [][]int{{0}}},
		"a call":                        {[]api.Block{Ret(0, Call(0, 7, 0, 4, 4))}, [][]int{{0, 4}}, [][]int{{0}}},
		"a call without a result":       {[]api.Block{Ret(0, Call(None, 7, 3))}, [][]int{{0, 3}}, [][]int{{0}}},
		"a branch":                      {[]api.Block{Branch(4, 1, 2), Ret(0), Ret(1)}, [][]int{{0, 1, 4}, {0}, {1}}, [][]int{{0, 1, 4}, {0}, {1}}},
		"the A of a jump":               {[]api.Block{{End: api.EndJump, A: 2, To: 1}, Ret(0)}, [][]int{{0}, {0}}, [][]int{{0}, {0}}},
		"a loop":                        {loop, [][]int{{}, {0, 1}, {0, 1}, {1}}, [][]int{{0, 1}, {0, 1}, {0, 1}, {1}}},
		"a loop without an end":         {[]api.Block{Jump(0, Out(3))}, [][]int{{3}}, [][]int{{3}}},
		"a loop that sets at its end":   {[]api.Block{Jump(0, Out(3), Const(3, 1))}, [][]int{{3}}, [][]int{{3}}},
		"a loop that sets at its start": {[]api.Block{Jump(0, Const(3, 1), Out(3))}, [][]int{{}}, [][]int{{}}},
		"read and led to":               {[]api.Block{Branch(1, 0, 1, In(1)), Ret(1)}, [][]int{{}, {1}}, [][]int{{1}, {1}}},
		"set on one of two ways":        {[]api.Block{Branch(0, 1, 2), Jump(2, Const(1, 1)), Ret(1)}, [][]int{{0, 1}, {}, {1}}, [][]int{{0, 1}, {1}, {1}}},
		"blocks that are not reached":   {[]api.Block{Ret(0), Jump(2, Const(2, 4)), Jump(0, Out(2))}, [][]int{{0}, {0}, {0, 2}}, [][]int{{0}, {0, 2}, {0}}},
		"a mark and a constant":         {[]api.Block{Ret(1, Mark(), Const(0, 1))}, [][]int{{1}}, [][]int{{1}}},
		"successors that are not there": {[]api.Block{Branch(1, 7, -1, Const(0, 1))}, [][]int{{1}}, [][]int{{1}}},
		"registers that are not there":  {[]api.Block{Jump(1, Out(5), Out(-2), Copy(9, -7), Out(math.MaxInt), Bin(1, math.MinInt, 3, 5)), Ret(5)}, [][]int{{3}, {}}, [][]int{{}, {}}},
		"ends that there are not":       {[]api.Block{{End: 0, A: 1}, {End: 4, A: 1}}, [][]int{{}, {}}, [][]int{{}, {}}},
		"operations that there are not": {[]api.Block{Ret(1, api.Ins{Op: 13, D: 1, A: 2, B: 3, Args: []int{4}}, api.Ins{Op: 0, D: 1, A: 2})}, [][]int{{1}}, [][]int{{1}}},
		"fields that are not used":      {[]api.Block{Ret(1, api.Ins{Op: api.IrOut, D: 1, A: 2, B: 3, Args: []int{4}})}, [][]int{{1, 2}}, [][]int{{1}}},
	} {
		in, out := flow.Live(api.Proc{Regs: 5, Blocks: x.blocks})
		if !same(lists(in), x.in) || !same(lists(out), x.out) {
			t.Errorf("%s: %v, %v", name, lists(in), lists(out))
		}
		for n := range x.blocks {
			if len(in[n]) != 5 || len(out[n]) != 5 {
				t.Errorf("%s: %d, %d registers", name, len(in[n]), len(out[n]))
			}
		}
	}
}

// Promise 16.2: how many registers there are.
func TestRegs(t *testing.T) {
	for _, regs := range []int{0, 1, -1, math.MinInt, math.MaxInt, 1 << 40} {
		if in, out := flow.Live(api.Proc{Regs: regs}); len(in) != 0 || len(out) != 0 {
			t.Errorf("no blocks, %d registers: %v, %v", regs, in, out)
		}
	}
	blocks := []api.Block{Jump(1, Out(0), Const(1, 1)), Ret(1, Out(-1))}
	for _, regs := range []int{0, -1, math.MinInt} {
		if in, out := flow.Live(api.Proc{Regs: regs, Blocks: blocks}); !reflect.DeepEqual(in, [][]bool{{}, {}}) || !reflect.DeepEqual(out, [][]bool{{}, {}}) {
			t.Errorf("%d registers: %v, %v", regs, in, out)
		}
	}
	if in, out := flow.Live(api.Proc{Regs: 1, Blocks: blocks}); !reflect.DeepEqual(in, [][]bool{{true}, {false}}) || !reflect.DeepEqual(out, [][]bool{{false}, {false}}) {
		t.Errorf("1 register: %v, %v", in, out)
	}
	flow.Live(api.Proc{Regs: math.MaxInt, Blocks: blocks}) // beyond what is promised, but it ends
	for range flow.Each(api.Proc{Regs: math.MaxInt, Blocks: blocks}, 0, nil) {
		break
	}
}

// strange makes of a procedure one that is not valid: some of its registers and successors do not exist.
func strange(d *drawn.Dice, p *api.Proc) {
	p.Regs -= d.Roll(4)
	for n := range p.Blocks {
		b := &p.Blocks[n]
		if d.Roll(3) == 0 {
			b.To = d.Roll(7) - 2
		}
		for k := range b.Ins {
			if d.Roll(8) == 0 {
				b.Ins[k].A = d.Roll(30) - 9
			}
		}
	}
}

// equations is which registers are live where blocks start: the least solution of what the definition says for each block by itself.
func equations(p api.Proc) []map[int]bool {
	in := make([]map[int]bool, len(p.Blocks))
	for again := true; again; {
		again = false
		for n, b := range p.Blocks {
			live := atEnd(p, in, n)
			for _, i := range slices.Backward(b.Ins) {
				delete(live, ir.Def(i))
				for _, r := range ir.Uses(i) {
					live[r] = true
				}
			}
			again = again || len(live) != len(in[n])
			in[n] = live
		}
	}
	return in
}

// atEnd is which registers are live ahead of the end of a block.
func atEnd(p api.Proc, in []map[int]bool, n int) map[int]bool {
	live, b := map[int]bool{}, p.Blocks[n]
	if b.End == api.EndBranch || b.End == api.EndRet {
		live[b.A] = true
	}
	for _, to := range ir.Outs(b) {
		if to >= 0 && to < len(in) {
			for r := range in[to] {
				live[r] = true
			}
		}
	}
	return live
}

// existing are those of some registers that exist, ascending.
func existing(p api.Proc, live map[int]bool) []int {
	var l []int
	for r := range p.Regs {
		if live[r] {
			l = append(l, r)
		}
	}
	return l
}

// behind is which registers are live behind an instruction: where a block would start that had what follows.
func behind(p api.Proc, n, k int) []bool {
	p.Blocks = slices.Clone(p.Blocks)
	b := p.Blocks[n]
	rest := b
	rest.Ins = b.Ins[k+1:]
	p.Blocks[n] = Jump(len(p.Blocks), b.Ins[:k+1]...)
	p.Blocks = append(p.Blocks, rest)
	in, _ := flow.Live(p)
	return in[len(p.Blocks)-1]
}

// Promises 16.2 and 16.3: drawn procedures, held against the equations, and Each against Live.
func TestDrawnLive(t *testing.T) {
	lives, all := 0, 0
	for n := range 600 {
		m := drawn.WildModule(n)
		if n%3 == 0 {
			m = drawn.TameModule(n)
		}
		dice := drawn.Dice(n)
		for _, p := range m.Procs {
			if n%2 == 0 {
				strange(&dice, &p)
			}
			in, out := flow.Live(p)
			want := equations(p)
			for k, b := range p.Blocks {
				if !slices.Equal(registers(in[k]), existing(p, want[k])) || !slices.Equal(registers(out[k]), existing(p, atEnd(p, want, k))) {
					t.Fatalf("%d registers, %s: %v, %v", p.Regs, ir.Text(p), lists(in), lists(out))
				}
				next := len(b.Ins)
				for at, row := range flow.Each(p, k, out[k]) {
					if next--; at != next || !slices.Equal(row, behind(p, k, at)) {
						t.Fatalf("%d registers, %s: block %d, %d: %v", p.Regs, ir.Text(p), k, at, row)
					}
				}
				if next != 0 {
					t.Fatalf("%d instructions are left", next)
				}
				lives, all = lives+len(registers(in[k])), all+len(in[k])
			}
		}
	}
	if lives*10 < all || lives*10 > all*9 {
		t.Errorf("%d of %d registers are live", lives, all)
	}
}

// Promise 16.3: what Each yields.
func TestEach(t *testing.T) {
	p := api.Proc{Regs: 4, Blocks: []api.Block{Jump(1), Ret(3, In(0), Bin(api.FnAdd, 1, 0, 2), Out(1), Copy(3, 0))}}
	want := [][]int{{0, 2}, {0, 1}, {0}, {3}}
	collect := func(n int, out []bool) [][]int {
		var l [][]int
		for k, row := range flow.Each(p, n, out) {
			if len(row) != 4 {
				t.Errorf("%d registers", len(row))
			}
			l = append([][]int{registers(row)}, l...)
			if k != 4-len(l) {
				t.Errorf("%d, not %d", k, 4-len(l))
			}
		}
		return l
	}
	if got := collect(1, []bool{false, false, false, true}); !same(got, want) {
		t.Errorf("%v", got)
	}
	if got := collect(1, []bool{false, true, true, true}); !same(got, [][]int{{0, 2}, {0, 1, 2}, {0, 1, 2}, {1, 2, 3}}) {
		t.Errorf("more at the end: %v", got)
	}
	if got := collect(1, []bool{false, false, false, true, true, true}); !same(got, want) {
		t.Errorf("more registers than there are: %v", got)
	}
	if got := collect(1, nil); !same(got, [][]int{{0, 2}, {0, 1}, {0}, {}}) {
		t.Errorf("nothing at the end: %v", got)
	}
	for _, n := range []int{0, 2, -1, math.MaxInt, math.MinInt} {
		if got := collect(n, []bool{true}); len(got) > 0 {
			t.Errorf("block %d: %v", n, got)
		}
	}
	p.Regs = math.MinInt
	for k, row := range flow.Each(p, 1, []bool{true}) {
		if len(row) > 0 {
			t.Errorf("no registers: %d, %v", k, row)
		}
	}
}

// Promise 16.3 and rule R3: what Each yields hangs neither on what is done to the arguments and rows meanwhile, nor on other iterations.
func TestEachApart(t *testing.T) {
	args := []int{1, 2}
	p := api.Proc{Regs: 4, Blocks: []api.Block{Ret(3, In(0), Call(3, 0, args...), Out(0))}}
	out := []bool{false, false, false, true}
	want := [][]int{{3}, {0, 3}, {0, 1, 2}}
	each := flow.Each(p, 0, out)
	p.Blocks[0].Ins[1], p.Blocks[0].Ins[0].D, args[0], out[3] = Mark(), 3, 3, false
	for round := range 3 {
		var got [][]int
		for _, row := range each {
			for _, inner := range each {
				clear(inner)
			}
			got = append(got, registers(row))
			for r := range row {
				row[r] = !row[r]
			}
			if round == 1 {
				break
			}
		}
		if round != 1 && !same(got, want) || round == 1 && !same(got, want[:1]) {
			t.Errorf("%v", got)
		}
	}
}

// Promises 16.1 to 16.3: as much as a procedure has at most.
func TestLargest(t *testing.T) {
	p := api.Proc{Regs: ir.MaxRegs}
	for n := range ir.MaxBlocks { // each block reads what the one ahead of it sets; the numbers are such that blocks lead back and forth
		b := Jump((n+2467)%ir.MaxBlocks, Out(2*n), Copy((2*n+2*2467)%ir.MaxRegs, 2*n+1), Const(2*n+1, 1), Out(2*n), Out(2*n))
		p.Blocks = append(p.Blocks, b)
	}
	in, out := flow.Live(p)
	for n := range p.Blocks {
		if len(registers(in[n])) != len(registers(out[n])) || !in[n][2*n] || !in[n][2*n+1] || !out[n][2*n+1] {
			t.Fatalf("block %d: %d, %d", n, len(registers(in[n])), len(registers(out[n])))
		}
	}
	if got := flow.Order(p); len(got) != ir.MaxBlocks || len(flow.Back(p)) != 1 {
		t.Errorf("%d blocks", len(got))
	}
}
