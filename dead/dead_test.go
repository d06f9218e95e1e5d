package dead_test

import (
	"math"
	"slices"
	"testing"

	"rushlight/api"
	"rushlight/dead"
	"rushlight/drawn"
	"rushlight/ir"
	"rushlight/procs"
	. "rushlight/sketch"
)

// proc is a procedure of these blocks, with registers from 0 to 9 and an object of 8 bytes.
func proc(l ...api.Block) api.Proc {
	return api.Proc{Name: "p", Params: 2, Regs: 10, Objects: Slots(8), Blocks: l}
}

// list is instructions.
func list(l ...api.Ins) []api.Ins { return l }

// same reports whether two lists of lists are the same, where nil and empty ones are.
func same(a, b [][]int) bool { return slices.EqualFunc(a, b, slices.Equal[[]int]) }

// The example of the chapter.
func TestExample(t *testing.T) {
	p := proc(Ret(0, Const(1, 2), Const(1, 3), Out(1)))
	if got := dead.Idle(p); !same(got, [][]int{{0}}) {
		t.Errorf("Idle: %v", got)
	}
	for _, got := range []api.Proc{dead.Drop(p), dead.Dead(p)} {
		if !procs.Equal(got, proc(Ret(0, Const(1, 3), Out(1)))) {
			t.Errorf("%s", ir.Text(got))
		}
	}
}

// Promise 18.1: dead instructions.
func TestIdle(t *testing.T) {
	for name, x := range map[string]struct {
		blocks []api.Block
		want   [][]int
	}{
		"nothing":                       {[]api.Block{Ret(0)}, [][]int{{}}},
		"all that only sets":            {[]api.Block{Ret(0, Const(2, 1), Copy(3, 1), Bin(1, 4, 1, 1), Un(17, 5, 1), Load(6, 1, 0, 4), Frame(7, 0, 0), Global(8, 0, 0), Load(9, 1, 0, 1))}, [][]int{{0, 1, 2, 3, 4, 5, 6, 7}}},
		"all that does more":            {[]api.Block{Ret(0, In(2), Call(3, 1, 0), Call(None, 1, 0), Out(1), Store(1, 0, 0, 4), Mark())}, [][]int{{}}},
		"read by each kind":             {[]api.Block{Ret(0, Const(2, 1), Out(2), Const(3, 1), Store(3, 1, 0, 4), Const(4, 1), Store(1, 4, 0, 4), Const(5, 1), Call(None, 1, 5))}, [][]int{{}}},
		"set again":                     {[]api.Block{Ret(2, Const(2, 1), Const(3, 1), Const(2, 2))}, [][]int{{0, 1}}},
		"set again by a call":           {[]api.Block{Ret(2, Const(2, 1), Call(2, 1, 0))}, [][]int{{0}}},
		"set again from itself":         {[]api.Block{Ret(2, Const(2, 1), Un(17, 2, 2))}, [][]int{{}}},
		"read by what is dead":          {[]api.Block{Ret(0, Const(2, 1), Copy(3, 2), Copy(4, 3))}, [][]int{{2}}},
		"read by the end":               {[]api.Block{Branch(2, 0, 1, Const(2, 1)), Ret(3, Const(2, 1), Const(3, 1))}, [][]int{{}, {0}}},
		"read in one successor":         {[]api.Block{Branch(0, 1, 2, Const(2, 1), Const(3, 1)), Ret(2), Ret(0)}, [][]int{{1}, {}, {}}},
		"read around a loop":            {[]api.Block{Jump(1, Const(2, 0)), Branch(0, 1, 2, Un(17, 2, 2)), Ret(0)}, [][]int{{}, {}, {}}},
		"read ahead of a loop's end":    {[]api.Block{Jump(1, Const(2, 0)), Branch(0, 1, 2, Out(2), Const(2, 1), Const(3, 2)), Ret(0)}, [][]int{{}, {2}, {}}},
		"parameters":                    {[]api.Block{Ret(2, Const(0, 1), Copy(2, 1), Const(1, 1))}, [][]int{{0, 2}}},
		"blocks that are not reached":   {[]api.Block{Ret(0), Jump(0, Const(2, 1), Const(0, 1))}, [][]int{{}, {0}}},
		"Log":                           {[]api.Block{Ret(0, Log(Const(2, 1)), Log(Copy(0, 1)), Log(In(3)))}, [][]int{{0}}},
		"a copy of itself":              {[]api.Block{Ret(2, Copy(2, 2), Copy(3, 3))}, [][]int{{1}}},
		"a return without a register":   {[]api.Block{Ret(None, Const(2, 1))}, [][]int{{0}}},
		"a register that a jump names":  {[]api.Block{{Ins: list(Const(2, 1)), End: api.EndJump, A: 2, To: 1}, Ret(0)}, [][]int{{0}, {}}},
		"a loop that never ends":        {[]api.Block{Jump(0, Const(2, 1))}, [][]int{{0}}},
		"a load whose address is lost":  {[]api.Block{Ret(0, Load(2, 2, 0, 4))}, [][]int{{0}}},
		"a store that another makes so": {[]api.Block{Ret(0, Const(2, 1), Store(1, 2, 0, 4), Store(1, 0, 0, 4))}, [][]int{{}}},
	} {
		if got := dead.Idle(proc(x.blocks...)); !same(got, x.want) {
			t.Errorf("%s: %v", name, got)
		}
	}
	if got := dead.Idle(api.Proc{Void: true}); len(got) != 0 {
		t.Errorf("no blocks: %v", got)
	}
}

// Promise 18.1: dead stores.
func TestStores(t *testing.T) {
	s := Store(0, 1, 4, 4)
	for name, x := range map[string]struct {
		l    []api.Ins
		want []int
	}{
		"one":                           {list(s), nil},
		"two":                           {list(s, s), []int{0}},
		"of another register":           {list(s, Store(0, 2, 4, 4)), []int{0}},
		"three":                         {list(s, s, s), []int{0, 1}},
		"of bytes":                      {list(Store(0, 1, 4, 1), Store(0, 2, 4, 1)), []int{0}},
		"another Size":                  {list(s, Store(0, 1, 4, 1), Store(0, 1, 5, 1)), nil},
		"a byte, then a word":           {list(Store(0, 1, 4, 1), s), nil},
		"another Off":                   {list(s, Store(0, 1, 0, 4)), nil},
		"another A":                     {list(s, Store(2, 1, 4, 4)), nil},
		"others between":                {list(s, Store(2, 1, 4, 4), Store(0, 1, 5, 1), Store(0, 1, 0, 4), s), []int{0}},
		"pairs in each other":           {list(s, Store(2, 1, 0, 4), s, Store(2, 2, 0, 4)), []int{0, 1}},
		"pairs, the later one first":    {list(Store(2, 1, 0, 4), s, s, Store(2, 2, 0, 4)), []int{0, 1}},
		"a load between":                {list(s, Load(3, 2, 0, 1), s), nil},
		"a load of the same address":    {list(s, Load(3, 0, 4, 4), s), nil},
		"a call between":                {list(s, Call(None, 1, 2), s), nil},
		"a mark between":                {list(s, Mark(), s), nil},
		"a load ahead and behind":       {list(Load(3, 0, 4, 4), s, s, Load(3, 0, 4, 4)), []int{1}},
		"a load, then two":              {list(s, Load(3, 0, 4, 4), s, s), []int{2}},
		"inputs and outputs between":    {list(s, Out(0), In(1), Const(2, 1), Copy(3, 0), Bin(1, 4, 0, 0), Un(17, 5, 0), Frame(6, 0, 0), Global(7, 0, 0), s), []int{0}},
		"A is set between":              {list(s, In(0), s), nil},
		"A is set by a copy of itself":  {list(s, Copy(0, 0), s), nil},
		"A is set to a constant":        {list(s, Const(0, 1), s), nil},
		"A is set ahead and behind":     {list(In(0), s, s, In(0), s), []int{1}},
		"B is set between":              {list(s, In(1), s), []int{0}},
		"A is B":                        {list(Store(0, 0, 4, 4), Store(0, 0, 4, 4)), []int{0}},
		"the first has Log":             {list(Log(s), s), nil},
		"the second has Log":            {list(s, Log(s)), []int{0}},
		"the middle one has Log":        {list(s, Log(s), s), []int{0}},
		"a load ahead of both":          {list(s, Load(3, 0, 4, 4), Log(s), s), nil},
		"what follows another register": {list(Store(2, 1, 4, 4), In(0), Store(2, 1, 4, 4)), []int{0}},
	} {
		p := proc(Jump(1, s), Jump(0, x.l...), Jump(1, s))
		if got := dead.Stores(p); !same(got, [][]int{nil, x.want, nil}) {
			t.Errorf("%s: %v", name, got)
		}
	}
}

// Promise 18.2: Drop goes once, Dead until the end.
func TestDrop(t *testing.T) {
	for name, x := range map[string]struct{ was, dropped, dead []api.Ins }{
		"a chain":                    {list(Const(2, 1), Copy(3, 2), Copy(4, 3), Copy(0, 1)), list(Const(2, 1), Copy(3, 2), Copy(0, 1)), list(Copy(0, 1))},
		"a store and what it stores": {list(Const(2, 1), Store(1, 2, 0, 4), Store(1, 0, 0, 4)), list(Const(2, 1), Store(1, 0, 0, 4)), list(Store(1, 0, 0, 4))},
		"a load between stores":      {list(Store(1, 0, 0, 4), Load(2, 1, 0, 4), Store(1, 1, 0, 4)), list(Store(1, 0, 0, 4), Store(1, 1, 0, 4)), list(Store(1, 1, 0, 4))},
		"both ways":                  {list(Const(2, 1), Store(1, 2, 0, 4), Load(3, 1, 0, 4), Copy(4, 3), Store(1, 0, 0, 4)), list(Const(2, 1), Store(1, 2, 0, 4), Load(3, 1, 0, 4), Store(1, 0, 0, 4)), list(Store(1, 0, 0, 4))},
		"what is read":               {list(Const(2, 1), Call(3, 1, 2), Out(3), In(4)), list(Const(2, 1), Call(3, 1, 2), Out(3), In(4)), list(Const(2, 1), Call(3, 1, 2), Out(3), In(4))},
		"Log stays":                  {list(Log(In(2)), Log(Store(1, 2, 0, 4)), Store(1, 0, 0, 4)), list(Log(In(2)), Log(Store(1, 2, 0, 4)), Store(1, 0, 0, 4)), list(Log(In(2)), Log(Store(1, 2, 0, 4)), Store(1, 0, 0, 4))},
	} {
		p := proc(Jump(1, Out(1)), Branch(0, 0, 2, x.was...), Ret(1))
		if got := dead.Drop(p); !procs.Equal(got, proc(Jump(1, Out(1)), Branch(0, 0, 2, x.dropped...), Ret(1))) {
			t.Errorf("%s: Drop: %s", name, ir.Text(got))
		}
		if got := dead.Dead(p); !procs.Equal(got, proc(Jump(1, Out(1)), Branch(0, 0, 2, x.dead...), Ret(1))) {
			t.Errorf("%s: Dead: %s", name, ir.Text(got))
		}
	}
	// from block to block; what reads itself around a loop stays
	p := proc(Jump(1, Const(2, 1), Const(5, 0)), Branch(0, 2, 3, Copy(3, 2)), Jump(1, Copy(4, 3), Un(api.FnNeg, 5, 5)), Ret(0, Copy(6, 4)), Jump(5, Const(2, 1)), Jump(4, Copy(3, 2)))
	want := proc(Jump(1, Const(5, 0)), Branch(0, 2, 3), Jump(1, Un(api.FnNeg, 5, 5)), Ret(0), Jump(5), Jump(4))
	if got := dead.Dead(p); !procs.Equal(got, want) {
		t.Errorf("%s", ir.Text(got))
	}
}

// reads reports whether a register is read from an instruction of a block on, along some path, ahead of being set.
func reads(p api.Proc, n, k, r int, seen map[[2]int]bool) bool {
	if seen[[2]int{n, k}] {
		return false
	}
	seen[[2]int{n, k}] = true
	b := p.Blocks[n]
	if k < len(b.Ins) {
		if slices.Contains(ir.Uses(b.Ins[k]), r) {
			return true
		}
		return ir.Def(b.Ins[k]) != r && reads(p, n, k+1, r, seen)
	}
	if b.End != api.EndJump && b.A == r {
		return true
	}
	return slices.ContainsFunc(ir.Outs(b), func(to int) bool { return reads(p, to, 0, r, seen) })
}

// followed reports whether a store is followed by another one that makes it dead.
func followed(l []api.Ins, k int) bool {
	for _, i := range l[k+1:] {
		switch {
		case i.Op == api.IrStore && i.A == l[k].A && i.Off == l[k].Off && i.Size == l[k].Size:
			return true
		case i.Op == api.IrLoad || i.Op == api.IrCall || i.Op == api.IrMark || ir.Def(i) == l[k].A:
			return false
		}
	}
	return false
}

// model is the dead instructions and stores of a procedure, as the chapter words them.
func model(p api.Proc) (idle, stores [][]int) {
	idle, stores = make([][]int, len(p.Blocks)), make([][]int, len(p.Blocks))
	for n, b := range p.Blocks {
		for k, i := range b.Ins {
			if ir.Pure(i) && !reads(p, n, k+1, i.D, map[[2]int]bool{}) {
				idle[n] = append(idle[n], k)
			}
			if i.Op == api.IrStore && !i.Log && followed(b.Ins, k) {
				stores[n] = append(stores[n], k)
			}
		}
	}
	return idle, stores
}

// without is a procedure without what the model says is dead.
func without(p api.Proc) api.Proc {
	idle, stores := model(p)
	q := procs.Clone(p)
	for n, b := range p.Blocks {
		q.Blocks[n].Ins = nil
		for k, i := range b.Ins {
			if !slices.Contains(idle[n], k) && !slices.Contains(stores[n], k) {
				q.Blocks[n].Ins = append(q.Blocks[n].Ins, i)
			}
		}
	}
	return q
}

// Promises 18.1 and 18.2: drawn procedures, held against the model.
func TestDrawnDead(t *testing.T) {
	most, idles, stores := 0, 0, 0
	for n := range 4000 {
		m := []func(n int) api.Module{drawn.WildModule, drawn.TameModule}[n%2](n)
		if n%40 == 0 {
			m = drawn.Lowered(n)
		}
		for _, p := range m.Procs {
			wantIdle, wantStores := model(p)
			if got := dead.Idle(p); !same(got, wantIdle) {
				t.Fatalf("%sIdle: %v, not %v", ir.Text(p), got, wantIdle)
			}
			if got := dead.Stores(p); !same(got, wantStores) {
				t.Fatalf("%sStores: %v, not %v", ir.Text(p), got, wantStores)
			}
			q := without(p)
			if got := dead.Drop(p); !procs.Equal(got, q) {
				t.Fatalf("%sDrop:\n%snot\n%s", ir.Text(p), ir.Text(got), ir.Text(q))
			}
			rounds := 0
			for next := without(q); !procs.Equal(q, next); next = without(q) {
				q = next
				rounds++
			}
			if got := dead.Dead(p); !procs.Equal(got, q) {
				t.Fatalf("%sDead:\n%snot\n%s", ir.Text(p), ir.Text(got), ir.Text(q))
			}
			most, idles, stores = max(most, rounds), idles+len(slices.Concat(wantIdle...)), stores+len(slices.Concat(wantStores...))
		}
	}
	if most < 3 || idles < 10000 || stores < 300 {
		t.Errorf("at most %d rounds, %d idle instructions, %d idle stores", most, idles, stores)
	}
}

// Promise 18.3: equivalence, as far as runs of drawn modules and programs show.
func TestEquivalent(t *testing.T) {
	for n := range 6000 {
		m := drawn.TameModule(n)
		if n%3 == 0 {
			m = drawn.WildModule(n)
		}
		for _, change := range []func(p api.Proc) api.Proc{dead.Drop, dead.Dead} {
			if s := drawn.Unequal(m, 2000, change); s != "" {
				t.Fatal(s)
			}
		}
	}
	for n := range 500 {
		if s := drawn.Unequal(drawn.Lowered(n), 100000, dead.Dead); s != "" {
			t.Fatal(s)
		}
	}
}

// Promise 18.2: as much as a procedure has at most: chains within a block, from block to block, and around a loop.
func TestLargest(t *testing.T) {
	p := api.Proc{Regs: ir.MaxRegs, Blocks: []api.Block{Ret(0)}}
	for n := range ir.MaxIns {
		r := 1 + n%(ir.MaxRegs-1)
		p.Blocks[0].Ins = append(p.Blocks[0].Ins, Bin(api.FnAdd, r, r-1, r-1))
	}
	if q := dead.Dead(p); len(q.Blocks[0].Ins) > 0 {
		t.Errorf("%d instructions of a block are left", len(q.Blocks[0].Ins))
	}
	for _, step := range []int{1, ir.MaxBlocks - 1} { // in the order of the blocks, and in the other one
		p.Blocks = nil
		for n := range ir.MaxBlocks {
			r := 1 + (n*step)%ir.MaxBlocks
			p.Blocks = append(p.Blocks, Jump((n+step)%ir.MaxBlocks, Copy(r, r-1)))
		}
		p.Blocks[ir.MaxBlocks-step] = Ret(0)
		if q := dead.Dead(p); ir.Size(q) != ir.MaxBlocks {
			t.Errorf("%d instructions of blocks are left", ir.Size(q)-ir.MaxBlocks)
		}
	}
	const shifted = 500
	p = api.Proc{Regs: shifted, Blocks: []api.Block{Jump(1), Branch(0, 1, 2), Ret(0)}}
	for n := 1; n < shifted-1; n++ {
		p.Blocks[1].Ins = append(p.Blocks[1].Ins, Copy(n, n+1))
	}
	if q := dead.Dead(p); ir.Size(q) != 3 {
		t.Errorf("%d instructions of a loop are left", ir.Size(q)-3)
	}
}

// Rule R1: procedures that are not valid.
func TestInvalid(t *testing.T) {
	strange := []api.Ins{{Op: 99, D: -5, A: 1 << 40}, {Op: api.IrBin, D: 1 << 50, A: -2, B: 77}, {Op: api.IrConst, D: -7}, {Op: api.IrConst, D: 2}, {Op: api.IrStore, A: -3, Size: 9}, {Op: api.IrStore, A: -3, Size: 9}, {Op: api.IrCall, D: -1, Args: []int{-1, 99}}}
	for n, p := range []api.Proc{
		{}, {Regs: -1}, {Regs: math.MaxInt}, {Regs: math.MinInt, Blocks: make([]api.Block, 3)}, {Regs: math.MaxInt, Blocks: make([]api.Block, 3)}, {Regs: 1 << 40, Blocks: []api.Block{{Ins: strange}}}, {Regs: 10, Blocks: make([]api.Block, 5000)},
		{Regs: 2, Blocks: []api.Block{{Ins: strange, End: api.EndBranch, A: 2, To: 9, Else: -9}, {Ins: strange, End: api.EndRet, A: 99}, {End: 7}}},
	} {
		if len(dead.Idle(p)) != len(p.Blocks) || len(dead.Stores(p)) != len(p.Blocks) || len(dead.Drop(p).Blocks) != len(p.Blocks) || len(dead.Dead(p).Blocks) != len(p.Blocks) {
			t.Errorf("%d: %v", n, p)
		}
	}
}

// Rule R3: nothing that is handed in is changed or shared.
func TestSharing(t *testing.T) {
	make := func() api.Proc {
		return proc(Branch(2, 1, 1, Const(2, 3), Call(5, 1, 4, 3), Store(2, 4, 0, 4), Store(2, 5, 0, 4)), Ret(5, Const(4, 1), Call(None, 2, 4, 3), Const(2, 2)))
	}
	p := make()
	for range 2 {
		idle, stores := dead.Idle(p), dead.Stores(p)
		if !same(idle, [][]int{{}, {2}}) || !same(stores, [][]int{{2}, {}}) {
			t.Errorf("%v, %v", idle, stores)
		}
		idle[1][0], stores[0][0] = 7, 7
		for _, change := range []func(p api.Proc) api.Proc{dead.Drop, dead.Dead} {
			q := change(p)
			for n := range q.Blocks {
				for k := range q.Blocks[n].Ins {
					clear(q.Blocks[n].Ins[k].Args)
				}
				clear(q.Blocks[n].Ins)
			}
			clear(q.Blocks)
			clear(q.Objects)
			if !procs.Equal(p, make()) {
				t.Fatalf("changed: %v", p)
			}
		}
	}
}
