package fold_test

import (
	"maps"
	"math"
	"slices"
	"testing"

	"rushlight/api"
	"rushlight/drawn"
	"rushlight/flow"
	"rushlight/fold"
	"rushlight/ir"
	"rushlight/irrun"
	"rushlight/procs"
	. "rushlight/sketch"
)

// proc is a procedure of these blocks, with registers from 0 to 9 and two objects of 8 bytes.
func proc(l ...api.Block) api.Proc {
	return api.Proc{Name: "p", Params: 2, Regs: 10, Objects: Slots(8, 8), Blocks: l}
}

// The example of the chapter.
func TestExample(t *testing.T) {
	p := proc(Ret(0, Const(1, 2), Const(2, 3), Bin(api.FnAdd, 3, 1, 2), Out(3)))
	want := proc(Ret(0, Const(1, 2), Const(2, 3), Const(3, 5), Out(3)))
	for name, q := range map[string]api.Proc{"Known": fold.Known(p), "Values": fold.Values(p), "Fold": fold.Fold(p)} {
		if !procs.Equal(q, want) {
			t.Errorf("%s: %s", name, ir.Text(q))
		}
	}
}

// Promise 17.1: hand-made procedures. In each, block 1 begins with these constants.
func TestConsts(t *testing.T) {
	type known = map[int]uint32
	rest := []api.Block{Jump(3, Const(3, 6)), Ret(0)}
	fork := func(first []api.Ins, ways ...[]api.Ins) []api.Block {
		return []api.Block{Branch(0, 2, 3, first...), Ret(0), Jump(1, ways[0]...), Jump(1, ways[1]...)}
	}
	list := func(l ...api.Ins) []api.Ins { return l }
	for name, x := range map[string]struct {
		blocks []api.Block
		want   known
	}{
		"nothing":                          {[]api.Block{Jump(1), Ret(0)}, known{}},
		"constants":                        {[]api.Block{Jump(1, Const(1, 7), Const(2, 0), Const(1, 8)), Ret(0)}, known{1: 8, 2: 0}},
		"copies":                           {[]api.Block{Jump(1, Const(2, 7), Copy(3, 2), Copy(2, 0), Copy(4, 3)), Ret(0)}, known{3: 7, 4: 7}},
		"functions":                        {[]api.Block{Jump(1, Const(2, 7), Const(3, 3), Bin(api.FnSub, 4, 3, 2), Un(api.FnNeg, 5, 2), Un(api.FnZero, 6, 2), Un(api.FnNot, 2, 2)), Ret(0)}, known{2: ^uint32(7), 3: 3, 4: 1<<32 - 4, 5: 1<<32 - 7, 6: 0}},
		"division by 0":                    {[]api.Block{Jump(1, Const(2, 7), Const(3, 0), Bin(api.FnDiv, 4, 2, 3), Bin(api.FnRem, 5, 2, 3)), Ret(0)}, known{2: 7, 3: 0, 4: 1<<32 - 1, 5: 7}},
		"an operand that is not known":     {[]api.Block{Jump(1, Const(2, 0), Bin(api.FnMul, 3, 2, 0), Bin(api.FnMul, 4, 0, 2), Un(api.FnNeg, 5, 0)), Ret(0)}, known{2: 0}},
		"the same register":                {[]api.Block{Jump(1, Bin(api.FnSub, 3, 0, 0), Bin(api.FnXor, 4, 0, 0)), Ret(0)}, known{}},
		"all that sets otherwise":          {[]api.Block{Jump(1, Const(1, 1), Const(2, 2), Const(3, 3), Const(4, 4), Const(5, 5), In(1), Frame(2, 0, 0), Global(3, 0, 0), Call(4, 0, 6), Load(5, 2, 0, 4), Const(6, 6), Call(None, 1, 6)), Ret(0)}, known{6: 6}},
		"all that sets nothing":            {[]api.Block{Jump(1, Const(1, 1), Out(1), Store(1, 1, 0, 4), Mark()), Ret(0)}, known{1: 1}},
		"Log":                              {[]api.Block{Jump(1, Log(Const(1, 1)), Log(Copy(2, 1))), Ret(0)}, known{1: 1, 2: 1}},
		"the same on both ways":            {fork(list(Const(5, 5)), list(Const(1, 1), Const(2, 2), Const(3, 3)), list(Const(3, 3), Const(1, 1), Const(2, 4))), known{1: 1, 3: 3, 5: 5}},
		"set on one way":                   {fork(list(Const(5, 5), Const(6, 6)), list(Const(5, 6)), list(Const(6, 6), Const(7, 7))), known{6: 6}},
		"the same, reckoned":               {fork(nil, list(Const(1, 2), Const(2, 3), Bin(api.FnAdd, 1, 1, 2)), list(Const(1, 5))), known{1: 5}},
		"operands that differ":             {fork(nil, list(Const(1, 2), Const(2, 3)), list(Const(1, 3), Const(2, 2))), known{}},
		"a loop around":                    {[]api.Block{Jump(1, Const(1, 1), Const(2, 2), Const(3, 3)), Branch(0, 1, 2, Copy(4, 1), Const(2, 5), Copy(1, 4)), Ret(0)}, known{1: 1, 3: 3}},
		"a loop that counts":               {[]api.Block{Jump(1, Const(1, 1), Const(2, 0)), Branch(0, 1, 2, Bin(api.FnAdd, 2, 2, 1)), Ret(0)}, known{1: 1}},
		"a loop that counts nothing":       {[]api.Block{Jump(1, Const(1, 0), Const(2, 0)), Branch(0, 1, 2, Bin(api.FnAdd, 2, 2, 1)), Ret(0)}, known{1: 0, 2: 0}},
		"a loop of two":                    {[]api.Block{Jump(1, Const(1, 1), Const(2, 2)), Branch(0, 2, 3), Jump(1, Copy(3, 1), Copy(1, 3), Const(2, 3)), Ret(0)}, known{1: 1}},
		"a shift around a loop":            {[]api.Block{Jump(1, Const(2, 0), Const(3, 0), Const(4, 0), Const(5, 0)), Branch(0, 1, 2, Copy(2, 3), Copy(3, 4), Copy(4, 0)), Ret(0)}, known{5: 0}},
		"a loop around that swaps":         {[]api.Block{Jump(1, Const(2, 4), Const(3, 4)), Branch(0, 1, 2, Copy(4, 2), Copy(2, 3), Copy(3, 4)), Ret(0)}, known{2: 4, 3: 4}},
		"a loop around that swaps others":  {[]api.Block{Jump(1, Const(2, 4), Const(3, 5)), Branch(0, 1, 2, Copy(4, 2), Copy(2, 3), Copy(3, 4)), Ret(0)}, known{}},
		"a branch that is known":           {[]api.Block{Branch(1, 1, 2, Const(1, 1), Const(2, 2)), Ret(0), Jump(1, Const(2, 3))}, known{1: 1}},
		"not reached":                      {append([]api.Block{Ret(0, Const(1, 1)), Jump(2, Const(2, 2))}, rest...), known{}},
		"led to from what is not reached":  {append([]api.Block{Jump(1, Const(1, 1)), Ret(0)}, Jump(1, Const(1, 2)), Jump(1)), known{1: 1}},
		"both ways to it":                  {[]api.Block{Branch(0, 1, 1, Const(1, 1)), Ret(0)}, known{1: 1}},
		"an operand of a function of one":  {[]api.Block{Jump(1, Un(api.FnZero, 3, 2), Const(2, 0), Un(api.FnZero, 4, 2)), Ret(0)}, known{2: 0, 4: 1}},
		"back to the first block":          {[]api.Block{Jump(1, Bin(api.FnAdd, 3, 2, 2), Const(2, 2)), Jump(0)}, known{2: 2}},
		"as much as a word holds":          {[]api.Block{Jump(1, Const(1, 1<<32-1), Const(2, 1<<31), Bin(api.FnMul, 3, 1, 2), Bin(api.FnShr, 4, 2, 1)), Ret(0)}, known{1: 1<<32 - 1, 2: 1 << 31, 3: 1 << 31, 4: 1<<32 - 1}},
		"parameters and the first numbers": {[]api.Block{Jump(1, Copy(3, 0), Copy(4, 9)), Ret(0)}, known{}},
	} {
		got := fold.Consts(proc(x.blocks...))
		if len(got) != len(x.blocks) || len(got[0]) > 0 || !maps.Equal(got[1], x.want) {
			t.Errorf("%s: %v", name, got)
		}
	}
	if got := fold.Consts(proc(Jump(0, Const(1, 1)))); len(got) != 1 || len(got[0]) > 0 {
		t.Errorf("a loop of block 0: %v", got)
	}
	if got := fold.Consts(api.Proc{Void: true, Blocks: []api.Block{Jump(1), Ret(None)}}); len(got) != 2 || len(got[0])+len(got[1]) > 0 {
		t.Errorf("no registers: %v", got)
	}
}

// Promise 17.1: no block has constants where there are too many blocks and registers; what is known within blocks stays known.
func TestConstsLimit(t *testing.T) {
	for _, x := range []struct {
		blocks, regs int
		known        bool
	}{{250, 8000, true}, {251, 8000, false}, {4000, 500, true}, {4000, 501, false}, {1999, 1000, true}, {2000, 1000, true}, {2001, 1000, false}} {
		p := api.Proc{Regs: x.regs}
		for n := range x.blocks - 1 {
			p.Blocks = append(p.Blocks, Jump(n+1, Const(n%x.regs, uint32(n)), Copy(x.regs-1, n%x.regs), Copy(x.regs-2, 0)))
		}
		p.Blocks = append(p.Blocks, Ret(0))
		got, last, q := fold.Consts(p), x.blocks-1, fold.Known(p)
		for n, c := range got {
			if !x.known && len(c) > 0 || x.known && (n > 0) != (len(c) > 0) || len(got) != x.blocks {
				t.Fatalf("%d blocks, %d registers: block %d has %d", x.blocks, x.regs, n, len(c))
			}
		}
		if x.known && (got[last][0] != uint32((last-1)/x.regs*x.regs) || got[last][x.regs-1] != uint32(last-1)) {
			t.Errorf("%d blocks, %d registers: %d, %d", x.blocks, x.regs, got[last][0], got[last][x.regs-1])
		}
		if l := q.Blocks[1].Ins; l[1].Op != api.IrConst || l[1].Num != 1 || (l[2].Op == api.IrConst) != x.known {
			t.Errorf("%d blocks, %d registers: %v", x.blocks, x.regs, l)
		}
	}
}

// after makes constants ahead of an instruction those behind it, as the chapter words it.
func after(c map[int]uint32, i api.Ins) {
	a, isA := c[i.A]
	b, isB := c[i.B]
	delete(c, ir.Def(i))
	switch {
	case i.Op == api.IrConst:
		c[i.D] = i.Num
	case i.Op == api.IrCopy && isA:
		c[i.D] = a
	case i.Op == api.IrUn && isA, i.Op == api.IrBin && isA && isB:
		c[i.D] = irrun.Fn(i.Fn, a, b)
	}
}

// solution is the greatest solution, found by asking all blocks for their predecessors again and again. Blocks about which everything is assumed have nil.
func solution(p api.Proc) []map[int]uint32 {
	in, reach, preds := make([]map[int]uint32, len(p.Blocks)), flow.Reach(p), flow.Preds(p)
	in[0] = map[int]uint32{}
	for again := true; again; {
		again = false
		for n := 1; n < len(p.Blocks); n++ {
			var all map[int]uint32
			for _, k := range preds[n] {
				if !reach[k] || in[k] == nil {
					continue
				}
				out := maps.Clone(in[k])
				for _, i := range p.Blocks[k].Ins {
					after(out, i)
				}
				if all == nil {
					all = out
				}
				maps.DeleteFunc(all, func(r int, v uint32) bool { o, is := out[r]; return !is || o != v })
			}
			if (all == nil) != (in[n] == nil) || !maps.Equal(all, in[n]) {
				in[n], again = all, true
			}
		}
	}
	return in
}

// known is what Known makes of a procedure, as the chapter words it.
func known(p api.Proc) api.Proc {
	p = procs.Clone(p)
	for n, c := range solution(p) {
		if c == nil {
			c = map[int]uint32{}
		}
		b := &p.Blocks[n]
		for k, i := range b.Ins {
			after(c, i)
			if v, is := c[i.D]; is && (i.Op == api.IrBin || i.Op == api.IrUn || i.Op == api.IrCopy) {
				b.Ins[k] = Const(i.D, v)
			}
		}
		if v, is := c[b.A]; is && b.End == api.EndBranch && v == 0 {
			*b = Jump(b.Else, b.Ins...)
		} else if is && b.End == api.EndBranch {
			*b = Jump(b.To, b.Ins...)
		}
	}
	return p
}

// Promises 17.1 and 17.2: drawn procedures, held against the model.
func TestDrawnKnown(t *testing.T) {
	constants, changes := 0, 0
	for n := range 4000 {
		m := drawn.WildModule(n)
		if n%2 == 0 {
			m = drawn.TameModule(n)
		}
		for _, p := range m.Procs {
			for k, want := range solution(p) {
				if got := fold.Consts(p)[k]; !maps.Equal(got, want) {
					t.Fatalf("%sblock %d: %v, not %v", ir.Text(p), k, got, want)
				}
				constants += len(want)
			}
			got, want := fold.Known(p), known(p)
			if !procs.Equal(got, want) {
				t.Fatalf("%sbecame\n%snot\n%s", ir.Text(p), ir.Text(got), ir.Text(want))
			}
			if !procs.Equal(p, want) {
				changes++
			}
		}
	}
	if constants < 5000 || changes < 1000 {
		t.Errorf("%d constants, %d changed procedures", constants, changes)
	}
}

// Promise 17.2: what becomes of instructions and branches.
func TestKnown(t *testing.T) {
	p := proc(
		Branch(3, 1, 2, Log(Const(2, 0)), Log(Copy(3, 2)), Log(Un(api.FnZero, 4, 3)), Bin(api.FnAdd, 5, 4, 4), Bin(api.FnAdd, 6, 4, 0), Copy(7, 0), Load(8, 4, 4, 4)),
		Ret(0, Out(4)),
		Branch(4, 2, 3, Store(4, 5, 0, 4), Call(2, 0, 4, 5), Copy(9, 2), Out(5)),
		Branch(0, 1, 0, Const(0, 0), Copy(3, 5), Un(api.FnNot, 3, 0), In(0)),
		Branch(1, 3, 1, Const(1, 3), Copy(2, 1), Copy(3, 4)),
	)
	want := proc(
		Jump(2, Log(Const(2, 0)), Const(3, 0), Const(4, 1), Const(5, 2), Bin(api.FnAdd, 6, 4, 0), Copy(7, 0), Load(8, 4, 4, 4)),
		Ret(0, Out(4)),
		Jump(2, Store(4, 5, 0, 4), Call(2, 0, 4, 5), Copy(9, 2), Out(5)),
		Branch(0, 1, 0, Const(0, 0), Const(3, 2), Const(3, 1<<32-1), In(0)),
		Jump(3, Const(1, 3), Const(2, 3), Copy(3, 4)), // not reached, but known within
	)
	if got := fold.Known(p); !procs.Equal(got, want) {
		t.Errorf("%s", ir.Text(got))
	}
	for _, end := range []api.Block{Ret(1, Const(1, 1)), Jump(0, Const(1, 1)), Branch(0, 0, 0, Const(1, 1))} {
		if got := fold.Known(proc(end)); !procs.Equal(got, proc(end)) {
			t.Errorf("%s", ir.Text(got))
		}
	}
	if got := fold.Known(proc(Branch(1, 0, 0, Const(1, 1<<31)))); !procs.Equal(got, proc(Jump(0, Const(1, 1<<31)))) {
		t.Errorf("%s", ir.Text(got))
	}
}

// Rule R1: procedures that are not valid.
func TestInvalid(t *testing.T) {
	strange := []api.Ins{{Op: 99, D: -5, A: 1 << 40, B: -9}, {Op: api.IrBin, D: 1 << 50, A: -2, B: 77, Fn: 99}, {Op: api.IrFrame, D: 1, Obj: 5}, {Op: api.IrFrame, D: 1, Obj: -1},
		{Op: api.IrLoad, A: 1, D: 3, Size: -7, Off: math.MaxInt}, {Op: api.IrStore, A: 1, B: 4, Size: math.MaxInt, Off: math.MinInt}, {Op: api.IrGlobal, D: 3, Obj: math.MaxInt}, {Op: api.IrGlobal, D: 4, Obj: math.MinInt}, {Op: api.IrLoad, A: 3, Size: 4}, {Op: api.IrStore, A: 4, Size: 4}, {Op: api.IrCopy}, {Op: api.IrConst, D: 2}, {Op: api.IrCall, Args: []int{-1, -2, 99}}}
	for n, p := range []api.Proc{
		{}, {Regs: -1}, {Regs: math.MaxInt}, {Regs: math.MinInt, Blocks: make([]api.Block, 3)}, {Regs: math.MaxInt, Blocks: make([]api.Block, 3)}, {Regs: 1 << 40, Blocks: []api.Block{{Ins: strange}}},
		{Regs: 2, Blocks: []api.Block{{Ins: strange, End: api.EndBranch, A: 2, To: 9, Else: -9}, {Ins: strange, End: api.EndRet, A: 99}}}, {Objects: []api.Slot{{Size: math.MaxInt}, {Size: -4}}, Regs: 3, Blocks: []api.Block{{Ins: strange, End: 7}}},
	} {
		for _, q := range []api.Proc{fold.Known(p), fold.Values(p), fold.Fold(p)} {
			if len(q.Blocks) != len(p.Blocks) {
				t.Errorf("%d: %v", n, q)
			}
		}
		if got := fold.Consts(p); len(got) != len(p.Blocks) {
			t.Errorf("%d: %v", n, got)
		}
	}
}

// Rule R3: nothing that is handed in is changed or shared.
func TestSharing(t *testing.T) {
	make := func() api.Proc {
		return proc(Branch(2, 1, 1, Const(2, 3), Copy(3, 2), Copy(4, 0), Call(5, 1, 4, 3)), Ret(5, Call(None, 2, 4, 3)))
	}
	p := make()
	for _, change := range []func(p api.Proc) api.Proc{fold.Known, fold.Values, fold.Fold} {
		for range 2 {
			q := change(p)
			if !procs.Equal(p, make()) {
				t.Fatalf("changed: %v", p)
			}
			for n := range q.Blocks {
				for k := range q.Blocks[n].Ins {
					clear(q.Blocks[n].Ins[k].Args)
				}
				clear(q.Blocks[n].Ins)
			}
			clear(q.Blocks)
			clear(q.Objects)
			if !procs.Equal(p, make()) {
				t.Fatalf("shared: %v", p)
			}
		}
	}
	for range 2 {
		l := fold.Consts(p)
		if !slices.EqualFunc(l, []map[int]uint32{{}, {2: 3, 3: 3}}, maps.Equal[map[int]uint32, map[int]uint32]) {
			t.Errorf("%v", l)
		}
		l[0][1], l[1][2] = 5, 6
	}
}
