package inline_test

import (
	"math"
	"reflect"
	"slices"
	"testing"

	"rushlight/api"
	"rushlight/inline"
	"rushlight/ir"
	"rushlight/procs"
	. "rushlight/sketch"
)

// module is a module of a main with the registers 0 to 9 and these blocks, and of these other procedures.
func module(main []api.Block, others ...api.Proc) api.Module {
	m := Main(main...)
	m.Procs = append(m.Procs, others...)
	return m
}

// blocks is blocks.
func blocks(l ...api.Block) []api.Block { return l }

// proc is a procedure with so many parameters and registers.
func proc(params, regs int, l ...api.Block) api.Proc {
	return api.Proc{Name: "f", Params: params, Regs: regs, Blocks: l}
}

// void is a procedure without a result.
func void(params, regs int, l ...api.Block) api.Proc {
	p := proc(params, regs, l...)
	p.Void = true
	return p
}

// marks is so many instructions.
func marks(n int) []api.Ins { return slices.Repeat([]api.Ins{Mark()}, n) }

// addOne is the procedure of the chapter's example: it answers its parameter and 1.
func addOne() api.Proc { return proc(1, 3, Ret(2, Const(1, 1), Bin(api.FnAdd, 2, 0, 1))) }

// The example of the chapter.
func TestExample(t *testing.T) {
	m := module(blocks(Ret(1, In(0), Call(1, 1, 0), Out(1))), addOne())
	want := Main(
		Jump(1, In(0), Copy(10, 0)),
		Jump(2, Const(11, 1), Bin(api.FnAdd, 12, 10, 11), Copy(1, 12)),
		Ret(1, Out(1))).Procs[0]
	want.Regs = 13
	if got := inline.Inline(m, 0); !procs.Equal(got, want) {
		t.Errorf("Inline: %s", ir.Text(got))
	}
	if got := inline.All(m); !procs.Equal(got.Procs[0], want) || !procs.Equal(got.Procs[1], addOne()) || len(got.Procs) != 2 {
		t.Errorf("All: %v", got)
	}
	if !inline.Small(addOne()) {
		t.Errorf("not small")
	}
}

// Promise 20.1: what is small.
func TestSmall(t *testing.T) {
	object := addOne()
	object.Objects = Slots(1)
	for name, x := range map[string]struct {
		p    api.Proc
		want bool
	}{
		"nothing":                  {api.Proc{}, true},
		"a return":                 {proc(0, 1, Ret(0)), true},
		"23 instructions":          {proc(0, 1, Ret(0, marks(23)...)), true},
		"24 instructions":          {proc(0, 1, Ret(0, marks(24)...)), false},
		"12 blocks, as many":       {proc(0, 1, slices.Repeat(blocks(Ret(0, Mark())), 12)...), true},
		"24 blocks":                {proc(0, 1, slices.Repeat(blocks(Ret(0)), 24)...), true},
		"25 blocks":                {proc(0, 1, slices.Repeat(blocks(Ret(0)), 25)...), false},
		"a call":                   {proc(0, 1, Ret(0, Call(0, 0))), false},
		"a call without a result":  {proc(0, 1, Ret(0, Call(None, 0))), false},
		"a call in another block":  {proc(0, 1, Jump(1), Ret(0, Mark(), Call(0, 0))), false},
		"a call behind the return": {proc(0, 1, Ret(0), Ret(0, Call(0, 0))), false},
		"an object":                {object, false},
		"a loop":                   {proc(0, 1, Branch(0, 0, 1, In(0)), Ret(0)), true},
		"all other instructions":   {proc(6, 8000, Ret(0, Const(1, 1), Copy(1, 1), Bin(1, 1, 1, 1), Un(17, 1, 1), Load(1, 1, 0, 4), Log(Store(1, 1, 0, 4)), Global(1, 0, 0), Out(1), In(1), Mark())), true},
		"no result":                {void(0, 0, Ret(None)), true},
	} {
		if got := inline.Small(x.p); got != x.want {
			t.Errorf("%s: %v", name, got)
		}
	}
	if inline.MaxSmall != 24 || inline.MaxSize != 2000 {
		t.Errorf("%d, %d", inline.MaxSmall, inline.MaxSize)
	}
}

// Promise 20.1: calls of all kinds in main, with what becomes of it.
func TestInline(t *testing.T) {
	choose := proc(2, 4, Branch(0, 1, 2, Const(2, 5)), Ret(1, Out(2)), Ret(3))
	big := proc(1, 1, Ret(0, marks(24)...))
	for name, x := range map[string]struct {
		from   []api.Block
		others []api.Proc
		to     []api.Block
		regs   int
	}{
		"no call":                   {blocks(Ret(0, In(0))), []api.Proc{addOne()}, blocks(Ret(0, In(0))), 10},
		"what is not small":         {blocks(Ret(0, Call(0, 1, 2))), []api.Proc{big}, blocks(Ret(0, Call(0, 1, 2))), 10},
		"nothing ahead and behind":  {blocks(Ret(0, Call(0, 1))), []api.Proc{proc(0, 1, Ret(0, In(0)))}, blocks(Jump(1), Jump(2, In(10), Copy(0, 10)), Ret(0)), 11},
		"a register that is unset":  {blocks(Ret(0, Call(0, 1))), []api.Proc{proc(0, 1, Ret(0))}, blocks(Jump(1, Const(10, 0)), Jump(2, Copy(0, 10)), Ret(0)), 11},
		"no result":                 {blocks(Ret(0, Out(1), Call(None, 1, 3), Out(2))), []api.Proc{void(1, 1, Ret(None, Out(0)))}, blocks(Jump(1, Out(1), Copy(10, 3)), Jump(2, Out(10)), Ret(0, Out(2))), 11},
		"no result, no register":    {blocks(Ret(0, Call(None, 1))), []api.Proc{void(0, 0, Ret(None))}, blocks(Jump(1), Jump(2), Ret(0)), 10},
		"two returns":               {blocks(Jump(1, In(1)), Ret(3, Call(3, 1, 2, 1))), []api.Proc{choose}, blocks(Jump(1, In(1)), Jump(2, Copy(10, 2), Copy(11, 1), Const(13, 0)), Branch(10, 3, 4, Const(12, 5)), Jump(5, Out(12), Copy(3, 11)), Jump(5, Copy(3, 13)), Ret(3)), 14},
		"unset ones, ascending":     {blocks(Ret(0, Call(0, 1, 5))), []api.Proc{proc(1, 5, Ret(0, Out(4), Out(2), In(3), Out(3), Out(0)))}, blocks(Jump(1, Copy(10, 5), Const(12, 0), Const(14, 0)), Jump(2, Out(14), Out(12), In(13), Out(13), Out(10), Copy(0, 10)), Ret(0)), 15},
		"unset on one way":          {blocks(Ret(0, Call(0, 1, 5))), []api.Proc{proc(1, 2, Branch(0, 1, 2), Jump(2, Const(1, 7)), Ret(1))}, blocks(Jump(1, Copy(10, 5), Const(11, 0)), Branch(10, 2, 3), Jump(3, Const(11, 7)), Jump(4, Copy(0, 11)), Ret(0)), 12},
		"unused parameters":         {blocks(Ret(0, Call(0, 1, 5, 6))), []api.Proc{proc(2, 3, Ret(2, In(2)))}, blocks(Jump(1, Copy(10, 5), Copy(11, 6)), Jump(2, In(12), Copy(0, 12)), Ret(0)), 13},
		"an argument twice":         {blocks(Ret(0, Call(5, 1, 5, 5))), []api.Proc{proc(2, 2, Ret(1))}, blocks(Jump(1, Copy(10, 5), Copy(11, 5)), Jump(2, Copy(5, 11)), Ret(0)), 12},
		"a branch as end":           {blocks(Branch(4, 0, 1, Call(4, 1, 4)), Ret(0)), []api.Proc{addOne()}, blocks(Jump(2, Copy(10, 4)), Ret(0), Jump(3, Const(11, 1), Bin(api.FnAdd, 12, 10, 11), Copy(4, 12)), Branch(4, 0, 1)), 13},
		"a loop":                    {blocks(Ret(0, Call(0, 1, 5))), []api.Proc{proc(1, 1, Branch(0, 0, 1, In(0)), Ret(0))}, blocks(Jump(1, Copy(10, 5)), Branch(10, 1, 2, In(10)), Jump(3, Copy(0, 10)), Ret(0)), 11},
		"a loop that goes on":       {blocks(Ret(0, Call(0, 1, 5))), []api.Proc{proc(1, 1, Jump(0, Out(0)))}, blocks(Jump(1, Copy(10, 5)), Jump(1, Out(10)), Ret(0)), 11},
		"what is not reached":       {blocks(Ret(0), Ret(1, Call(1, 1, 1))), []api.Proc{proc(1, 1, Ret(0), Jump(0))}, blocks(Ret(0), Jump(2, Copy(10, 1)), Jump(4, Copy(1, 10)), Jump(2), Ret(1)), 11},
		"of the second procedure":   {blocks(Ret(0, Call(1, 1, 1), Call(0, 2, 5))), []api.Proc{big, proc(1, 1, Ret(0))}, blocks(Jump(1, Call(1, 1, 1), Copy(10, 5)), Jump(2, Copy(0, 10)), Ret(0)), 11},
		"two in a block":            {blocks(Ret(0, Call(0, 1, 5), Call(1, 1, 0))), []api.Proc{proc(1, 1, Ret(0))}, blocks(Jump(1, Copy(10, 5)), Jump(2, Copy(0, 10)), Jump(3, Copy(11, 0)), Jump(4, Copy(1, 11)), Ret(0)), 12},
		"two in blocks":             {blocks(Jump(1, Call(0, 1, 5)), Ret(0, Call(1, 1, 6))), []api.Proc{proc(1, 1, Ret(0))}, blocks(Jump(2, Copy(10, 5)), Jump(4, Copy(11, 6)), Jump(3, Copy(0, 10)), Jump(1), Jump(5, Copy(1, 11)), Ret(0)), 12},
		"the second one comes last": {blocks(Jump(1, Call(0, 1, 5), Call(2, 1, 7)), Ret(0, Call(1, 1, 6))), []api.Proc{proc(1, 1, Ret(0))}, blocks(Jump(2, Copy(10, 5)), Jump(4, Copy(11, 6)), Jump(3, Copy(0, 10)), Jump(6, Copy(12, 7)), Jump(5, Copy(1, 11)), Ret(0), Jump(7, Copy(2, 12)), Jump(1)), 13},
		"all fields": {blocks(Ret(0, Call(0, 1, 5))), []api.Proc{proc(1, 2, Jump(1, Log(Const(1, 7)), Copy(1, 0), Un(17, 1, 0), Load(1, 0, 8, 1), Log(Store(0, 1, 4, 4)), Global(1, 0, 4), Out(0), Mark()), Ret(0))},
			blocks(Jump(1, Copy(10, 5)), Jump(2, Log(Const(11, 7)), Copy(11, 10), Un(17, 11, 10), Load(11, 10, 8, 1), Log(Store(10, 11, 4, 4)), Global(11, 0, 4), Out(10), Mark()), Jump(3, Copy(0, 10)), Ret(0)), 12},
		"a call that notes": {blocks(Ret(0, Log(Call(0, 1, 5)))), []api.Proc{proc(1, 1, Ret(0))}, blocks(Jump(1, Copy(10, 5)), Jump(2, Copy(0, 10)), Ret(0)), 11},
	} {
		m := module(x.from, x.others...)
		m = WithGlobals(m, 8)
		if ir.Check(m) != api.OK {
			t.Errorf("%s: not valid", name)
		}
		want := m.Procs[0]
		want.Blocks, want.Regs = x.to, x.regs
		if got := inline.Inline(m, 0); !procs.Equal(got, want) {
			t.Errorf("%s: %d registers,\n%s", name, got.Regs, ir.Text(got))
		}
		for n := range x.others {
			if got := inline.Inline(m, n+1); !procs.Equal(got, m.Procs[n+1]) {
				t.Errorf("%s: procedure %d: %s", name, n+1, ir.Text(got))
			}
		}
		for _, n := range []int{-1, len(m.Procs), math.MaxInt, math.MinInt} {
			if got := inline.Inline(m, n); !procs.Equal(got, api.Proc{}) {
				t.Errorf("%s: there is a procedure %d: %v", name, n, got)
			}
		}
	}
}

// Promise 20.1: main, if it is small, is inlined like others, and Name, Void, Params and Objects stay.
func TestOutline(t *testing.T) {
	m := module(blocks(Ret(3, In(3))), api.Proc{Name: "g", Void: true, Params: 2, Regs: 4, Objects: Slots(4, 8), Blocks: blocks(Ret(None, Call(2, 0)))})
	want := m.Procs[1]
	want.Regs, want.Blocks = 14, blocks(Jump(1), Jump(2, In(7), Copy(2, 7)), Ret(None))
	if got := inline.Inline(m, 1); !procs.Equal(got, want) {
		t.Errorf("%v", got)
	}
	if got := inline.All(m); !procs.Equal(got.Procs[1], want) || !procs.Equal(got.Procs[0], m.Procs[0]) {
		t.Errorf("%v", got)
	}
}

// filled is a main of so many instructions in block 0, and of two blocks, each with two calls of a procedure of which each adds 4 to the size.
func filled(n int) api.Module {
	f := proc(1, 1, Ret(0, Mark()))
	return module(blocks(Jump(1, marks(n)...), Jump(2, Call(0, 1, 0), Call(1, 1, 1)), Ret(0, Call(2, 1, 2), Call(3, 1, 3))), f)
}

// callsLeft are the results of the calls that are left, ascending.
func callsLeft(p api.Proc) []int {
	var l []int
	for _, b := range p.Blocks {
		for _, i := range b.Ins {
			if i.Op == api.IrCall {
				l = append(l, i.D)
			}
		}
	}
	slices.Sort(l)
	return l
}

// Promise 20.1: how large a procedure becomes. The calls are done in the order 0, 2, 1, 3.
func TestMaxSize(t *testing.T) {
	for _, x := range []struct {
		size, want int
		left       []int
	}{
		{1000, 1016, nil}, {1984, 2000, nil}, {1985, 1997, []int{3}}, {1988, 2000, []int{3}}, {1989, 1997, []int{1, 3}}, {1992, 2000, []int{1, 3}}, {1993, 1997, []int{1, 2, 3}},
		{1996, 2000, []int{1, 2, 3}}, {1997, 1997, []int{0, 1, 2, 3}}, {2000, 2000, []int{0, 1, 2, 3}}, {2001, 2001, []int{0, 1, 2, 3}}, {9000, 9000, []int{0, 1, 2, 3}},
	} {
		m := filled(x.size - 7)
		got := inline.Inline(m, 0)
		if left := callsLeft(got); ir.Size(got) != x.want || !slices.Equal(left, x.left) || got.Regs != 14-len(left) {
			t.Errorf("size %d: %d, left %v", x.size, ir.Size(got), left)
		}
	}
}

// Promise 20.1: a smaller call behind one that does not fit is kept too.
func TestLaterKept(t *testing.T) {
	tiny, large := void(0, 0, Ret(None)), void(0, 0, Ret(None, marks(23)...))
	m := module(blocks(Jump(1, append(marks(1971), Call(None, 1))...), Ret(0, Call(None, 2), Call(None, 1))), tiny, large)
	got := inline.Inline(m, 0)
	if ir.Size(got) != 1977 || len(got.Blocks) != 4 || got.Blocks[1].Ins[0].Obj != 2 || got.Blocks[1].Ins[1].Obj != 1 {
		t.Errorf("%d, %v", ir.Size(got), got.Blocks[1:])
	}
}

// Promise 20.1: how many registers a procedure gets.
func TestMaxRegs(t *testing.T) {
	for _, x := range []struct {
		regs int
		left []int
	}{{1000, nil}, {7960, nil}, {7961, []int{3}}, {7970, []int{3}}, {7971, []int{1, 3}}, {7990, []int{1, 2, 3}}, {7991, []int{0, 1, 2, 3}}, {8000, []int{0, 1, 2, 3}}} {
		m := filled(1)
		m.Procs[0].Regs, m.Procs[1].Regs = x.regs, 10
		got := inline.Inline(m, 0)
		if left := callsLeft(got); !slices.Equal(left, x.left) || got.Regs != x.regs+10*(4-len(left)) {
			t.Errorf("%d registers: %d, left %v", x.regs, got.Regs, left)
		}
	}
}

// Promise 20.2: a module.
func TestAll(t *testing.T) {
	middle := proc(1, 3, Ret(1, Call(1, 2, 0), Call(2, 0)))
	m := WithGlobals(module(blocks(Ret(0, Call(0, 1, 5), Call(0, 2, 5))), middle, addOne(), middle), 4, 9)
	m.Globals[1].Name, m.Main = "g", 0
	was := WithGlobals(module(blocks(Ret(0, Call(0, 1, 5), Call(0, 2, 5))), middle, addOne(), middle), 4, 9)
	was.Globals[1].Name = "g"
	got := inline.All(m)
	for n, p := range m.Procs {
		want := inline.Inline(m, n)
		if n == 2 {
			want = p
		}
		if !procs.Equal(got.Procs[n], want) {
			t.Errorf("procedure %d: %s", n, ir.Text(got.Procs[n]))
		}
	}
	if len(got.Procs) != 4 || !slices.Equal(got.Globals, m.Globals) || !reflect.DeepEqual(got.Data, m.Data) || got.Main != 0 {
		t.Errorf("%v", got)
	}
	if left := callsLeft(got.Procs[0]); !slices.Equal(left, []int{0}) {
		t.Errorf("left: %v", left)
	}
	got.Data[0][0], got.Globals[0].Size = 99, 99
	for _, p := range got.Procs {
		for _, b := range p.Blocks {
			for _, i := range b.Ins {
				clear(i.Args)
			}
			clear(b.Ins)
		}
	}
	if !reflect.DeepEqual(m, was) {
		t.Errorf("changed: %v", m)
	}
	if got := inline.All(api.Module{Main: 7}); len(got.Procs) != 0 || got.Main != 7 {
		t.Errorf("nothing: %v", got)
	}
}

// Rule R1: modules that are not valid, of which nothing is promised but that a call ends.
func TestNotValid(t *testing.T) {
	for _, n := range []int{-1, 1, 2, 5, math.MaxInt, math.MinInt} {
		for _, f := range []api.Proc{{}, {Regs: n, Blocks: blocks(Ret(n))}, {Params: n, Regs: 3, Blocks: blocks(Ret(0, Out(n)), Jump(n))}, {Regs: 2, Blocks: blocks(Branch(n, n, 0), api.Block{End: n})}, {Regs: 1, Blocks: blocks(Ret(None))}} {
			m := module(blocks(Jump(n, Call(0, 1), Call(None, n), Call(n, 1, 3, n)), Branch(n, n, n, Call(None, 1, 1, 2, 3))), f)
			for _, regs := range []int{10, n} {
				m.Procs[0].Regs = regs
				inline.Inline(m, 0)
				if got := inline.All(m); len(got.Procs) != 2 {
					t.Errorf("%v", got)
				}
			}
		}
	}
}
