package gen_test

import (
	"math"
	"reflect"
	"slices"
	"testing"

	"rushlight/alloc"
	"rushlight/api"
	"rushlight/asm"
	"rushlight/drawn"
	"rushlight/frame"
	"rushlight/gen"
	"rushlight/ops"
	"rushlight/region"
	"rushlight/rts"
	. "rushlight/sketch"
)

// first is the label of the first block of procedures that are alone.
const first = 1000

// alone is the code of the first procedure of a module, with these seats.
func alone(t *testing.T, m api.Module, l ...api.Seat) []api.Item {
	t.Helper()
	slots := 0
	for _, s := range l {
		if s.Reg == 0 {
			slots = max(slots, s.Slot+1)
		}
	}
	f, e := frame.Lay(m.Procs[0], l, slots)
	if e != api.OK {
		t.Fatalf("frame: %v", e)
	}
	code, next := gen.Proc(m, 0, l, f, first)
	if next != first+len(m.Procs[0].Blocks) {
		t.Errorf("the next label is %d", next)
	}
	return code
}

// block is the code of the first block of a procedure with these seats and instructions, without its end.
func block(t *testing.T, seats []api.Seat, l ...api.Ins) []api.Item {
	t.Helper()
	m := WithGlobals(api.Module{Procs: []api.Proc{{Regs: len(seats), Objects: Slots(4, 8), Blocks: []api.Block{Jump(1, l...), Ret(0)}}}}, 5, 8)
	code := alone(t, m, seats...)
	from, to := slices.Index(code, asm.Label(first)), slices.Index(code, asm.Label(first+1))
	return code[from+1 : to]
}

// items is items as a list.
func items(l ...api.Item) []api.Item { return l }

// Promise 27.1: labels.
func TestLabel(t *testing.T) {
	for n, want := range map[int]int{0: 16, 1: 17, 199: 215} {
		if l := gen.Label(n); l != want {
			t.Errorf("%d: %d", n, l)
		}
	}
}

// Promise 27.1: where the globals lie, and where they end.
func TestGlobals(t *testing.T) {
	m := WithGlobals(api.Module{}, 5, 4, 1, 9)
	for n, want := range []uint32{0, 8, 12, 16} {
		if at := gen.Global(m, n); at != rts.Globals+want {
			t.Errorf("%d: %#x", n, at)
		}
	}
	if n := gen.Limit(m); n != rts.Globals+28 {
		t.Errorf("limit %#x", n)
	}
	if n := gen.Limit(api.Module{}); n != rts.Globals {
		t.Errorf("limit of nothing %#x", n)
	}
	for _, n := range []int{-1, 4, math.MaxInt, math.MinInt} {
		if at := gen.Global(m, n); at != 0 {
			t.Errorf("%d: %#x", n, at)
		}
	}
}

// The example of the chapter.
func TestExample(t *testing.T) {
	got := block(t, Seats(InReg(8), InReg(9), InReg(18)), Bin(api.FnLe, 2, 0, 1))
	want := items(asm.Inst(api.OpSlt, 7, 9, 8, 0), asm.Inst(api.OpXori, 18, 7, 0, 1))
	if !slices.Equal(got, want) {
		t.Errorf("%v", got)
	}
}

// Promise 27.1: the code of instructions whose form the chapter tells.
func TestInstructions(t *testing.T) {
	regs := Seats(InReg(8), InReg(9), InReg(18))
	slots := Seats(InSlot(2), InSlot(0), InReg(9)) // at 8 + 8, at 8 (the return address and 9 lie ahead)
	note := rts.Note
	for name, x := range map[string]struct {
		seats []api.Seat
		ins   api.Ins
		want  []api.Item
	}{
		"a constant":                 {regs, Const(1, 70000), items(asm.Const(9, 70000))},
		"a copy":                     {regs, Copy(1, 2), items(ops.Add(9, 18, 0))},
		"a copy of itself":           {regs, Copy(1, 1), nil},
		"a sum":                      {regs, Bin(api.FnAdd, 2, 0, 1), items(ops.Three(api.OpAdd, 18, 8, 9))},
		"a sum of slots":             {slots, Bin(api.FnAdd, 0, 1, 0), items(ops.Load(5, 2, 8), ops.Load(6, 2, 16), ops.Three(api.OpAdd, 5, 5, 6), ops.Store(5, 2, 16))},
		"a constant in a slot":       {slots, Const(1, 3), items(asm.Const(5, 3), ops.Store(5, 2, 8))},
		"a load":                     {regs, Load(1, 0, -8, 4), items(ops.Load(9, 8, -8))},
		"a load of a byte":           {regs, Load(1, 0, 2047, 1), items(ops.Two(api.OpLbu, 9, 8, 2047))},
		"a load through a slot":      {slots, Load(1, 0, 4, 4), items(ops.Load(5, 2, 16), ops.Load(5, 5, 4), ops.Store(5, 2, 8))},
		"a store":                    {regs, Store(0, 1, -2048, 4), items(ops.Store(9, 8, -2048))},
		"a store of a byte":          {regs, Store(0, 1, 3, 1), items(ops.StoreAs(api.OpSb, 9, 8, 3))},
		"a global":                   {regs, Global(0, 1, -3), items(asm.Const(8, rts.Globals+5))},
		"an object":                  {regs, Frame(0, 1, 3), items(ops.Add(8, 2, 23))},
		"a call":                     {regs, Call(1, 7, 2, 0), items(ops.Add(10, 18, 0), ops.Add(11, 8, 0), asm.Jump(1, 23), ops.Add(9, 10, 0))},
		"a call without a result":    {regs, Call(None, 0), items(asm.Jump(1, 16))},
		"a mark":                     {regs, Mark(), rts.Mark()},
		"a noted constant in a slot": {slots, Log(Const(1, 3)), slices.Concat(items(asm.Const(5, 3), ops.Add(28, 2, 8)), note(28), items(ops.Store(5, 2, 8)))},
		"a noted constant":           {regs, Log(Const(1, 3)), items(asm.Const(9, 3))},
		"a noted store": {regs, Log(Store(0, 1, 3, 1)),
			slices.Concat(items(ops.Add(28, 8, 3), ops.Two(api.OpAndi, 28, 28, -4)), note(28), items(ops.StoreAs(api.OpSb, 9, 8, 3)))},
	} {
		if got := block(t, x.seats, x.ins); !slices.Equal(got, x.want) {
			t.Errorf("%s: %v, not %v", name, got, x.want)
		}
	}
}

// Promise 27.1: how a procedure begins and ends.
func TestFrame(t *testing.T) {
	m := WithGlobals(api.Module{Procs: []api.Proc{{Params: 4, Regs: 5, Objects: Slots(6), Blocks: []api.Block{Ret(1)}}}}, 10)
	got := alone(t, m, InReg(9), InSlot(0), InReg(8), InSlot(1), Nowhere())
	want := items(asm.Label(16), ops.Add(2, 2, -28), asm.Const(5, rts.Globals+12), asm.Branch(api.OpBltu, 2, 5, rts.FullLabel),
		ops.Store(1, 2, 0), ops.Store(8, 2, 4), ops.Store(9, 2, 8),
		ops.Add(9, 10, 0), ops.Store(11, 2, 12), ops.Add(8, 12, 0), ops.Store(13, 2, 16),
		asm.Label(first), ops.Load(5, 2, 12), ops.Add(10, 5, 0),
		ops.Load(8, 2, 4), ops.Load(9, 2, 8), ops.Load(1, 2, 0), ops.Add(2, 2, 28), asm.Inst(api.OpJalr, 0, 1, 0, 0))
	if !slices.Equal(got, want) {
		t.Errorf("%v", got)
	}
	m = api.Module{Procs: []api.Proc{{Void: true, Blocks: []api.Block{Ret(None)}}}}
	got = alone(t, m)
	want = items(asm.Label(16), ops.Add(2, 2, -4), asm.Const(5, rts.Globals), asm.Branch(api.OpBltu, 2, 5, rts.FullLabel), ops.Store(1, 2, 0),
		asm.Label(first), ops.Load(1, 2, 0), ops.Add(2, 2, 4), asm.Inst(api.OpJalr, 0, 1, 0, 0))
	if !slices.Equal(got, want) {
		t.Errorf("%v", got)
	}
}

// Promise 27.2: adjacent blocks need no jump.
func TestEnds(t *testing.T) {
	to := func(n int) api.Item { return asm.Jump(0, first+n) }
	branch := func(op, n int) api.Item { return asm.Branch(op, 8, 0, first+n) }
	for name, x := range map[string]struct {
		block api.Block
		want  []api.Item
	}{
		"on":                            {Jump(2), nil},
		"back":                          {Jump(1), items(to(1))},
		"to the beginning":              {Jump(0), items(to(0))},
		"ahead":                         {Jump(3), items(to(3))},
		"on, or back":                   {Branch(0, 2, 1), items(branch(api.OpBeq, 1))},
		"back, or on":                   {Branch(0, 1, 2), items(branch(api.OpBne, 1))},
		"ahead, or back":                {Branch(0, 3, 0), items(branch(api.OpBne, 3), to(0))},
		"on, or on":                     {Branch(0, 2, 2), items(branch(api.OpBeq, 2))},
		"to the beginning in both ways": {Branch(0, 0, 0), items(branch(api.OpBne, 0), to(0))},
	} {
		m := Main(Jump(1), x.block, Ret(0), Ret(0))
		m.Procs[0].Regs = 1
		code := alone(t, m, InReg(8))
		from, end := slices.Index(code, asm.Label(first+1)), slices.Index(code, asm.Label(first+2))
		if got := code[from+1 : end]; !slices.Equal(got, x.want) {
			t.Errorf("%s: %v", name, got)
		}
	}
}

// written is the register that an item writes; 0 if it writes none.
func written(x api.Item) int {
	if x.Kind == api.ItemBranch {
		return 0
	}
	return x.Inst.Rd
}

// Promise 27.1: no register is written but those of the seats, of calls, and the temporary ones. Slots are loaded into 5 and 6, and written from 5.
// All labels are there, and items are valid.
func TestRegisters(t *testing.T) {
	for n := range 200 {
		m := drawn.CallModule(n)
		if n%2 == 1 {
			m = drawn.WildModule(n)
		}
		regs := n % (alloc.MaxRegs + 1)
		next := gen.Label(len(m.Procs))
		for k := range m.Procs {
			seats, slots, _ := alloc.Assign(m.Procs[k], regs)
			m.Procs[k], _ = region.Plan(m, k, alloc.Spilled(seats), 1+n%region.MaxNotes)
			f, e := frame.Lay(m.Procs[k], seats, slots)
			if e != api.OK {
				t.Fatalf("%v", e)
			}
			code, after := gen.Proc(m, k, seats, f, next)
			checkCode(t, code, f, seats)
			var labels []int
			for _, x := range code {
				if x.Kind == api.ItemLabel {
					labels = append(labels, x.Label)
				}
			}
			want := []int{gen.Label(k)}
			for b := range m.Procs[k].Blocks {
				want = append(want, next+b)
			}
			if !slices.Equal(labels, want) || after != next+len(m.Procs[k].Blocks) {
				t.Errorf("labels %v, then %d; not %v", labels, after, want)
			}
			next = after
		}
	}
}

// checkCode checks the registers and slots that a procedure's code uses.
func checkCode(t *testing.T, code []api.Item, f api.Frame, seats []api.Seat) {
	allowed := append([]int{0, 1, 2, 3, 5, 6, 7, 10, 11, 12, 13, 14, 15, 28}, alloc.Given(seats)...)
	slots := f.Slots
	for _, s := range alloc.Spilled(seats) {
		if s {
			slots += 4
		}
	}
	for _, x := range code {
		i := x.Inst
		isSlot := i.Rs1 == 2 && i.Imm >= f.Slots && i.Imm < slots
		switch {
		case !asm.Right(x):
			t.Fatalf("not valid: %v", x)
		case !slices.Contains(allowed, written(x)):
			t.Fatalf("writes %d: %v", written(x), x)
		case written(x) == 3 && x != ops.Add(3, 3, 12), written(x) == 1 && x != ops.Load(1, 2, 0) && x.Kind != api.ItemJump:
			t.Fatalf("writes %d: %v", written(x), x)
		case isSlot && i.Op == api.OpLw && i.Rd != 5 && i.Rd != 6, isSlot && i.Op == api.OpSw && i.Rs2 != 5 && (i.Rs2 < 10 || i.Rs2 > 15):
			t.Fatalf("a slot: %v", x)
		}
	}
}

// Rules R1 and R3: what is not valid ends in no panic, arguments are not changed, and results are not shared.
func TestArguments(t *testing.T) {
	m := WithGlobals(Main(Ret(0, Frame(0, 0, 0), Global(0, 0, 0), Call(0, 0), Const(0, 7))), 4)
	m.Procs[0].Objects = Slots(4)
	for _, n := range []int{-1, 1, math.MinInt, math.MaxInt} {
		if l, next := gen.Proc(m, n, nil, api.Frame{}, 50); len(l) != 0 || next != 50 {
			t.Errorf("%d: %v, %d", n, l, next)
		}
	}
	if l, next := gen.Proc(api.Module{}, 0, nil, api.Frame{}, 50); len(l) != 0 || next != 50 {
		t.Errorf("%v, %d", l, next)
	}
	odd := api.Module{Procs: []api.Proc{{Params: math.MaxInt, Regs: -1, Blocks: []api.Block{
		{End: 9}, {}, Ret(5, Frame(-1, 7, 1<<40), Global(1<<40, -1, -1<<40), Call(7, -1, 9, -9), Load(4, 4, 1<<62, 3), Log(Store(-5, 5, -1<<62, 0)), Bin(99, 0, 0, 0), Un(0, -1, -1), api.Ins{Op: 99}),
		Jump(-1), Branch(math.MaxInt, math.MaxInt, math.MinInt),
	}}, {Params: math.MinInt}}}
	for _, seats := range [][]api.Seat{nil, Seats(InReg(-1), InReg(math.MaxInt), InSlot(math.MaxInt), InSlot(math.MinInt), Nowhere())} {
		for _, f := range []api.Frame{{}, {Size: math.MinInt, Saved: []int{-1, math.MaxInt}, Slots: math.MaxInt, Objects: []int{math.MinInt}}} {
			for n := range 2 {
				gen.Proc(odd, n, seats, f, math.MaxInt)
			}
		}
	}
	gen.Label(math.MaxInt)
	gen.Limit(api.Module{Globals: []api.Slot{{Size: math.MaxInt}, {Size: math.MaxInt}, {Size: math.MinInt}}})
	gen.Global(api.Module{Globals: []api.Slot{{Size: math.MaxInt}, {Size: math.MaxInt}}}, 1)

	seats, f := Seats(slices.Repeat(Seats(InSlot(0)), 10)...), api.Frame{Size: 12, Slots: 4, Objects: []int{8}}
	l, _ := gen.Proc(m, 0, seats, f, 50)
	kept := slices.Clone(l)
	clear(l)
	l, _ = gen.Proc(m, 0, seats, f, 50)
	if !slices.Equal(l, kept) || !reflect.DeepEqual(f, api.Frame{Size: 12, Slots: 4, Objects: []int{8}}) || seats[9] != InSlot(0) {
		t.Errorf("shared or changed")
	}
}
