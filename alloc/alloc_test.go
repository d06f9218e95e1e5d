package alloc_test

import (
	"math"
	"reflect"
	"slices"
	"testing"

	"rushlight/alloc"
	"rushlight/api"
	"rushlight/ir"
	"rushlight/procs"
	. "rushlight/sketch"
)

// proc is a procedure with so many parameters, 5 registers and these blocks.
func proc(params int, l ...api.Block) api.Proc {
	result := slices.ContainsFunc(l, func(b api.Block) bool { return b.End == api.EndRet && b.A != None })
	return api.Proc{Void: !result, Params: params, Regs: 5, Objects: Slots(4), Blocks: l}
}

// isValid reports whether a procedure is valid where it may call number 1 with three arguments, number 2 with one, and number 3 with three;
// these two are Void.
func isValid(p api.Proc) bool {
	m := api.Module{Procs: []api.Proc{p, {Params: 3}, {Params: 1, Void: true}, {Params: 3, Void: true}}}
	return ir.Proc(WithGlobals(m, 4), 0) == api.OK
}

// sum is the example of the chapter.
func sum() api.Proc {
	p := proc(0, Ret(None, In(0), In(1), Bin(api.FnAdd, 2, 0, 1), Out(2)))
	p.Regs = 3
	return p
}

// The example of the chapter.
func TestExample(t *testing.T) {
	l, slots, e := alloc.Assign(sum(), alloc.MaxRegs)
	if !slices.Equal(l, Seats(InReg(8), InReg(9), InReg(8))) || slots != 0 || e != api.OK {
		t.Errorf("%v, %d, %v", l, slots, e)
	}
}

// Promise 24.1: ranges of the registers 0 to 4 by hand; none where a register has none.
func TestRange(t *testing.T) {
	type bounds = []int
	none := bounds(nil)
	for name, x := range map[string]struct {
		p    api.Proc
		want []bounds
	}{
		"nothing":                         {proc(0, Ret(None)), []bounds{none, none, none, none, none}},
		"the example":                     {proc(0, sum().Blocks...), []bounds{{1, 4}, {3, 4}, {5, 6}, none, none}},
		"returned":                        {proc(0, Ret(2)), []bounds{none, none, {0, 0}, none, none}},
		"set and returned":                {proc(0, Ret(1, Const(1, 5))), []bounds{none, {1, 2}, none, none, none}},
		"set only":                        {proc(0, Ret(None, Const(1, 5), In(3))), []bounds{none, {1, 1}, none, {3, 3}, none}},
		"read only":                       {proc(0, Ret(None, Const(1, 5), Out(3))), []bounds{none, {1, 1}, none, {0, 2}, none}},
		"read by the first instruction":   {proc(0, Ret(None, Out(3))), []bounds{none, none, none, {0, 0}, none}},
		"read and set":                    {proc(0, Ret(None, Mark(), Copy(3, 3))), []bounds{none, none, none, {0, 3}, none}},
		"set twice":                       {proc(0, Ret(None, Const(0, 1), Out(0), Mark(), In(0), Mark())), []bounds{{1, 7}, none, none, none, none}},
		"parameters":                      {proc(2, Ret(None)), []bounds{{0, 0}, {0, 0}, none, none, none}},
		"a parameter that is read":        {proc(1, Ret(0, Const(1, 1))), []bounds{{0, 2}, {1, 1}, none, none, none}},
		"a parameter that is set":         {proc(1, Ret(None, Const(0, 1), Const(0, 2))), []bounds{{0, 3}, none, none, none, none}},
		"a parameter, led to at once":     {proc(1, Jump(1), Ret(0)), []bounds{{0, 1}, none, none, none, none}},
		"a mark":                          {proc(0, Ret(1, Mark(), Const(1, 1), Mark())), []bounds{none, {3, 6}, none, none, none}},
		"a store and a load":              {proc(0, Ret(None, Global(0, 0, 0), Const(1, 1), Store(0, 1, 0, 4), Load(2, 0, 0, 4))), []bounds{{1, 6}, {3, 4}, {7, 7}, none, none}},
		"an object and a function":        {proc(0, Ret(None, Frame(0, 0, 0), Un(api.FnNeg, 1, 0))), []bounds{{1, 2}, {3, 3}, none, none, none}},
		"a call":                          {proc(0, Ret(None, Mark(), Call(0, 1, 0, 2, 2))), []bounds{{0, 3}, none, {0, 2}, none, none}},
		"a call without a result":         {proc(0, Ret(None, Const(4, 1), Call(None, 2, 4))), []bounds{none, none, none, none, {1, 2}}},
		"blocks":                          {proc(0, Jump(1, Const(0, 1)), Ret(0, Out(1))), []bounds{{1, 5}, {0, 3}, none, none, none}},
		"blocks without instructions":     {proc(0, Jump(1), Jump(2), Ret(0)), []bounds{{0, 2}, none, none, none, none}},
		"a branch":                        {proc(0, Branch(0, 1, 2, In(0), Mark()), Ret(1), Ret(2, In(2), Out(2))), []bounds{{1, 4}, {0, 5}, {7, 10}, none, none}},
		"backward by number":              {proc(0, Jump(2, Const(0, 1)), Ret(0), Jump(1)), []bounds{{1, 4}, none, none, none, none}},
		"a block that it passes by":       {proc(0, Jump(2, Const(0, 1)), Ret(1, Out(1)), Ret(0)), []bounds{{1, 6}, {3, 5}, none, none, none}},
		"a loop":                          {proc(0, Jump(1, Const(0, 5)), Branch(0, 1, 2, Bin(api.FnSub, 0, 0, 1)), Ret(None)), []bounds{{1, 5}, {0, 5}, none, none, none}},
		"live to the end of a loop":       {proc(0, Jump(1, Const(0, 1)), Branch(1, 1, 2, Out(0), Const(2, 1)), Ret(None)), []bounds{{1, 7}, {0, 7}, {6, 6}, none, none}},
		"set and read in a loop":          {proc(0, Jump(1), Branch(1, 1, 2, In(0), Out(0)), Ret(None)), []bounds{{2, 3}, {0, 5}, none, none, none}},
		"a loop without an end":           {proc(0, Jump(0, In(0), Out(1))), []bounds{{1, 1}, {0, 4}, none, none, none}},
		"not reached":                     {proc(0, Ret(None), Jump(0, Const(0, 1), Out(1))), []bounds{{2, 2}, {1, 3}, none, none, none}},
		"not reached, and leads to reads": {proc(0, Jump(1, Const(0, 1)), Ret(0), Jump(1, Mark())), []bounds{{1, 6}, none, none, none, none}},
	} {
		if !isValid(x.p) {
			t.Errorf("%s: not valid", name)
		}
		for r, want := range x.want {
			from, to, is := alloc.Range(x.p, r)
			if is != (want != nil) || is && !slices.Equal(want, bounds{from, to}) || !is && from+to != 0 {
				t.Errorf("%s: register %d: %d, %d, %v", name, r, from, to, is)
			}
		}
		for _, r := range []int{-1, 5, 6, math.MaxInt, math.MinInt} {
			if from, to, is := alloc.Range(x.p, r); from != 0 || to != 0 || is {
				t.Errorf("%s: register %d: %d, %d, %v", name, r, from, to, is)
			}
		}
	}
}

// together is a procedure of so many registers, all of which are set before the first one is read. They are read in the order of their numbers.
func together(regs int) api.Proc {
	p := api.Proc{Void: true, Regs: regs}
	var l []api.Ins
	for r := range regs {
		l = append(l, In(r))
	}
	for r := range regs {
		l = append(l, Out(r))
	}
	p.Blocks = []api.Block{Ret(None, l...)}
	return p
}

// Promise 24.1: seats of the registers 0 to 4 by hand.
func TestAssign(t *testing.T) {
	void := func(l ...api.Ins) api.Proc { return proc(0, Ret(None, l...)) }
	same := proc(2, Ret(None, In(2), In(3), Bin(api.FnAdd, 4, 2, 3), Store(0, 1, 0, 4)))
	for name, x := range map[string]struct {
		p     api.Proc
		regs  int
		want  []api.Seat
		slots int
	}{
		"nothing":                               {void(), 12, Seats(Nowhere(), Nowhere(), Nowhere(), Nowhere(), Nowhere()), 0},
		"nothing, and no registers":             {void(), 0, Seats(Nowhere(), Nowhere(), Nowhere(), Nowhere(), Nowhere()), 0},
		"without a range":                       {void(In(3), Out(3), In(1), Out(1)), 12, Seats(Nowhere(), InReg(8), Nowhere(), InReg(8), Nowhere()), 0},
		"no registers":                          {proc(0, sum().Blocks...), 0, Seats(InSlot(0), InSlot(1), InSlot(2), Nowhere(), Nowhere()), 3},
		"by their starts":                       {void(In(4), In(2), In(3), Out(2)), 0, Seats(Nowhere(), Nowhere(), InSlot(1), InSlot(2), InSlot(0)), 3},
		"by their ends":                         {proc(3, Ret(0, Out(1), Out(2))), 12, Seats(InReg(18), InReg(8), InReg(9), Nowhere(), Nowhere()), 0},
		"by their numbers":                      {proc(3, Ret(None)), 12, Seats(InReg(8), InReg(9), InReg(18), Nowhere(), Nowhere()), 0},
		"no slot is given twice":                {void(In(0), Out(0), In(1), Out(1)), 0, Seats(InSlot(0), InSlot(1), Nowhere(), Nowhere(), Nowhere()), 2},
		"one register":                          {proc(0, sum().Blocks...), 1, Seats(InReg(8), InSlot(0), InReg(8), Nowhere(), Nowhere()), 1},
		"read where another one is set":         {void(In(0), Copy(1, 0), Copy(2, 1)), 12, Seats(InReg(8), InReg(8), InReg(8), Nowhere(), Nowhere()), 0},
		"read behind another one's set":         {void(In(0), In(1), Out(0)), 12, Seats(InReg(8), InReg(9), Nowhere(), Nowhere(), Nowhere()), 0},
		"set and not read":                      {void(In(0), In(1), In(2)), 12, Seats(InReg(8), InReg(8), InReg(8), Nowhere(), Nowhere()), 0},
		"a parameter that is not read":          {proc(1, Ret(None, In(1))), 12, Seats(InReg(8), InReg(8), Nowhere(), Nowhere(), Nowhere()), 0},
		"the current one ends last":             {void(In(0), In(1), Out(0), Out(1)), 1, Seats(InReg(8), InSlot(0), Nowhere(), Nowhere(), Nowhere()), 1},
		"another one ends last":                 {void(In(0), In(1), Out(1), Out(0)), 1, Seats(InSlot(0), InReg(8), Nowhere(), Nowhere(), Nowhere()), 1},
		"they end together":                     {void(In(0), In(1), Store(0, 1, 0, 4)), 1, Seats(InReg(8), InSlot(0), Nowhere(), Nowhere(), Nowhere()), 1},
		"others end together":                   {void(In(0), In(1), In(2), Out(2), Store(0, 1, 0, 4)), 2, Seats(InReg(8), InSlot(0), InReg(9), Nowhere(), Nowhere()), 1},
		"others end together, by their starts":  {void(In(1), In(0), In(2), Out(2), Store(0, 1, 0, 4)), 2, Seats(InSlot(0), InReg(8), InReg(9), Nowhere(), Nowhere()), 1},
		"others end together, by their numbers": {same, 3, Seats(InReg(8), InSlot(0), InReg(18), InReg(9), InReg(9)), 1},
		"all end together":                      {void(In(2), In(1), In(0), Call(None, 3, 0, 1, 2)), 2, Seats(InSlot(0), InReg(9), InReg(8), Nowhere(), Nowhere()), 1},
		"one gives way to several":              {void(In(0), In(1), In(2), Out(2), Out(1), Out(0)), 1, Seats(InSlot(0), InSlot(1), InReg(8), Nowhere(), Nowhere()), 2},
		"of several, the one that ends last":    {void(In(0), In(1), In(2), Out(2), Out(0), Out(1)), 2, Seats(InReg(8), InSlot(0), InReg(9), Nowhere(), Nowhere()), 1},
		"it keeps its slot":                     {void(In(0), In(1), Out(1), Out(0), Out(0)), 1, Seats(InSlot(0), InReg(8), Nowhere(), Nowhere(), Nowhere()), 1},
		"the first free one":                    {void(In(0), In(1), In(2), Out(0), Out(2), In(3), In(4), Out(1), Out(3), Out(4)), 12, Seats(InReg(8), InReg(9), InReg(18), InReg(8), InReg(18)), 0},
		"the last one is free":                  {void(In(0), In(1), In(2), Out(2), In(3), Out(1), Out(0), Out(3)), 3, Seats(InReg(8), InReg(9), InReg(18), InReg(18), Nowhere()), 0},
		"over blocks":                           {proc(0, Jump(2, In(0)), Ret(1, In(1)), Jump(1, Out(0))), 12, Seats(InReg(8), InReg(9), Nowhere(), Nowhere(), Nowhere()), 0},
		"live in a loop":                        {proc(0, Jump(1, In(0)), Branch(1, 1, 2, Out(0), In(1)), Ret(None, In(2))), 12, Seats(InReg(8), InReg(9), InReg(8), Nowhere(), Nowhere()), 0},
	} {
		if l, slots, e := alloc.Assign(x.p, x.regs); !isValid(x.p) || !slices.Equal(l, x.want) || slots != x.slots || e != api.OK {
			t.Errorf("%s: %v, %d, %v", name, l, slots, e)
		}
	}
}

// Promise 24.1: the registers that may be assigned, and which of them are.
func TestAssignable(t *testing.T) {
	order := []int{8, 9, 18, 19, 20, 21, 22, 23, 24, 25, 26, 27}
	if len(order) != alloc.MaxRegs {
		t.Fatalf("%d registers", alloc.MaxRegs)
	}
	for regs := range alloc.MaxRegs + 1 {
		l, slots, e := alloc.Assign(together(20), regs)
		if slots != 20-regs || e != api.OK || len(l) != 20 {
			t.Fatalf("%d registers: %d slots, %v", regs, slots, e)
		}
		for r, s := range l {
			want := InSlot(r - regs)
			if r < regs {
				want = InReg(order[r])
			}
			if s != want {
				t.Errorf("%d registers: %d: %v, not %v", regs, r, s, want)
			}
		}
		if got := alloc.Given(l); !slices.Equal(got, order[:regs]) {
			t.Errorf("%d registers: Given: %v", regs, got)
		}
	}
}

// Promise 24.1: how many registers there are not. The procedure may be any then.
func TestErrArg(t *testing.T) {
	for _, regs := range []int{-1, alloc.MaxRegs + 1, math.MaxInt, math.MinInt} {
		for _, p := range []api.Proc{sum(), {}, {Regs: -1}, {Regs: math.MaxInt}} {
			if l, slots, e := alloc.Assign(p, regs); len(l) > 0 || slots != 0 || e != api.ErrArg {
				t.Errorf("%d registers: %v, %d, %v", regs, l, slots, e)
			}
		}
	}
}

// Promise 24.1: Spilled and Given.
func TestSeats(t *testing.T) {
	for name, x := range map[string]struct {
		l       []api.Seat
		spilled []bool
		given   []int
	}{
		"nil":                     {},
		"empty":                   {l: Seats()},
		"nowhere":                 {Seats(Nowhere()), []bool{false}, nil},
		"a slot":                  {Seats(InSlot(0)), []bool{true}, nil},
		"a register":              {Seats(InReg(8)), []bool{false}, []int{8}},
		"a register with a slot":  {Seats(api.Seat{Reg: 9, Slot: 3}), []bool{false}, []int{9}},
		"a register without one":  {Seats(api.Seat{Reg: 9, Slot: None}), []bool{false}, []int{9}},
		"several":                 {Seats(InSlot(1), InReg(27), Nowhere(), InReg(8), InSlot(0), InReg(18)), []bool{true, false, false, false, true, false}, []int{8, 18, 27}},
		"several times":           {Seats(InReg(9), InReg(8), InReg(9), InReg(9), InReg(8)), make([]bool, 5), []int{8, 9}},
		"far beyond":              {Seats(InSlot(math.MaxInt), InSlot(math.MinInt), InReg(math.MaxInt)), []bool{true, false, false}, []int{math.MaxInt}},
		"a register there is not": {Seats(InReg(math.MinInt), InReg(-1), InReg(1)), make([]bool, 3), []int{1}},
	} {
		kept := slices.Clone(x.l)
		if got := alloc.Spilled(x.l); !slices.Equal(got, x.spilled) {
			t.Errorf("%s: Spilled: %v", name, got)
		}
		if got := alloc.Given(x.l); !slices.Equal(got, x.given) {
			t.Errorf("%s: Given: %v", name, got)
		}
		if !slices.Equal(x.l, kept) {
			t.Errorf("%s: changed: %v", name, x.l)
		}
	}
}

// Rule R3: nothing that is handed in is changed, and no two answers share anything.
func TestSharing(t *testing.T) {
	p := proc(1, Branch(0, 1, 0, Call(2, 1, 0, 2, 2), In(1)), Ret(1))
	kept := procs.Clone(p)
	for range 2 {
		l, slots, e := alloc.Assign(p, 2)
		if !slices.Equal(l, Seats(InReg(8), InSlot(0), InReg(9), Nowhere(), Nowhere())) || slots != 1 || e != api.OK {
			t.Fatalf("%v, %d, %v", l, slots, e)
		}
		spilled, given := alloc.Spilled(l), alloc.Given(l)
		if !slices.Equal(spilled, []bool{false, true, false, false, false}) || !slices.Equal(given, []int{8, 9}) {
			t.Fatalf("%v, %v", spilled, given)
		}
		if from, to, is := alloc.Range(p, 2); from != 0 || to != 4 || !is {
			t.Fatalf("%d, %d, %v", from, to, is)
		}
		clear(l)
		clear(spilled)
		clear(given)
		if !reflect.DeepEqual(p, kept) {
			t.Fatalf("changed: %v", p)
		}
	}
}

// Rule R1: procedures that are not valid do not stop a call.
func TestStrange(t *testing.T) {
	const most, least = math.MaxInt, math.MinInt
	for _, p := range []api.Proc{
		{}, {Regs: -1}, {Regs: least}, {Regs: most}, {Params: most}, {Params: least, Regs: 2}, {Params: 9, Regs: 2, Blocks: []api.Block{Ret(8)}},
		{Params: most, Regs: most, Blocks: []api.Block{{}, Ret(most, Copy(least, most), Out(ir.MaxRegs))}},
		{Regs: 3, Blocks: []api.Block{Branch(-7, most, least, Call(5, -1, 4, -9, 2), api.Ins{Op: most, D: 1}), {End: most, A: 1}}},
	} {
		for _, r := range []int{0, 1, 2, ir.MaxRegs - 1, ir.MaxRegs, most - 1, most, -1, least} {
			alloc.Range(p, r)
		}
		for regs := range alloc.MaxRegs + 1 {
			if l, _, e := alloc.Assign(p, regs); e != api.OK || p.Regs <= ir.MaxRegs && len(l) != max(0, p.Regs) {
				t.Errorf("%d registers: %d seats, %v", p.Regs, len(l), e)
			}
		}
	}
}

// Promise 24.1: as much as a procedure has at most.
func TestLargest(t *testing.T) {
	p := api.Proc{Void: true, Params: 6, Regs: ir.MaxRegs}
	for n := range ir.MaxBlocks { // each block sets what the next one but 2000 reads, so that many are live
		p.Blocks = append(p.Blocks, Branch(0, (n+1)%ir.MaxBlocks, (n+2000)%ir.MaxBlocks, Out(2*n), Copy((2*n+4000)%ir.MaxRegs, 2*n+1), In(2*n+1), Mark(), Mark()))
	}
	if e := ir.Check(api.Module{Procs: []api.Proc{{Regs: 1, Blocks: []api.Block{Ret(0)}}, p}}); e != api.OK {
		t.Fatalf("not valid: %v", e)
	}
	l, slots, e := alloc.Assign(p, alloc.MaxRegs)
	if len(l) != ir.MaxRegs || e != api.OK || slots < ir.MaxRegs/2 || slots > ir.MaxRegs-alloc.MaxRegs {
		t.Errorf("%d seats, %d slots, %v", len(l), slots, e)
	}
	last := ir.MaxBlocks*11 - 1
	for r, want := range map[int][2]int{0: {0, last}, 1: {0, last}, 4000: {3, last}, 7999: {0, last}} {
		if from, to, is := alloc.Range(p, r); !is || [2]int{from, to} != want {
			t.Errorf("register %d: %d, %d, %v", r, from, to, is)
		}
	}
}
