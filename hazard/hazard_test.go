package hazard_test

import (
	"math"
	"reflect"
	"slices"
	"testing"

	"rushlight/api"
	"rushlight/hazard"
	"rushlight/ir"
	. "rushlight/sketch"
)

// module is a module of a main with 10 registers, two objects and these blocks, and of procedures that may be called: number 1 has a parameter,
// number 2 is Void. It has two globals.
func module(l ...api.Block) api.Module {
	m := WithGlobals(Main(l...), 8, 8)
	m.Procs[0].Objects = Slots(8, 8)
	m.Procs = append(m.Procs, api.Proc{Params: 1, Regs: 1, Blocks: []api.Block{Ret(0)}}, api.Proc{Void: true, Blocks: []api.Block{Ret(None)}})
	return m
}

// list is registers of which those are spilled.
func list(spilled ...int) []bool {
	l := make([]bool, 10)
	for _, r := range spilled {
		l[r] = true
	}
	return l
}

// find is the hazards of a module's main, which is valid.
func find(t *testing.T, m api.Module, spilled []bool) [][]int {
	t.Helper()
	if e := ir.Check(m); e != api.OK {
		t.Fatalf("not valid")
	}
	l, e := hazard.Find(m, 0, spilled)
	if e != api.OK || len(l) != len(m.Procs[0].Blocks) {
		t.Fatalf("%v, %v", l, e)
	}
	return l
}

// same reports whether hazards are those that are wanted.
func same(got [][]int, want ...[]int) bool { return slices.EqualFunc(got, want, slices.Equal) }

// The example of the chapter.
func TestExample(t *testing.T) {
	if l := find(t, module(Ret(9, Global(0, 0, 0), Load(1, 0, 0, 4), Store(0, 1, 0, 4))), nil); !same(l, []int{2}) {
		t.Errorf("%v", l)
	}
	if l := find(t, module(Ret(9, Global(0, 0, 0), Load(1, 0, 0, 4), Mark(), Store(0, 1, 0, 4))), nil); !same(l, nil) {
		t.Errorf("with a mark: %v", l)
	}
}

// Promise 22.1: loads and stores in one block. Registers 0 and 1 are global 0 and 4 behind it, 2 is global 1, 3 object 0, 4 what was loaded, 5 a number.
func TestStores(t *testing.T) {
	head := []api.Ins{Global(0, 0, 0), Global(1, 0, 4), Global(2, 1, 0), Frame(3, 0, 0), Load(4, 3, 4, 4), Const(5, 1), Mark()}
	for name, x := range map[string]struct {
		ins  []api.Ins
		want []int // behind the head
	}{
		"nothing":                           {nil, nil},
		"a load":                            {[]api.Ins{Load(6, 0, 0, 4)}, nil},
		"a store":                           {[]api.Ins{Store(0, 5, 0, 4)}, nil},
		"a store and a load":                {[]api.Ins{Store(0, 5, 0, 4), Load(6, 0, 0, 4)}, nil},
		"a load and a store":                {[]api.Ins{Load(6, 0, 0, 4), Store(0, 5, 0, 4)}, []int{1}},
		"two stores behind a load":          {[]api.Ins{Load(6, 0, 0, 4), Store(0, 5, 0, 4), Store(0, 5, 0, 4)}, []int{1, 2}},
		"a store ahead does not help":       {[]api.Ins{Store(0, 5, 0, 4), Load(6, 0, 0, 4), Store(0, 5, 0, 4)}, []int{2}},
		"far behind":                        {[]api.Ins{Load(6, 0, 0, 4), Const(7, 1), Bin(api.FnAdd, 8, 6, 7), In(9), Out(8), Store(0, 8, 0, 4)}, []int{5}},
		"the next word":                     {[]api.Ins{Load(6, 0, 0, 4), Store(1, 5, 0, 4)}, nil},
		"the same word by another register": {[]api.Ins{Load(6, 0, 4, 4), Store(1, 5, 0, 4)}, []int{1}},
		"a byte of a word":                  {[]api.Ins{Load(6, 0, 0, 4), Store(0, 5, 3, 1)}, []int{1}},
		"the byte behind":                   {[]api.Ins{Load(6, 0, 0, 4), Store(0, 5, 4, 1)}, nil},
		"a word around a byte":              {[]api.Ins{Load(6, 0, 3, 1), Store(0, 5, 0, 4)}, []int{1}},
		"a word behind a byte":              {[]api.Ins{Load(6, 0, 3, 1), Store(0, 5, 4, 4)}, nil},
		"words askew":                       {[]api.Ins{Load(6, 0, 0, 4), Store(0, 5, -3, 4)}, []int{1}},
		"another global":                    {[]api.Ins{Load(6, 0, 0, 4), Store(2, 5, 0, 4)}, nil},
		"an object":                         {[]api.Ins{Load(6, 3, 0, 4), Store(0, 5, 0, 4)}, nil},
		"somewhere, then a global":          {[]api.Ins{Load(6, 4, 0, 4), Store(0, 5, 0, 4)}, []int{1}},
		"a global, then somewhere":          {[]api.Ins{Load(6, 0, 0, 4), Store(4, 5, 0, 4)}, []int{1}},
		"somewhere, then somewhere":         {[]api.Ins{Load(6, 4, 0, 1), Store(4, 5, 8, 4)}, []int{1}},
		"somewhere, then an object":         {[]api.Ins{Load(6, 4, 0, 4), Store(3, 5, 0, 4)}, nil},
		"an object, then somewhere":         {[]api.Ins{Load(6, 3, 0, 4), Store(4, 5, 0, 4)}, nil},
		"at a number":                       {[]api.Ins{Load(6, 5, 0, 4), Store(5, 5, 0, 4)}, nil},
		"the second of two loads":           {[]api.Ins{Load(6, 2, 0, 4), Load(6, 0, 0, 4), Store(0, 5, 0, 4)}, []int{2}},
		"the first of two loads":            {[]api.Ins{Load(6, 0, 0, 4), Load(6, 2, 0, 4), Store(0, 5, 0, 4)}, []int{2}},
		"a mark between":                    {[]api.Ins{Load(6, 0, 0, 4), Mark(), Store(0, 5, 0, 4)}, nil},
		"a mark ahead":                      {[]api.Ins{Mark(), Load(6, 0, 0, 4), Store(0, 5, 0, 4)}, []int{2}},
		"a mark behind":                     {[]api.Ins{Load(6, 0, 0, 4), Store(0, 5, 0, 4), Mark()}, []int{1}},
		"a call between":                    {[]api.Ins{Load(6, 0, 0, 4), Call(None, 2), Store(0, 5, 0, 4)}, nil},
		"a mark, and a load again":          {[]api.Ins{Load(6, 0, 0, 4), Mark(), Load(6, 2, 0, 4), Store(0, 5, 0, 4), Store(2, 5, 0, 4)}, []int{4}},
		"an output and an input between":    {[]api.Ins{Load(6, 0, 0, 4), Out(5), In(7), Store(0, 5, 0, 4)}, []int{3}},
		"Log changes nothing":               {[]api.Ins{Log(Load(6, 0, 0, 4)), Log(Store(0, 5, 0, 4)), Log(Store(2, 5, 0, 4))}, []int{1}},
	} {
		var want []int
		for _, k := range x.want {
			want = append(want, k+len(head))
		}
		ins := slices.Concat(head, x.ins)
		if l := find(t, module(Ret(9, ins...)), nil); !same(l, want) {
			t.Errorf("%s: %v", name, l)
		}
		if l := find(t, module(Ret(9), Ret(9, ins...)), nil); !same(l, nil, want) {
			t.Errorf("%s, in a block that is not reached: %v", name, l)
		}
	}
}

// Promise 22.1: spilled registers in one block. Registers 0 to 4 are spilled.
func TestSpilled(t *testing.T) {
	for name, x := range map[string]struct {
		ins  []api.Ins
		want []int
	}{
		"set":                                 {[]api.Ins{Const(0, 1), Const(0, 2)}, nil},
		"set and read":                        {[]api.Ins{Const(0, 1), Out(0)}, nil},
		"read and set":                        {[]api.Ins{Out(0), Const(0, 1)}, []int{1}},
		"read and set, but not spilled":       {[]api.Ins{Out(5), Const(5, 1)}, nil},
		"beyond the end":                      {[]api.Ins{Out(9), Const(9, 1)}, nil},
		"read, and another one set":           {[]api.Ins{Out(0), Const(1, 1)}, nil},
		"a copy to itself":                    {[]api.Ins{Copy(0, 0)}, []int{0}},
		"a sum, set to the first operand":     {[]api.Ins{Bin(api.FnAdd, 0, 0, 1)}, []int{0}},
		"a sum, set to the second one":        {[]api.Ins{Bin(api.FnAdd, 1, 0, 1)}, []int{0}},
		"a sum set to another one":            {[]api.Ins{Bin(api.FnAdd, 2, 0, 1)}, nil},
		"a function set to its operand":       {[]api.Ins{Un(api.FnNeg, 0, 0)}, []int{0}},
		"a load through the one that it sets": {[]api.Ins{Load(0, 0, 0, 4)}, []int{0}},
		"a load into one that was read":       {[]api.Ins{Out(0), Load(0, 1, 0, 4)}, []int{1}},
		"an address into one that was read":   {[]api.Ins{Out(0), Frame(0, 0, 0), Global(0, 0, 0)}, []int{1, 2}},
		"an input into one that was read":     {[]api.Ins{Out(0), In(0)}, []int{1}},
		"a store of it":                       {[]api.Ins{Store(1, 0, 0, 4), Const(0, 1), Const(1, 1)}, []int{1, 2}},
		"a store through it is none":          {[]api.Ins{Out(0), Global(1, 0, 0), Store(1, 0, 0, 4)}, nil},
		"an answer into one that was read":    {[]api.Ins{Out(0), Call(0, 1, 5)}, nil},
		"an answer into its argument":         {[]api.Ins{Call(0, 1, 0)}, nil},
		"an argument, then set":               {[]api.Ins{Call(5, 1, 0), Const(0, 1)}, nil},
		"an answer, then set":                 {[]api.Ins{Call(0, 1, 5), Const(0, 1)}, nil},
		"an answer read, then set":            {[]api.Ins{Call(0, 1, 5), Out(0), Const(0, 1)}, []int{2}},
		"a mark between":                      {[]api.Ins{Out(0), Mark(), Const(0, 1)}, nil},
		"a mark elsewhere":                    {[]api.Ins{Mark(), Out(0), Const(0, 1), Mark()}, []int{2}},
		"set often":                           {[]api.Ins{Out(0), Const(0, 1), Const(0, 1), Const(1, 1)}, []int{1, 2}},
		"set first":                           {[]api.Ins{Const(0, 1), Out(0), Const(0, 1)}, []int{2}},
		"memory and registers are apart":      {[]api.Ins{Global(6, 0, 0), Load(5, 6, 0, 4), Const(5, 1), Out(0), Store(6, 0, 0, 4)}, []int{4}},
		"both":                                {[]api.Ins{Global(0, 0, 0), Load(1, 0, 0, 4), Store(0, 1, 0, 4), Copy(0, 1)}, []int{2, 3}},
	} {
		spilled := list(0, 1, 2, 3, 4)[:7]
		if l := find(t, module(Ret(9, x.ins...)), spilled); !same(l, x.want) {
			t.Errorf("%s: %v", name, l)
		}
		if l := find(t, module(Ret(9, x.ins...)), append(spilled, make([]bool, 100)...)); !same(l, x.want) {
			t.Errorf("%s, with a list that is too long: %v", name, l)
		}
	}
	if l := find(t, module(Ret(9, Out(0), Const(0, 1))), nil); !same(l, nil) {
		t.Errorf("without a list: %v", l)
	}
}

// Promise 22.1: paths through several blocks. Register 0 is spilled.
func TestPaths(t *testing.T) {
	read, write := Out(0), Const(0, 1)
	for name, x := range map[string]struct {
		blocks []api.Block
		want   [][]int
	}{
		"on":                             {[]api.Block{Jump(1, read), Ret(9, write)}, [][]int{nil, {0}}},
		"back":                           {[]api.Block{Jump(1, write), Branch(9, 0, 2, read), Ret(9)}, [][]int{{0}, nil, nil}},
		"a block to itself":              {[]api.Block{Branch(9, 0, 1, write, read), Ret(9)}, [][]int{{0}, nil}},
		"a mark in a block to itself":    {[]api.Block{Branch(9, 0, 1, Mark(), write, read), Ret(9)}, [][]int{nil, nil}},
		"one of two ways":                {[]api.Block{Branch(9, 1, 2), Jump(3, read), Jump(3), Ret(9, write)}, [][]int{nil, nil, nil, {0}}},
		"a mark on one of two ways":      {[]api.Block{Branch(9, 1, 2, read), Jump(3, Mark()), Jump(3), Ret(9, write)}, [][]int{nil, nil, nil, {0}}},
		"marks on both":                  {[]api.Block{Branch(9, 1, 2, read), Jump(3, Mark()), Jump(3, Call(None, 2)), Ret(9, write)}, [][]int{nil, nil, nil, nil}},
		"through blocks":                 {[]api.Block{Jump(1, read), Jump(2), Jump(3, Out(9)), Ret(9, write)}, [][]int{nil, nil, nil, {0}}},
		"the condition of a branch":      {[]api.Block{Branch(0, 1, 2), Ret(9, write), Ret(9, write, write)}, [][]int{nil, {0}, {0, 1}}},
		"that condition behind a mark":   {[]api.Block{Branch(0, 1, 2, Mark()), Ret(9, write), Ret(9, Mark(), write)}, [][]int{nil, {0}, nil}},
		"that condition in a loop":       {[]api.Block{Branch(0, 0, 1, write), Ret(9)}, [][]int{{0}, nil}},
		"what is answered":               {[]api.Block{Ret(0, write), Ret(9, write)}, [][]int{nil, nil}},
		"another condition":              {[]api.Block{Branch(9, 1, 2), Ret(9, write), Ret(9, write)}, [][]int{nil, nil, nil}},
		"from a block that is not":       {[]api.Block{Jump(1), Ret(9, write), Jump(1, read)}, [][]int{nil, {0}, nil}},
		"through blocks that are not":    {[]api.Block{Jump(1), Ret(9, write), Jump(3, read), Jump(1, write)}, [][]int{nil, {0}, nil, {0}}},
		"blocks that are not, in a loop": {[]api.Block{Ret(9), Jump(2, write), Jump(1, read)}, [][]int{nil, {0}, nil}},
		"backward through many blocks":   {[]api.Block{Jump(4), Ret(9, write), Jump(1), Jump(2), Jump(3, read)}, [][]int{nil, {0}, nil, nil, nil}},
		"two loops":                      {[]api.Block{Jump(1, write), Branch(9, 1, 2, write), Branch(9, 0, 3, read), Ret(9, write)}, [][]int{{0}, {0}, nil, {0}}},
		"two loops with a mark between":  {[]api.Block{Jump(1, write), Branch(9, 1, 2, write), Branch(9, 0, 3, read), Ret(9, Mark(), write)}, [][]int{{0}, {0}, nil, nil}},
		"an inner loop with a mark":      {[]api.Block{Jump(1, write), Branch(9, 1, 2, Mark(), write), Branch(9, 0, 3, read), Ret(9, write)}, [][]int{{0}, nil, nil, {0}}},
	} {
		if l := find(t, module(x.blocks...), list(0)); !same(l, x.want...) {
			t.Errorf("%s: %v", name, l)
		}
	}
}

// Promise 22.1: which instructions are writes.
func TestWrites(t *testing.T) {
	spilled := []bool{false, true, false, true}
	for r, want := range map[int]bool{0: false, 1: true, 2: false, 3: true, 4: false, 9: false, math.MaxInt: false, None: false, math.MinInt: false} {
		for _, i := range []api.Ins{Const(r, 1), Copy(r, 1), Bin(api.FnAdd, r, 1, 1), Un(api.FnNeg, r, 1), Load(r, 1, 0, 4), Frame(r, 0, 0), Global(r, 0, 0), Call(r, 0, 1), In(r), Log(In(r))} {
			if got := hazard.Writes(i, spilled); got != want {
				t.Errorf("%v: %v", i, got)
			}
			if hazard.Writes(i, nil) {
				t.Errorf("%v, without a list", i)
			}
		}
		if !hazard.Writes(Store(r, r, 0, 4), spilled) || !hazard.Writes(Store(r, r, 0, 1), nil) {
			t.Errorf("a store through %d", r)
		}
	}
	for _, i := range []api.Ins{Out(1), Mark(), {}, {Op: 99, D: 1}, {Op: -1, D: 1}, {Op: api.IrOut, D: 1, A: 1}, {Op: api.IrMark, D: 1}} {
		if hazard.Writes(i, spilled) {
			t.Errorf("%v", i)
		}
	}
}

// Promise 22.1: which procedures there are.
func TestNone(t *testing.T) {
	for _, n := range []int{-1, 3, math.MaxInt, math.MinInt} {
		if l, e := hazard.Find(module(Ret(0)), n, list(0)); len(l) > 0 || e != api.ErrNone {
			t.Errorf("procedure %d: %v, %v", n, l, e)
		}
	}
	if l, e := hazard.Find(api.Module{}, 0, nil); len(l) > 0 || e != api.ErrNone {
		t.Errorf("without procedures: %v, %v", l, e)
	}
	m := module(Ret(9))
	m.Procs[1].Blocks = []api.Block{Jump(1, Out(0)), Ret(0, Const(0, 1))}
	if l, e := hazard.Find(m, 1, []bool{true}); e != api.OK || !same(l, nil, []int{0}) {
		t.Errorf("another procedure: %v, %v", l, e)
	}
}

// Rule R3: nothing is changed.
func TestShared(t *testing.T) {
	made := func() api.Module {
		return module(Branch(0, 0, 1, Global(0, 0, 0), Load(1, 0, 0, 4), Log(Store(0, 1, 0, 4)), Call(2, 1, 0)), Ret(9))
	}
	m, spilled := made(), list(0, 1)
	find(t, m, spilled)
	if !reflect.DeepEqual(m, made()) || !slices.Equal(spilled, list(0, 1)) {
		t.Errorf("changed: %v, %v", m, spilled)
	}
}

// Rule R1: what is not valid makes no panic.
func TestInvalid(t *testing.T) {
	odd := []int{math.MinInt, -1, 0, 1, 9, 700, math.MaxInt}
	for _, x := range odd {
		for _, y := range odd {
			for op := range api.IrMark + 2 {
				i := api.Ins{Op: op, D: x, A: y, B: x, Fn: api.FnAdd, Obj: y, Off: x, Size: 4, Args: odd}
				blocks := []api.Block{{Ins: []api.Ins{i, i}, End: api.EndRet, A: y}, {Ins: []api.Ins{i}, End: api.EndBranch, A: y, To: x, Else: y}, {End: x, A: x, To: y}}
				p := api.Proc{Params: x, Regs: min(y, 1<<40), Objects: Slots(4), Blocks: blocks}
				hazard.Find(api.Module{Globals: Slots(4), Procs: []api.Proc{p}}, 0, make([]bool, 10))
				hazard.Find(api.Module{Procs: []api.Proc{p}}, 0, slices.Repeat([]bool{true}, 9000))
				hazard.Writes(i, []bool{true, true})
			}
		}
	}
}
