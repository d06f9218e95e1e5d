package alias_test

import (
	"math"
	"reflect"
	"slices"
	"testing"

	"rushlight/alias"
	"rushlight/api"
	"rushlight/ir"
	. "rushlight/sketch"
)

// module is a module of a main with 10 registers, two objects (0 and 1) and these blocks, and of procedures that may be called: number 1 has
// two parameters, number 2 is Void. It has two globals (2 and 3); everything else is 4.
func module(l ...api.Block) api.Module {
	m := WithGlobals(Main(l...), 8, 8)
	m.Procs[0].Objects = Slots(8, 8)
	m.Procs = append(m.Procs, api.Proc{Params: 2, Regs: 3, Blocks: []api.Block{Ret(0)}}, api.Proc{Void: true, Blocks: []api.Block{Ret(None)}})
	return m
}

// view is a view of a module's main, which is valid.
func view(t *testing.T, m api.Module) *alias.View {
	t.Helper()
	if e := ir.Check(m); e != api.OK {
		t.Fatalf("not valid")
	}
	v, e := alias.New(m, 0)
	if e != api.OK || v == nil {
		t.Fatalf("%v, %v", v, e)
	}
	return v
}

// The example of the chapter.
func TestExample(t *testing.T) {
	v := view(t, module(Ret(0, Frame(0, 0, 0), Frame(1, 0, 4), Store(0, 2, 0, 4), Load(3, 1, 0, 4), Store(0, 2, 4, 4))))
	if v.Meet(Store(0, 2, 0, 4), Load(3, 1, 0, 4)) || !v.Meet(Store(0, 2, 4, 4), Load(3, 1, 0, 4)) {
		t.Errorf("the example")
	}
}

// Promise 21.1: into what each operation lets registers point.
func TestThings(t *testing.T) {
	everywhere := []int{2, 3, 4}
	for name, x := range map[string]struct {
		ins  []api.Ins
		r    int
		want []int
	}{
		"not set":                            {nil, 0, nil},
		"a constant":                         {[]api.Ins{Const(0, api.Base)}, 0, nil},
		"an object":                          {[]api.Ins{Frame(0, 1, 4)}, 0, []int{1}},
		"a global":                           {[]api.Ins{Global(0, 1, 4)}, 0, []int{3}},
		"a copy":                             {[]api.Ins{Frame(0, 1, 0), Copy(1, 0)}, 1, []int{1}},
		"a copy ahead of what is copied":     {[]api.Ins{Copy(1, 0), Frame(0, 1, 0)}, 1, []int{1}},
		"copies in a cycle":                  {[]api.Ins{Copy(1, 0), Copy(2, 1), Copy(0, 2), Frame(1, 0, 0), Global(2, 0, 0)}, 0, []int{0, 2}},
		"several":                            {[]api.Ins{Global(0, 1, 0), Frame(0, 1, 0), Frame(0, 0, 0), Frame(0, 0, 4)}, 0, []int{0, 1, 3}},
		"a sum":                              {[]api.Ins{Frame(0, 1, 0), Global(1, 0, 0), Bin(api.FnAdd, 2, 0, 1)}, 2, []int{1, 2}},
		"a sum with a number":                {[]api.Ins{Frame(0, 1, 0), Bin(api.FnAdd, 2, 1, 0)}, 2, []int{1}},
		"a difference":                       {[]api.Ins{Frame(0, 1, 0), Global(1, 0, 0), Bin(api.FnSub, 2, 0, 1)}, 2, []int{1, 2}},
		"a product":                          {[]api.Ins{Frame(0, 1, 0), Bin(api.FnMul, 2, 0, 0)}, 2, nil},
		"a comparison":                       {[]api.Ins{Frame(0, 1, 0), Bin(api.FnEq, 2, 0, 0)}, 2, nil},
		"bits":                               {[]api.Ins{Frame(0, 1, 0), Bin(api.FnAnd, 2, 0, 0)}, 2, nil},
		"its contrary":                       {[]api.Ins{Frame(0, 1, 0), Un(api.FnNeg, 2, 0)}, 2, nil},
		"an input":                           {[]api.Ins{In(0)}, 0, nil},
		"a word":                             {[]api.Ins{Load(0, 1, 0, 4)}, 0, everywhere},
		"a byte":                             {[]api.Ins{Load(0, 1, 0, 1)}, 0, nil},
		"a word where an object has escaped": {[]api.Ins{Load(0, 1, 0, 4), Frame(2, 1, 0), Store(3, 2, 0, 4)}, 0, []int{1, 2, 3, 4}},
		"an answer":                          {[]api.Ins{Call(0, 1, 5, 6)}, 0, everywhere},
		"an answer where one has escaped":    {[]api.Ins{Frame(5, 0, 0), Call(0, 1, 5, 6)}, 0, []int{0, 2, 3, 4}},
		"a call without an answer":           {[]api.Ins{Frame(0, 0, 0), Call(None, 2)}, 0, []int{0}},
		"an argument":                        {[]api.Ins{Call(0, 1, 5, 6)}, 5, nil},
		"beyond all":                         {[]api.Ins{Frame(0, 1, 0)}, 10, nil},
		"far beyond":                         {[]api.Ins{Frame(0, 1, 0)}, math.MaxInt, nil},
		"none":                               {[]api.Ins{Frame(0, 1, 0)}, None, nil},
		"far ahead":                          {[]api.Ins{Frame(0, 1, 0)}, math.MinInt, nil},
	} {
		if got := view(t, module(Ret(9, x.ins...))).Things(x.r); !slices.Equal(got, x.want) {
			t.Errorf("%s: %v", name, got)
		}
		if got := view(t, module(Ret(9), Ret(9, x.ins...))).Things(x.r); !slices.Equal(got, x.want) {
			t.Errorf("%s, in a block that is not reached: %v", name, got)
		}
	}
}

// Promise 21.1: what has escaped.
func TestOut(t *testing.T) {
	for name, x := range map[string]struct {
		block api.Block
		want  []int
	}{
		"nothing":                  {Ret(9, Frame(0, 0, 0), Load(1, 0, 0, 4)), nil},
		"stored as a word":         {Ret(9, Frame(0, 0, 0), Store(1, 0, 0, 4)), []int{0}},
		"stored as a byte":         {Ret(9, Frame(0, 0, 0), Store(1, 0, 0, 1)), nil},
		"stored at":                {Ret(9, Frame(0, 0, 0), Store(0, 1, 0, 4)), nil},
		"an argument":              {Ret(9, Frame(0, 1, 0), Call(3, 1, 2, 0)), []int{1}},
		"the first argument":       {Ret(9, Frame(0, 1, 0), Call(3, 1, 0, 2)), []int{1}},
		"answered":                 {Ret(0, Frame(0, 1, 0)), []int{1}},
		"asked for":                {Branch(0, 0, 0, Frame(0, 1, 0)), nil},
		"put out":                  {Ret(9, Frame(0, 1, 0), Out(0)), nil},
		"stored, of what it loads": {Ret(9, Frame(0, 0, 0), Store(1, 0, 0, 4), Load(2, 1, 0, 4), Frame(2, 1, 0), Store(1, 2, 0, 4)), []int{0, 1}},
		"a copy":                   {Ret(9, Frame(0, 0, 0), Copy(1, 0), Store(2, 1, 0, 4)), []int{0}},
	} {
		want := slices.Concat(x.want, []int{2, 3, 4})
		if got := view(t, module(x.block)).Out(); !slices.Equal(got, want) {
			t.Errorf("%s: %v", name, got)
		}
	}
	m := Main(Ret(0))
	if got := view(t, m).Out(); !slices.Equal(got, []int{0}) {
		t.Errorf("without globals and objects: %v", got)
	}
}

// Promise 21.1: the parameters of a procedure.
func TestParams(t *testing.T) {
	m := module(Ret(0))
	m.Procs[1] = api.Proc{Params: 2, Regs: 4, Void: true, Objects: Slots(4), Blocks: []api.Block{Ret(None, Frame(1, 0, 4), Copy(2, 0), Global(3, 1, 8))}}
	v, e := alias.New(m, 1)
	if e != api.OK {
		t.Fatalf("%v", e)
	}
	for r, want := range [][]int{{1, 2, 3}, {0, 1, 2, 3}, {1, 2, 3}, {2}, nil} {
		if got := v.Things(r); !slices.Equal(got, want) {
			t.Errorf("register %d: %v", r, got)
		}
		if _, _, is := v.Exact(r); is != (r == 3) {
			t.Errorf("register %d: exact %v", r, is)
		}
	}
	if !v.Meet(Store(1, 0, 0, 4), Load(0, 3, 0, 4)) {
		t.Errorf("a parameter that is set once is taken for exact")
	}
}

// Promise 21.1: exact registers.
func TestExact(t *testing.T) {
	for name, x := range map[string]struct {
		ins        []api.Ins
		thing, off int
		is         bool
	}{
		"not set":              {nil, 0, 0, false},
		"an object":            {[]api.Ins{Frame(0, 1, 4)}, 1, 4, true},
		"a global":             {[]api.Ins{Global(0, 1, -8)}, 3, -8, true},
		"twice the same":       {[]api.Ins{Frame(0, 1, 4), Frame(0, 1, 4)}, 0, 0, false},
		"another one":          {[]api.Ins{Frame(0, 1, 4), Frame(1, 1, 4), Copy(2, 0)}, 1, 4, true},
		"a copy":               {[]api.Ins{Frame(1, 1, 4), Copy(0, 1)}, 0, 0, false},
		"set by an input too":  {[]api.Ins{Frame(0, 1, 4), In(0)}, 0, 0, false},
		"set by an answer too": {[]api.Ins{Call(0, 1, 2, 3), Frame(0, 1, 4)}, 0, 0, false},
		"set by a load too":    {[]api.Ins{Frame(0, 1, 4), Load(0, 0, 0, 1)}, 0, 0, false},
		"a number":             {[]api.Ins{Const(0, 7)}, 0, 0, false},
		"stored at and put out, which sets nothing": {[]api.Ins{Frame(0, 1, 4), Store(0, 0, 0, 4), Out(0), Mark(), Call(None, 2)}, 1, 4, true},
	} {
		v := view(t, module(Ret(9), Ret(9, x.ins...)))
		if thing, off, is := v.Exact(0); thing != x.thing || off != x.off || is != x.is {
			t.Errorf("%s: %d, %d, %v", name, thing, off, is)
		}
		for _, r := range []int{None, 10, math.MaxInt, math.MinInt} {
			if thing, off, is := v.Exact(r); thing != 0 || off != 0 || is {
				t.Errorf("%s, register %d: %d, %d, %v", name, r, thing, off, is)
			}
		}
	}
	v := view(t, module(Branch(1, 1, 0, Frame(0, 1, 4)), Ret(9, Frame(0, 1, 4))))
	if _, _, is := v.Exact(0); is {
		t.Errorf("set in two blocks")
	}
}

// Promises 21.2 and 21.3: which accesses overlap. Registers 0 and 1 are object 0 and 4 behind it, 2 is object 1, 3 global 0 and 4 behind it, 4 is either object,
// 5 what was loaded, 6 a number, 7 global 1.
func TestMeet(t *testing.T) {
	v := view(t, module(Ret(9, Frame(0, 0, 0), Frame(1, 0, 4), Frame(2, 1, 0), Global(3, 0, 4), Frame(4, 0, 0), Frame(4, 1, 0), Load(5, 9, 0, 4), Const(6, 5), Global(7, 1, 0))))
	for name, x := range map[string]struct {
		a, b api.Ins
		want bool
	}{
		"the same word":                    {Store(0, 9, 0, 4), Load(9, 0, 0, 4), true},
		"loads":                            {Load(8, 0, 0, 4), Load(9, 0, 0, 4), true},
		"stores":                           {Store(0, 9, 0, 4), Store(0, 9, 0, 4), true},
		"the next word":                    {Store(0, 9, 0, 4), Load(9, 0, 4, 4), false},
		"the next word by the other one":   {Store(0, 9, 4, 4), Load(9, 1, 0, 4), true},
		"ahead by the other one":           {Store(0, 9, 0, 4), Load(9, 1, -4, 4), true},
		"a byte of a word":                 {Store(0, 9, 3, 1), Load(9, 0, 0, 4), true},
		"the byte behind a word":           {Store(0, 9, 4, 1), Load(9, 0, 0, 4), false},
		"the byte ahead of a word":         {Store(0, 9, -1, 1), Load(9, 0, 0, 4), false},
		"the same byte":                    {Store(0, 9, 1, 1), Load(9, 0, 1, 1), true},
		"the next byte":                    {Store(0, 9, 1, 1), Load(9, 0, 2, 1), false},
		"words that lie askew":             {Store(0, 9, 0, 4), Load(9, 0, 3, 4), true},
		"another object":                   {Store(0, 9, 0, 4), Load(9, 2, 0, 4), false},
		"beyond the end of an object":      {Store(0, 9, 8, 4), Load(9, 2, 0, 4), false},
		"a global":                         {Store(0, 9, 0, 4), Load(9, 3, 0, 4), false},
		"a global, as far behind":          {Store(3, 9, -4, 4), Load(9, 3, 0, 4), false},
		"either object":                    {Store(0, 9, 0, 4), Load(9, 4, 0, 4), true},
		"either object, elsewhere":         {Store(0, 9, 0, 1), Load(9, 4, 20, 1), true},
		"either object, itself elsewhere":  {Store(4, 9, 0, 1), Load(9, 4, 20, 1), true},
		"either object and a global":       {Store(3, 9, 0, 4), Load(9, 4, 0, 4), false},
		"what was loaded and an object":    {Store(0, 9, 0, 4), Load(9, 5, 0, 4), false},
		"what was loaded and a global":     {Store(7, 9, 0, 4), Load(9, 5, 0, 4), true},
		"what was loaded and one of both":  {Store(4, 9, 0, 4), Load(9, 5, 0, 4), false},
		"a number itself":                  {Store(6, 9, 0, 4), Load(9, 6, 0, 4), false},
		"a number and what was loaded":     {Store(6, 9, 0, 4), Load(9, 5, 0, 4), false},
		"what is not set":                  {Store(8, 9, 0, 4), Load(9, 8, 0, 4), false},
		"no load or store":                 {Copy(9, 0), Load(9, 0, 0, 4), false},
		"an output":                        {Store(0, 9, 0, 4), Out(0), false},
		"the address itself":               {Frame(0, 0, 0), Load(9, 0, 0, 4), false},
		"a call":                           {Call(9, 1, 0, 0), Load(9, 3, 0, 4), false},
		"a register that does not exist":   {Store(0, 9, 0, 4), Load(9, 10, 0, 4), false},
		"none":                             {Store(None, 9, 0, 4), Load(9, None, 0, 4), false},
		"a register that is far off":       {Store(math.MinInt, 9, 0, 4), Load(9, math.MaxInt, 0, 4), false},
		"an operation that does not exist": {api.Ins{Op: 99, Size: 4}, api.Ins{Op: -1, Size: 4}, false},
		"nothing":                          {api.Ins{}, api.Ins{}, false},
	} {
		if v.Meet(x.a, x.b) != x.want || v.Meet(x.b, x.a) != x.want {
			t.Errorf("%s: %v, %v", name, v.Meet(x.a, x.b), v.Meet(x.b, x.a))
		}
	}
}

// Promise 21.1: which procedures there are.
func TestNew(t *testing.T) {
	for _, n := range []int{-1, 3, math.MaxInt, math.MinInt} {
		if v, e := alias.New(module(Ret(0)), n); v != nil || e != api.ErrNone {
			t.Errorf("procedure %d: %v, %v", n, v, e)
		}
	}
	if v, e := alias.New(api.Module{}, 0); v != nil || e != api.ErrNone {
		t.Errorf("without procedures: %v, %v", v, e)
	}
	for n := range 3 {
		if v, e := alias.New(module(Ret(0)), n); v == nil || e != api.OK {
			t.Errorf("procedure %d: %v, %v", n, v, e)
		}
	}
}

// Promise 21.1: a nil View, and one that New did not make.
func TestNoView(t *testing.T) {
	for _, v := range []*alias.View{nil, {}} {
		if l := v.Things(0); len(l) > 0 {
			t.Errorf("Things: %v", l)
		}
		if l := v.Out(); len(l) > 0 {
			t.Errorf("Out: %v", l)
		}
		if thing, off, is := v.Exact(0); thing != 0 || off != 0 || is {
			t.Errorf("Exact: %d, %d, %v", thing, off, is)
		}
		if v.Meet(Load(0, 0, 0, 4), Load(0, 0, 0, 4)) {
			t.Errorf("Meet")
		}
	}
}

// Rule R3: nothing is changed, and what is answered is the caller's.
func TestShared(t *testing.T) {
	m := module(Ret(0, Frame(0, 1, 0), Copy(1, 0), Call(2, 1, 0, 3)))
	v := view(t, m)
	clear(v.Things(0))
	clear(v.Out())
	m.Procs[0].Blocks[0].Ins[0] = Global(0, 0, 0)
	m.Procs[0].Blocks[0].Ins[2].Args[0] = 9
	if thing, _, is := v.Exact(0); !slices.Equal(v.Things(0), []int{1}) || !slices.Equal(v.Out(), []int{1, 2, 3, 4}) || !is || thing != 1 {
		t.Errorf("%v, %v", v.Things(0), v.Out())
	}
	m = module(Ret(0, Frame(0, 1, 0), Copy(1, 0), Call(2, 1, 0, 3)))
	view(t, m)
	if !reflect.DeepEqual(m, module(Ret(0, Frame(0, 1, 0), Copy(1, 0), Call(2, 1, 0, 3)))) {
		t.Errorf("changed: %v", m)
	}
}

// Rule R1: what is not valid makes no panic.
func TestInvalid(t *testing.T) {
	odd := []int{math.MinInt, -1, 0, 1, 9, 700, math.MaxInt}
	for _, x := range odd {
		for _, y := range odd {
			for op := range api.IrMark + 2 {
				i := api.Ins{Op: op, D: x, A: y, B: x, Fn: api.FnAdd, Obj: y, Off: x, Size: 4, Args: odd}
				p := api.Proc{Params: x, Regs: min(y, 1<<40), Objects: Slots(4), Blocks: []api.Block{{Ins: []api.Ins{i, i}, End: api.EndRet, A: y}}}
				m := api.Module{Globals: Slots(4), Procs: []api.Proc{p}}
				v, _ := alias.New(m, 0)
				v.Things(x)
				v.Exact(x)
				v.Meet(i, i)
			}
		}
	}
	p := api.Proc{Regs: 1, Objects: make([]api.Slot, 2000), Blocks: []api.Block{Ret(0, Frame(0, 1500, 0), Store(0, 0, 0, 4))}}
	v, _ := alias.New(api.Module{Globals: make([]api.Slot, 2000), Procs: []api.Proc{p}}, 0)
	v.Out()
}
