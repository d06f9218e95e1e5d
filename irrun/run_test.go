package irrun_test

import (
	"math"
	"slices"
	"testing"

	"rushlight/api"
	"rushlight/ir"
	"rushlight/irrun"
	"rushlight/word"
)

const none = api.None

// ins is an instruction with these registers.
func ins(op, d, a, b int) api.Ins { return api.Ins{Op: op, D: d, A: a, B: b} }

func constant(d int, n uint32) api.Ins {
	i := ins(api.IrConst, d, none, none)
	i.Num = n
	return i
}

func binary(fn, d, a, b int) api.Ins {
	i := ins(api.IrBin, d, a, b)
	i.Fn = fn
	return i
}

func unary(fn, d, a int) api.Ins {
	i := ins(api.IrUn, d, a, none)
	i.Fn = fn
	return i
}

func load(d, a, off, size int) api.Ins {
	i := ins(api.IrLoad, d, a, none)
	i.Off, i.Size = off, size
	return i
}

func store(a, b, off, size int) api.Ins {
	i := ins(api.IrStore, none, a, b)
	i.Off, i.Size = off, size
	return i
}

// where is an IrFrame or IrGlobal.
func where(op, d, obj, off int) api.Ins {
	i := ins(op, d, none, none)
	i.Obj, i.Off = obj, off
	return i
}

func call(d, obj int, args ...int) api.Ins {
	i := ins(api.IrCall, d, none, none)
	i.Obj, i.Args = obj, args
	return i
}

func out(a int) api.Ins { return ins(api.IrOut, none, a, none) }
func in(d int) api.Ins  { return ins(api.IrIn, d, none, none) }

// back is a block that returns a register.
func back(r int, l ...api.Ins) api.Block { return api.Block{Ins: l, End: api.EndRet, A: r} }

func jump(to int, l ...api.Ins) api.Block {
	return api.Block{Ins: l, End: api.EndJump, A: none, To: to}
}

func branch(r, to, other int, l ...api.Ins) api.Block {
	return api.Block{Ins: l, End: api.EndBranch, A: r, To: to, Else: other}
}

// slots is slots of these sizes.
func slots(sizes ...int) []api.Slot {
	var l []api.Slot
	for _, n := range sizes {
		l = append(l, api.Slot{Size: n, Align: 1 + 3*(n%2)})
	}
	return l
}

// mainOf is a module of a main with 10 registers and these blocks.
func mainOf(l ...api.Block) api.Module {
	return api.Module{Procs: []api.Proc{{Regs: 10, Blocks: l}}}
}

// withGlobals gives a module globals of these sizes, filled with 1, 2, 3 and so on.
func withGlobals(m api.Module, sizes ...int) api.Module {
	m.Globals = slots(sizes...)
	n := byte(0)
	for _, size := range sizes {
		d := make([]byte, size)
		for k := range d {
			n++
			d[k] = n
		}
		m.Data = append(m.Data, d)
	}
	return m
}

// list is numbers as words.
func list(l ...int) []uint32 {
	var words []uint32
	for _, n := range l {
		words = append(words, uint32(n))
	}
	return words
}

// equal reports whether two outcomes are the same.
func equal(a, b api.Outcome) bool {
	return slices.Equal(a.Out, b.Out) && a.Ins == b.Ins && a.Exit == b.Exit && a.E == b.E
}

// gives reports as a fault a module whose run, with the inputs 5, 6 and 7, has another outcome.
func gives(t *testing.T, m api.Module, want api.Outcome) {
	t.Helper()
	if got := irrun.Run(m, list(5, 6, 7), 100000); !equal(got, want) {
		t.Errorf("%v: %v, not %v", m, got, want)
	}
}

// The example of the chapter.
func TestExample(t *testing.T) {
	m := mainOf(back(0, in(0), out(0)))
	if got := irrun.Run(m, list(300), 100); !equal(got, api.Outcome{Out: list(300), Ins: 1, Exit: 44}) {
		t.Errorf("%v", got)
	}
}

// Promise 14.2: Fn, held against package word.
func TestFn(t *testing.T) {
	truth := func(holds bool) uint32 {
		if holds {
			return 1
		}
		return 0
	}
	samples := list(0, 1, 2, 3, 7, 31, 32, 33, 255, 256, -1, -2, -7, -31, -32, math.MaxInt32, math.MinInt32, math.MinInt32+1, 0x12345678)
	for _, a := range samples {
		for _, b := range samples {
			x, y := int32(a), int32(b)
			for fn, want := range map[int]uint32{
				api.FnAdd: a + b, api.FnSub: a - b, api.FnMul: a * b, api.FnDiv: word.Div(a, b), api.FnRem: word.Rem(a, b), api.FnAnd: a & b, api.FnOr: a | b, api.FnXor: a ^ b,
				api.FnShl: a << (b & 31), api.FnShr: uint32(x >> (b & 31)), api.FnEq: truth(x == y), api.FnNe: truth(x != y), api.FnLt: truth(x < y), api.FnGt: truth(x > y), api.FnLe: truth(x <= y), api.FnGe: truth(x >= y),
				api.FnNeg: -a, api.FnNot: ^a, api.FnZero: truth(a == 0), 0: 0, -1: 0, api.FnZero + 1: 0, math.MaxInt: 0, math.MinInt: 0,
			} {
				if got := irrun.Fn(fn, a, b); got != want {
					t.Errorf("Fn(%d, %#x, %#x): %#x, not %#x", fn, a, b, got, want)
				}
			}
		}
	}
	minus7, least := uint32(math.MaxUint32-6), uint32(1<<31)
	for k, x := range [][2]uint32{{irrun.Fn(api.FnDiv, minus7, 2), math.MaxUint32 - 2}, {irrun.Fn(api.FnRem, minus7, 2), math.MaxUint32}, {irrun.Fn(api.FnDiv, 7, 0), math.MaxUint32}, {irrun.Fn(api.FnRem, 7, 0), 7}, {irrun.Fn(api.FnDiv, least, math.MaxUint32), least}, {irrun.Fn(api.FnRem, least, math.MaxUint32), 0}, {irrun.Fn(api.FnShr, minus7, 33), math.MaxUint32 - 3}} {
		if x[0] != x[1] {
			t.Errorf("%d: %#x", k, x[0])
		}
	}
}

// Promise 14.2: Place.
func TestPlace(t *testing.T) {
	for _, x := range []struct{ sizes, at []int }{
		{nil, []int{0}}, {[]int{1}, []int{0, 4}}, {[]int{4}, []int{0, 4}}, {[]int{5}, []int{0, 8}}, {[]int{1, 1, 1}, []int{0, 4, 8, 12}}, {[]int{3, 4, 8, 9, 2}, []int{0, 4, 8, 16, 28, 32}}, {[]int{32768, 32767, 1}, []int{0, 32768, 65536, 65540}},
		{[]int{0, 4, 0, 1}, []int{0, 0, 4, 4, 8}},
	} {
		at, size := irrun.Place(slots(x.sizes...))
		if !slices.Equal(at, x.at[:len(x.at)-1]) || size != x.at[len(x.at)-1] {
			t.Errorf("%v: %v, %d", x.sizes, at, size)
		}
	}
	for _, n := range []int{-1, -8, math.MinInt, math.MaxInt} { // rule R1
		if at, _ := irrun.Place(slots(n, n, n)); len(at) != 3 {
			t.Errorf("sizes of %d: %v", n, at)
		}
	}
}

// Promise 14.1: each operation.
func TestOperations(t *testing.T) {
	for name, x := range map[string]struct {
		l    []api.Ins
		want []int
	}{
		"const":            {[]api.Ins{constant(1, 7), out(1), constant(1, math.MaxUint32), out(1), out(2)}, []int{7, -1, 0}},
		"copy":             {[]api.Ins{constant(1, 7), ins(api.IrCopy, 2, 1, none), constant(1, 8), out(2), out(1)}, []int{7, 8}},
		"bin":              {[]api.Ins{constant(1, 7), constant(2, 9), binary(api.FnSub, 3, 1, 2), out(3), binary(api.FnLt, 1, 1, 2), out(1), binary(api.FnDiv, 3, 2, 5), out(3)}, []int{-2, 1, -1}},
		"un":               {[]api.Ins{constant(1, 7), unary(api.FnNeg, 2, 1), out(2), unary(api.FnZero, 1, 1), out(1), unary(api.FnNot, 1, 1), out(1)}, []int{-7, 0, -1}},
		"in":               {[]api.Ins{in(1), in(2), in(1), out(1), out(2), in(2), out(2)}, []int{7, 6, 0}},
		"mark":             {[]api.Ins{constant(1, 7), ins(api.IrMark, none, none, none), out(1)}, []int{7}},
		"frame":            {[]api.Ins{where(api.IrFrame, 1, 0, 0), out(1), where(api.IrFrame, 1, 1, 0), out(1), where(api.IrFrame, 1, 2, 5), out(1), where(api.IrFrame, 1, 1, -32768), out(1)}, []int{api.Base + 65520, api.Base + 65528, api.Base + 65537, api.Base + 65528 - 32768}},
		"global":           {[]api.Ins{where(api.IrGlobal, 1, 0, 0), out(1), where(api.IrGlobal, 1, 1, 0), out(1), where(api.IrGlobal, 1, 2, 32768), out(1)}, []int{api.Base + 4096, api.Base + 4104, api.Base + 4108 + 32768}},
		"load":             {[]api.Ins{where(api.IrGlobal, 1, 0, 0), load(2, 1, 0, 4), out(2), load(2, 1, 4, 1), out(2), load(2, 1, 5, 1), out(2), load(2, 1, 3, 1), out(2), load(1, 1, 8, 1), out(1)}, []int{0x04030201, 5, 0, 4, 6}},
		"load of a byte":   {[]api.Ins{where(api.IrGlobal, 1, 2, 0), constant(2, 0x80), store(1, 2, 0, 1), load(2, 1, 0, 1), out(2)}, []int{0x80}},
		"store":            {[]api.Ins{where(api.IrFrame, 1, 0, 0), constant(2, 0x81828384), store(1, 2, 4, 4), load(3, 1, 4, 4), out(3), load(3, 1, 5, 1), out(3), load(3, 1, 0, 4), out(3)}, []int{0x81828384 - 1<<32, 0x83, 0}},
		"store of a byte":  {[]api.Ins{where(api.IrFrame, 1, 0, 0), constant(2, 0x81828384), store(1, 2, 0, 4), store(1, 2, 2, 1), load(3, 1, 0, 4), out(3)}, []int{0x81848384 - 1<<32}},
		"off below":        {[]api.Ins{where(api.IrFrame, 1, 1, 0), constant(2, 9), store(1, 2, -4, 4), where(api.IrFrame, 3, 0, 4), load(4, 3, 0, 4), out(4)}, []int{9}},
		"log":              {[]api.Ins{{Op: api.IrConst, D: 1, A: none, B: none, Num: 4, Log: true}, out(1), where(api.IrFrame, 2, 0, 0), {Op: api.IrStore, D: none, A: 2, B: 1, Size: 4, Log: true}, load(3, 2, 0, 4), out(3)}, []int{4, 4}},
		"the memory is 0":  {[]api.Ins{constant(1, api.Base), load(2, 1, 0, 4), out(2), constant(1, api.Base+4108+4), load(2, 1, 0, 4), out(2)}, []int{0, 0}},
		"its first bytes":  {[]api.Ins{constant(1, api.Base), constant(2, 7), store(1, 2, 0, 4), load(3, 1, 0, 4), out(3), store(1, 2, 1, 1), load(3, 1, 0, 4), out(3)}, []int{7, 0x707}},
		"its last bytes":   {[]api.Ins{constant(1, api.Base+65532), constant(2, 7), store(1, 2, 0, 4), load(3, 1, 0, 4), out(3), store(1, 2, 3, 1), load(3, 1, 3, 1), out(3)}, []int{7, 7}},
		"an address wraps": {[]api.Ins{constant(1, 0xffff8000), constant(2, 1<<15), binary(api.FnAdd, 1, 1, 2), out(1), constant(1, api.Base-32768), load(3, 1, 32768, 4), out(3)}, []int{0, 0}},
	} {
		m := withGlobals(mainOf(back(0, x.l...)), 5, 3, 2)
		m.Procs[0].Objects = slots(8, 3, 4)
		if got := irrun.Run(m, list(5, 6, 7), 1000); got.E != api.OK || !slices.Equal(got.Out, list(x.want...)) {
			t.Errorf("%s: %#x, %v", name, got.Out, got)
		}
	}
}

// Promise 14.1: the ends of blocks.
func TestEnds(t *testing.T) {
	gives(t, mainOf(jump(2), back(1, constant(1, 3)), jump(1, out(1))), api.Outcome{Out: list(0), Exit: 3})
	for n, want := range map[uint32]uint32{0: 2, 1: 1, 256: 1, 1 << 31: 1} {
		gives(t, mainOf(branch(0, 1, 2, constant(0, n)), back(1, constant(1, 1)), back(1, constant(1, 2))), api.Outcome{Exit: want})
	}
	for n, want := range map[uint32]uint32{0: 0, 255: 255, 256: 0, 300: 44, 0x12345678: 0x78, math.MaxUint32: 255} {
		gives(t, mainOf(back(4, constant(4, n))), api.Outcome{Exit: want})
	}
	// a loop that counts the inputs down
	gives(t, mainOf(jump(1, in(1), constant(2, 1)), branch(1, 2, 3), jump(1, out(1), binary(api.FnSub, 1, 1, 2)), back(1)), api.Outcome{Out: list(5, 4, 3, 2, 1), Ins: 1})
}

// Promise 14.1: calls.
func TestCalls(t *testing.T) {
	procs := func(l ...api.Proc) api.Module { return api.Module{Procs: l} }
	main := func(regs int, l ...api.Block) api.Proc { return api.Proc{Regs: regs, Blocks: l} }
	minus := api.Proc{Params: 2, Regs: 4, Blocks: []api.Block{back(2, out(3), constant(3, 9), binary(api.FnSub, 2, 0, 1), constant(0, 8))}}
	silent := api.Proc{Void: true, Params: 1, Regs: 1, Blocks: []api.Block{back(none, out(0))}}
	gives(t, procs(main(3, back(2, constant(0, 10), constant(1, 4), call(2, 1, 0, 1), out(2), call(0, 1, 1, 0), out(0), out(1), call(2, 1, 1, 1))), minus), api.Outcome{Out: list(0, 6, 0, -6, 4, 0)})
	gives(t, procs(main(1, back(0, constant(0, 10), call(none, 1, 0), call(none, 1, 0))), silent), api.Outcome{Out: list(10, 10), Exit: 10})
	// main is another procedure than the first one, and may be called itself
	again := api.Module{Main: 1, Procs: []api.Proc{silent, main(2, branch(1, 1, 2, in(0), constant(1, 7), binary(api.FnNe, 1, 0, 1)), back(0, call(0, 1), constant(1, 1), binary(api.FnAdd, 0, 0, 1)), back(1, call(none, 0, 0), constant(1, 20)))}}
	gives(t, again, api.Outcome{Out: list(7), Ins: 3, Exit: 22})
	// six arguments, and registers that belong to a call
	six := api.Proc{Params: 6, Regs: 7, Blocks: []api.Block{back(6, out(0), out(1), out(2), out(3), out(4), out(5), out(6), constant(6, 5))}}
	gives(t, procs(main(2, back(1, constant(0, 3), constant(1, 4), call(1, 1, 0, 1, 0, 0, 1, 1), out(0), call(0, 1, 1, 0, 0, 0, 0, 0))), six), api.Outcome{Out: list(3, 4, 3, 3, 4, 4, 0, 3, 5, 3, 3, 3, 3, 3, 0), Exit: 5})
}

// Promise 14.1: where frames lie, and that they are not made 0.
func TestFrames(t *testing.T) {
	leaf := api.Proc{Params: 1, Regs: 3, Objects: slots(3, 4), Blocks: []api.Block{back(1, where(api.IrFrame, 1, 1, 0), out(1), load(2, 1, 0, 4), out(2), store(1, 0, 0, 4))}}
	middle := api.Proc{Params: 1, Regs: 2, Objects: slots(5), Blocks: []api.Block{back(1, where(api.IrFrame, 1, 0, 0), out(1), call(1, 2, 0))}}
	main := api.Proc{Regs: 3, Objects: slots(4, 12), Blocks: []api.Block{back(2, where(api.IrFrame, 0, 1, 0), out(0), constant(1, 7), call(0, 2, 1), call(0, 1, 1), out(0), constant(1, 8), call(0, 1, 1), call(0, 2, 1))}}
	end := api.Base + 65536
	gives(t, api.Module{Procs: []api.Proc{main, middle, leaf}}, api.Outcome{Out: list(end-12, end-20, 0, end-24, end-28, 0, end-28, end-24, end-28, 7, end-20, 7)})
}

// Promise 14.1: accesses that must not be.
func TestBound(t *testing.T) {
	for _, x := range []struct {
		at        uint32
		off, size int
		may       bool
	}{
		{api.Base, 0, 4, true}, {api.Base, 0, 1, true}, {api.Base, -1, 1, false}, {api.Base, -4, 4, false}, {api.Base - 1, 0, 1, false}, {api.Base - 1, 1, 1, true}, {api.Base - 4, 0, 4, false}, {api.Base - 4, 4, 4, true},
		{api.Base + 65535, 0, 1, true}, {api.Base + 65536, 0, 1, false}, {api.Base + 65536, -1, 1, true}, {api.Base + 65532, 0, 4, true}, {api.Base + 65536, 0, 4, false}, {api.Base + 65536, -4, 4, true}, {api.Base + 65533, 0, 4, false}, {api.Base + 65535, 0, 4, false},
		{api.Base + 1, 0, 4, false}, {api.Base + 2, 0, 4, false}, {api.Base + 3, 0, 4, false}, {api.Base + 3, 1, 4, true}, {api.Base + 4, 2, 4, false}, {api.Base + 1, 2, 1, true},
		{0, 0, 4, false}, {0, 0, 1, false}, {0, 32768, 1, false}, {math.MaxUint32, 0, 1, false}, {math.MaxUint32, 1, 1, false}, {math.MaxUint32 - 3, 0, 4, false}, {api.Base + 1<<31, 0, 4, false}, {api.Ports, 0, 4, false}, {api.Base + 40000, 32768, 1, false}, {api.Base + 40000, -32768, 4, true},
	} {
		for _, i := range []api.Ins{load(2, 1, x.off, x.size), store(1, 2, x.off, x.size)} {
			want := api.Outcome{Out: list(9, 9), Ins: 1, Exit: 9}
			if !x.may {
				want = api.Outcome{Out: list(9), Ins: 1, E: api.ErrBound}
			}
			got := irrun.Run(mainOf(back(3, constant(3, 9), out(3), in(4), constant(1, x.at), i, out(3))), nil, 100)
			if !equal(got, want) {
				t.Errorf("%v at %#x: %v", i, x.at, got)
			}
		}
	}
}

// Promise 14.1: modules that are not valid.
func TestForm(t *testing.T) {
	bad := mainOf(back(0, out(10)))
	gives(t, bad, api.Outcome{E: api.ErrForm})
	gives(t, api.Module{}, api.Outcome{E: api.ErrForm})
	gives(t, mainOf(), api.Outcome{E: api.ErrForm})
	gives(t, withGlobals(bad, 32768, 32768), api.Outcome{E: api.ErrForm})
	if got := irrun.Run(bad, nil, 0); got.E != api.ErrForm {
		t.Errorf("without steps: %v", got)
	}
	for _, b := range []api.Block{
		{End: api.EndJump, A: 0, To: 1}, {End: api.EndJump, A: none, To: 1, Else: 1},
		{End: api.EndRet, To: 1}, {End: api.EndRet, Else: 1},
	} {
		gives(t, mainOf(b, back(0)), api.Outcome{E: api.ErrForm})
	}
	m := mainOf(back(0))
	m.Main = 1
	if e := ir.Check(m); e != api.ErrForm {
		t.Errorf("no main: %v", e)
	}
	gives(t, m, api.Outcome{E: api.ErrForm})
}

// Promise 14.1: how much fits into the memory.
func TestFull(t *testing.T) {
	m := mainOf(back(0, constant(0, 7), out(0)))
	full, runs := api.Outcome{E: api.ErrFull}, api.Outcome{Out: list(7), Exit: 7}
	gives(t, withGlobals(m, 32768, 28672), runs)
	gives(t, withGlobals(m, 32768, 28671), runs)
	gives(t, withGlobals(m, 32768, 28673), full)
	gives(t, withGlobals(m, 32768, 28669, 1), full)
	gives(t, withGlobals(m, 32768, 28665, 1), runs)
	m.Procs[0].Objects = slots(32768, 28672)
	gives(t, m, runs)
	gives(t, withGlobals(m, 1), full)
	m.Procs[0].Objects = slots(32768, 28671)
	gives(t, m, runs)
	m.Procs[0].Objects = slots(32768, 28673)
	gives(t, m, full)
	m.Procs[0].Objects = slots(32768, 32768, 32768)
	gives(t, m, full)
	if got := irrun.Run(m, nil, 0); !equal(got, full) {
		t.Errorf("main's frame is placed ahead of the first step: %v", got)
	}
	// frames of calls, one below the other, down to the globals
	for size, want := range map[int]api.Outcome{28672: {Out: list(1, 2)}, 28673: {Out: list(1), E: api.ErrFull}, 28669: {Out: list(1, 2)}} {
		leaf := api.Proc{Void: true, Regs: 1, Objects: slots(size), Blocks: []api.Block{back(none)}}
		main := api.Proc{Regs: 3, Objects: slots(16384), Blocks: []api.Block{back(0, constant(1, 1), constant(2, 2), out(1), call(none, 1), out(2))}}
		gives(t, withGlobals(api.Module{Procs: []api.Proc{main, leaf}}, 16384), want)
	}
}

// countdown is a procedure that calls itself as often as its argument says; main calls it.
func countdown(n uint32, objects ...int) api.Module {
	down := api.Proc{Params: 1, Regs: 2, Objects: slots(objects...), Blocks: []api.Block{branch(0, 1, 2), back(0, constant(1, 1), binary(api.FnSub, 1, 0, 1), call(0, 1, 1)), back(1, constant(1, 9))}}
	main := api.Proc{Regs: 2, Blocks: []api.Block{back(1, constant(0, n), out(0), call(1, 1, 0), out(1))}}
	return api.Module{Procs: []api.Proc{main, down}}
}

// Promise 14.1: how deep calls are nested; that of main is one of them.
func TestDeep(t *testing.T) {
	gives(t, countdown(4998), api.Outcome{Out: list(4998, 9), Exit: 9})
	gives(t, countdown(4999), api.Outcome{Out: list(4999), E: api.ErrFull})
	gives(t, countdown(1<<30), api.Outcome{Out: list(1 << 30), E: api.ErrFull})
	gives(t, countdown(3839, 13), api.Outcome{Out: list(3839, 9), Exit: 9}) // 3840 frames of 16 bytes
	gives(t, countdown(3840, 13), api.Outcome{Out: list(3840), E: api.ErrFull})
	gives(t, withGlobals(countdown(3839, 16), 1), api.Outcome{Out: list(3839), E: api.ErrFull})
	// calls that follow one another are not nested
	step := []api.Ins{constant(2, 6000), binary(api.FnLt, 1, 0, 2)}
	leaf := api.Proc{Params: 1, Regs: 8000, Blocks: []api.Block{back(1, constant(2, 1), binary(api.FnAdd, 1, 0, 2), constant(7999, 5))}}
	gives(t, api.Module{Procs: []api.Proc{{Regs: 3, Blocks: []api.Block{branch(1, 1, 2, step...), jump(0, call(0, 1, 0)), back(0)}}, leaf}}, api.Outcome{Exit: 6000 & 255})
	// as many registers as there may be, in as many calls as there may be, all 0 at the beginning
	wide := countdown(4998)
	wide.Procs[1].Regs = 8000
	wide.Procs[1].Blocks[0].Ins = []api.Ins{binary(api.FnAdd, 0, 0, 7999), constant(7999, 1)}
	gives(t, wide, api.Outcome{Out: list(4998, 9), Exit: 9})
}

// Promise 14.1: each instruction and each end of a block is one step.
func TestFuel(t *testing.T) {
	m := mainOf(jump(1, in(0), out(0)), back(1, in(1), call(2, 1, 1), out(2)))
	m.Procs = append(m.Procs, api.Proc{Params: 1, Regs: 1, Blocks: []api.Block{back(0, out(0), ins(api.IrMark, none, none, none))}})
	const steps = 3 + 4 + 3
	for fuel, outs := range []int{0, 0, 1, 1, 1, 1, 2, 2, 2, 3, 3, 3} {
		want := api.Outcome{Out: list(5, 6, 6)[:outs], Ins: min(1, fuel) + min(1, fuel/4), E: api.ErrFuel}
		if fuel >= steps {
			want.E, want.Exit = api.OK, 6
		}
		if got := irrun.Run(m, list(5, 6), fuel); !equal(got, want) {
			t.Errorf("%d steps: %v, not %v", fuel, got, want)
		}
	}
	// what would end the run needs a step too
	bad := mainOf(back(0, out(0), load(0, 0, 0, 4)))
	for fuel, want := range []api.Outcome{{E: api.ErrFuel}, {Out: list(0), E: api.ErrFuel}, {Out: list(0), E: api.ErrBound}} {
		if got := irrun.Run(bad, nil, fuel); !equal(got, want) {
			t.Errorf("%d steps: %v, not %v", fuel, got, want)
		}
	}
}

// Promise 14.1: fuel is clamped.
func TestClampedFuel(t *testing.T) {
	for _, fuel := range []int{0, -1, math.MinInt} {
		if got := irrun.Run(mainOf(back(0)), nil, fuel); !equal(got, api.Outcome{E: api.ErrFuel}) {
			t.Errorf("%d steps: %v", fuel, got)
		}
	}
	forever := mainOf(jump(0, out(0)))
	for _, x := range []struct{ fuel, outs int }{{201, 101}, {irrun.MaxFuel, 5000000}, {irrun.MaxFuel + 2, 5000000}, {math.MaxInt, 5000000}} {
		if got := irrun.Run(forever, nil, x.fuel); len(got.Out) != x.outs || got.E != api.ErrFuel {
			t.Errorf("%d steps: %d outputs, %v", x.fuel, len(got.Out), got.E)
		}
	}
	if got := irrun.Run(mainOf(jump(0)), nil, math.MaxInt); !equal(got, api.Outcome{E: api.ErrFuel}) {
		t.Errorf("an empty loop: %v", got)
	}
}

// Promise 14.1: inputs, also those after the last one.
func TestInputs(t *testing.T) {
	m := mainOf(back(0, in(0), out(0), in(1), out(1), in(2), out(2)))
	for n, want := range [][]uint32{list(0, 0, 0), list(8, 0, 0), list(8, 9, 0), list(8, 9, 10), list(8, 9, 10)} {
		got := irrun.Run(m, list(8, 9, 10, 11)[:n], 100)
		if !equal(got, api.Outcome{Out: want, Ins: 3, Exit: want[0]}) {
			t.Errorf("%d inputs: %v", n, got)
		}
	}
}

// Rule R3: what is handed in is neither changed nor shared with what is handed out.
func TestSharing(t *testing.T) {
	m := withGlobals(mainOf(back(1, in(0), where(api.IrGlobal, 1, 0, 0), store(1, 0, 0, 4), load(1, 1, 0, 4), out(1))), 4)
	inputs := list(7, 8)
	for range 2 {
		got := irrun.Run(m, inputs, 100)
		if !equal(got, api.Outcome{Out: list(7), Ins: 1, Exit: 7}) || !slices.Equal(inputs, list(7, 8)) || !slices.Equal(m.Data[0], []byte{1, 2, 3, 4}) {
			t.Errorf("%v, %v, %v", got, inputs, m.Data)
		}
		clear(got.Out)
	}
}
