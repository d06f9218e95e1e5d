package irrun_test

import (
	"math"
	"slices"
	"testing"

	"rushlight/api"
	"rushlight/ir"
	"rushlight/irrun"
	. "rushlight/sketch"
	"rushlight/word"
)

// equal reports whether two outcomes are the same.
func equal(a, b api.Outcome) bool {
	return slices.Equal(a.Out, b.Out) && a.Ins == b.Ins && a.Exit == b.Exit && a.E == b.E
}

// gives reports as a fault a module whose run, with the inputs 5, 6 and 7, has another outcome.
func gives(t *testing.T, m api.Module, want api.Outcome) {
	t.Helper()
	if got := irrun.Run(m, Words(5, 6, 7), 100000); !equal(got, want) {
		t.Errorf("%v: %v, not %v", m, got, want)
	}
}

// The example of the chapter.
func TestExample(t *testing.T) {
	m := Main(Ret(0, In(0), Out(0)))
	if got := irrun.Run(m, Words(300), 100); !equal(got, api.Outcome{Out: Words(300), Ins: 1, Exit: 44}) {
		t.Errorf("%v", got)
	}
}

// Promise 14.2: Fn, held against package word.
func TestFn(t *testing.T) {
	truth := func(holds bool) uint32 {
		if holds {
			return 1
		}
		return 0
	}
	samples := Words(0, 1, 2, 3, 7, 31, 32, 33, 255, 256, -1, -2, -7, -31, -32, math.MaxInt32, math.MinInt32, math.MinInt32+1, 0x12345678)
	for _, a := range samples {
		for _, b := range samples {
			x, y := int32(a), int32(b)
			for fn, want := range map[int]uint32{
				api.FnAdd: a + b, api.FnSub: a - b, api.FnMul: a * b, api.FnDiv: word.Div(a, b), api.FnRem: word.Rem(a, b), api.FnAnd: a & b, api.FnOr: a | b, api.FnXor: a ^ b,
				api.FnShl: a << (b & 31), api.FnShr: uint32(x >> (b & 31)), api.FnEq: truth(x == y), api.FnNe: truth(x != y), api.FnLt: truth(x < y), api.FnGt: truth(x > y), api.FnLe: truth(x <= y), api.FnGe: truth(x >= y),
				api.FnNeg: -a, api.FnNot: ^a, api.FnZero: truth(a == 0), 0: 0, -1: 0, api.FnZero + 1: 0, math.MaxInt: 0, math.MinInt: 0,
			} {
				if got := irrun.Fn(fn, a, b); got != want {
					t.Errorf("Fn(%d, %#x, %#x): %#x, not %#x", fn, a, b, got, want)
				}
			}
		}
	}
	minus7, least := uint32(math.MaxUint32-6), uint32(1<<31)
	for k, x := range [][2]uint32{{irrun.Fn(api.FnDiv, minus7, 2), math.MaxUint32 - 2}, {irrun.Fn(api.FnRem, minus7, 2), math.MaxUint32}, {irrun.Fn(api.FnDiv, 7, 0), math.MaxUint32}, {irrun.Fn(api.FnRem, 7, 0), 7}, {irrun.Fn(api.FnDiv, least, math.MaxUint32), least}, {irrun.Fn(api.FnRem, least, math.MaxUint32), 0}, {irrun.Fn(api.FnShr, minus7, 33), math.MaxUint32 - 3}} {
		if x[0] != x[1] {
			t.Errorf("%d: %#x", k, x[0])
		}
	}
}

// Promise 14.2: Place.
func TestPlace(t *testing.T) {
	for _, x := range []struct{ sizes, at []int }{
		{nil, []int{0}}, {[]int{1}, []int{0, 4}}, {[]int{4}, []int{0, 4}}, {[]int{5}, []int{0, 8}}, {[]int{1, 1, 1}, []int{0, 4, 8, 12}}, {[]int{3, 4, 8, 9, 2}, []int{0, 4, 8, 16, 28, 32}}, {[]int{32768, 32767, 1}, []int{0, 32768, 65536, 65540}},
		{[]int{0, 4, 0, 1}, []int{0, 0, 4, 4, 8}},
	} {
		at, size := irrun.Place(Slots(x.sizes...))
		if !slices.Equal(at, x.at[:len(x.at)-1]) || size != x.at[len(x.at)-1] {
			t.Errorf("%v: %v, %d", x.sizes, at, size)
		}
	}
	for _, n := range []int{-1, -8, math.MinInt, math.MaxInt} { // rule R1
		if at, _ := irrun.Place(Slots(n, n, n)); len(at) != 3 {
			t.Errorf("sizes of %d: %v", n, at)
		}
	}
}

// Promise 14.1: each operation.
func TestOperations(t *testing.T) {
	for name, x := range map[string]struct {
		l    []api.Ins
		want []int
	}{
		"const":            {[]api.Ins{Const(1, 7), Out(1), Const(1, math.MaxUint32), Out(1), Out(2)}, []int{7, -1, 0}},
		"copy":             {[]api.Ins{Const(1, 7), Copy(2, 1), Const(1, 8), Out(2), Out(1)}, []int{7, 8}},
		"bin":              {[]api.Ins{Const(1, 7), Const(2, 9), Bin(api.FnSub, 3, 1, 2), Out(3), Bin(api.FnLt, 1, 1, 2), Out(1), Bin(api.FnDiv, 3, 2, 5), Out(3)}, []int{-2, 1, -1}},
		"un":               {[]api.Ins{Const(1, 7), Un(api.FnNeg, 2, 1), Out(2), Un(api.FnZero, 1, 1), Out(1), Un(api.FnNot, 1, 1), Out(1)}, []int{-7, 0, -1}},
		"in":               {[]api.Ins{In(1), In(2), In(1), Out(1), Out(2), In(2), Out(2)}, []int{7, 6, 0}},
		"mark":             {[]api.Ins{Const(1, 7), Mark(), Out(1)}, []int{7}},
		"frame":            {[]api.Ins{Frame(1, 0, 0), Out(1), Frame(1, 1, 0), Out(1), Frame(1, 2, 5), Out(1), Frame(1, 1, -32768), Out(1)}, []int{api.Base + 65520, api.Base + 65528, api.Base + 65537, api.Base + 65528 - 32768}},
		"global":           {[]api.Ins{Global(1, 0, 0), Out(1), Global(1, 1, 0), Out(1), Global(1, 2, 32768), Out(1)}, []int{api.Base + 4096, api.Base + 4104, api.Base + 4108 + 32768}},
		"load":             {[]api.Ins{Global(1, 0, 0), Load(2, 1, 0, 4), Out(2), Load(2, 1, 4, 1), Out(2), Load(2, 1, 5, 1), Out(2), Load(2, 1, 3, 1), Out(2), Load(1, 1, 8, 1), Out(1)}, []int{0x04030201, 5, 0, 4, 6}},
		"load of a byte":   {[]api.Ins{Global(1, 2, 0), Const(2, 0x80), Store(1, 2, 0, 1), Load(2, 1, 0, 1), Out(2)}, []int{0x80}},
		"store":            {[]api.Ins{Frame(1, 0, 0), Const(2, 0x81828384), Store(1, 2, 4, 4), Load(3, 1, 4, 4), Out(3), Load(3, 1, 5, 1), Out(3), Load(3, 1, 0, 4), Out(3)}, []int{0x81828384 - 1<<32, 0x83, 0}},
		"store of a byte":  {[]api.Ins{Frame(1, 0, 0), Const(2, 0x81828384), Store(1, 2, 0, 4), Store(1, 2, 2, 1), Load(3, 1, 0, 4), Out(3)}, []int{0x81848384 - 1<<32}},
		"off below":        {[]api.Ins{Frame(1, 1, 0), Const(2, 9), Store(1, 2, -4, 4), Frame(3, 0, 4), Load(4, 3, 0, 4), Out(4)}, []int{9}},
		"log":              {[]api.Ins{{Op: api.IrConst, D: 1, A: None, B: None, Num: 4, Log: true}, Out(1), Frame(2, 0, 0), {Op: api.IrStore, D: None, A: 2, B: 1, Size: 4, Log: true}, Load(3, 2, 0, 4), Out(3)}, []int{4, 4}},
		"the memory is 0":  {[]api.Ins{Const(1, api.Base), Load(2, 1, 0, 4), Out(2), Const(1, api.Base+4108+4), Load(2, 1, 0, 4), Out(2)}, []int{0, 0}},
		"its first bytes":  {[]api.Ins{Const(1, api.Base), Const(2, 7), Store(1, 2, 0, 4), Load(3, 1, 0, 4), Out(3), Store(1, 2, 1, 1), Load(3, 1, 0, 4), Out(3)}, []int{7, 0x707}},
		"its last bytes":   {[]api.Ins{Const(1, api.Base+65532), Const(2, 7), Store(1, 2, 0, 4), Load(3, 1, 0, 4), Out(3), Store(1, 2, 3, 1), Load(3, 1, 3, 1), Out(3)}, []int{7, 7}},
		"an address wraps": {[]api.Ins{Const(1, 0xffff8000), Const(2, 1<<15), Bin(api.FnAdd, 1, 1, 2), Out(1), Const(1, api.Base-32768), Load(3, 1, 32768, 4), Out(3)}, []int{0, 0}},
	} {
		m := WithGlobals(Main(Ret(0, x.l...)), 5, 3, 2)
		m.Procs[0].Objects = Slots(8, 3, 4)
		if got := irrun.Run(m, Words(5, 6, 7), 1000); got.E != api.OK || !slices.Equal(got.Out, Words(x.want...)) {
			t.Errorf("%s: %#x, %v", name, got.Out, got)
		}
	}
}

// Promise 14.1: the ends of blocks.
func TestEnds(t *testing.T) {
	gives(t, Main(Jump(2), Ret(1, Const(1, 3)), Jump(1, Out(1))), api.Outcome{Out: Words(0), Exit: 3})
	for n, want := range map[uint32]uint32{0: 2, 1: 1, 256: 1, 1 << 31: 1} {
		gives(t, Main(Branch(0, 1, 2, Const(0, n)), Ret(1, Const(1, 1)), Ret(1, Const(1, 2))), api.Outcome{Exit: want})
	}
	for n, want := range map[uint32]uint32{0: 0, 255: 255, 256: 0, 300: 44, 0x12345678: 0x78, math.MaxUint32: 255} {
		gives(t, Main(Ret(4, Const(4, n))), api.Outcome{Exit: want})
	}
	// a loop that counts the inputs down
	gives(t, Main(Jump(1, In(1), Const(2, 1)), Branch(1, 2, 3), Jump(1, Out(1), Bin(api.FnSub, 1, 1, 2)), Ret(1)), api.Outcome{Out: Words(5, 4, 3, 2, 1), Ins: 1})
}

// Promise 14.1: calls.
func TestCalls(t *testing.T) {
	procs := func(l ...api.Proc) api.Module { return api.Module{Procs: l} }
	main := func(regs int, l ...api.Block) api.Proc { return api.Proc{Regs: regs, Blocks: l} }
	minus := api.Proc{Params: 2, Regs: 4, Blocks: []api.Block{Ret(2, Out(3), Const(3, 9), Bin(api.FnSub, 2, 0, 1), Const(0, 8))}}
	silent := api.Proc{Void: true, Params: 1, Regs: 1, Blocks: []api.Block{Ret(None, Out(0))}}
	gives(t, procs(main(3, Ret(2, Const(0, 10), Const(1, 4), Call(2, 1, 0, 1), Out(2), Call(0, 1, 1, 0), Out(0), Out(1), Call(2, 1, 1, 1))), minus), api.Outcome{Out: Words(0, 6, 0, -6, 4, 0)})
	gives(t, procs(main(1, Ret(0, Const(0, 10), Call(None, 1, 0), Call(None, 1, 0))), silent), api.Outcome{Out: Words(10, 10), Exit: 10})
	// main is another procedure than the first one, and may be called itself
	again := api.Module{Main: 1, Procs: []api.Proc{silent, main(2, Branch(1, 1, 2, In(0), Const(1, 7), Bin(api.FnNe, 1, 0, 1)), Ret(0, Call(0, 1), Const(1, 1), Bin(api.FnAdd, 0, 0, 1)), Ret(1, Call(None, 0, 0), Const(1, 20)))}}
	gives(t, again, api.Outcome{Out: Words(7), Ins: 3, Exit: 22})
	// six arguments, and registers that belong to a call
	six := api.Proc{Params: 6, Regs: 7, Blocks: []api.Block{Ret(6, Out(0), Out(1), Out(2), Out(3), Out(4), Out(5), Out(6), Const(6, 5))}}
	gives(t, procs(main(2, Ret(1, Const(0, 3), Const(1, 4), Call(1, 1, 0, 1, 0, 0, 1, 1), Out(0), Call(0, 1, 1, 0, 0, 0, 0, 0))), six), api.Outcome{Out: Words(3, 4, 3, 3, 4, 4, 0, 3, 5, 3, 3, 3, 3, 3, 0), Exit: 5})
}

// Promise 14.1: where frames lie, and that they are not made 0.
func TestFrames(t *testing.T) {
	leaf := api.Proc{Params: 1, Regs: 3, Objects: Slots(3, 4), Blocks: []api.Block{Ret(1, Frame(1, 1, 0), Out(1), Load(2, 1, 0, 4), Out(2), Store(1, 0, 0, 4))}}
	middle := api.Proc{Params: 1, Regs: 2, Objects: Slots(5), Blocks: []api.Block{Ret(1, Frame(1, 0, 0), Out(1), Call(1, 2, 0))}}
	main := api.Proc{Regs: 3, Objects: Slots(4, 12), Blocks: []api.Block{Ret(2, Frame(0, 1, 0), Out(0), Const(1, 7), Call(0, 2, 1), Call(0, 1, 1), Out(0), Const(1, 8), Call(0, 1, 1), Call(0, 2, 1))}}
	end := api.Base + 65536
	gives(t, api.Module{Procs: []api.Proc{main, middle, leaf}}, api.Outcome{Out: Words(end-12, end-20, 0, end-24, end-28, 0, end-28, end-24, end-28, 7, end-20, 7)})
}

// Promise 14.1: accesses that must not be.
func TestBound(t *testing.T) {
	for _, x := range []struct {
		at        uint32
		off, size int
		may       bool
	}{
		{api.Base, 0, 4, true}, {api.Base, 0, 1, true}, {api.Base, -1, 1, false}, {api.Base, -4, 4, false}, {api.Base - 1, 0, 1, false}, {api.Base - 1, 1, 1, true}, {api.Base - 4, 0, 4, false}, {api.Base - 4, 4, 4, true},
		{api.Base + 65535, 0, 1, true}, {api.Base + 65536, 0, 1, false}, {api.Base + 65536, -1, 1, true}, {api.Base + 65532, 0, 4, true}, {api.Base + 65536, 0, 4, false}, {api.Base + 65536, -4, 4, true}, {api.Base + 65533, 0, 4, false}, {api.Base + 65535, 0, 4, false},
		{api.Base + 1, 0, 4, false}, {api.Base + 2, 0, 4, false}, {api.Base + 3, 0, 4, false}, {api.Base + 3, 1, 4, true}, {api.Base + 4, 2, 4, false}, {api.Base + 1, 2, 1, true},
		{0, 0, 4, false}, {0, 0, 1, false}, {0, 32768, 1, false}, {math.MaxUint32, 0, 1, false}, {math.MaxUint32, 1, 1, false}, {math.MaxUint32 - 3, 0, 4, false}, {api.Base + 1<<31, 0, 4, false}, {api.Ports, 0, 4, false}, {api.Base + 40000, 32768, 1, false}, {api.Base + 40000, -32768, 4, true},
	} {
		for _, i := range []api.Ins{Load(2, 1, x.off, x.size), Store(1, 2, x.off, x.size)} {
			want := api.Outcome{Out: Words(9, 9), Ins: 1, Exit: 9}
			if !x.may {
				want = api.Outcome{Out: Words(9), Ins: 1, E: api.ErrBound}
			}
			got := irrun.Run(Main(Ret(3, Const(3, 9), Out(3), In(4), Const(1, x.at), i, Out(3))), nil, 100)
			if !equal(got, want) {
				t.Errorf("%v at %#x: %v", i, x.at, got)
			}
		}
	}
}

// Promise 14.1: modules that are not valid.
func TestForm(t *testing.T) {
	bad := Main(Ret(0, Out(10)))
	gives(t, bad, api.Outcome{E: api.ErrForm})
	gives(t, api.Module{}, api.Outcome{E: api.ErrForm})
	gives(t, Main(), api.Outcome{E: api.ErrForm})
	gives(t, WithGlobals(bad, 32768, 32768), api.Outcome{E: api.ErrForm})
	if got := irrun.Run(bad, nil, 0); got.E != api.ErrForm {
		t.Errorf("without steps: %v", got)
	}
	for _, b := range []api.Block{
		{End: api.EndJump, A: 0, To: 1}, {End: api.EndJump, A: None, To: 1, Else: 1},
		{End: api.EndRet, To: 1}, {End: api.EndRet, Else: 1},
	} {
		gives(t, Main(b, Ret(0)), api.Outcome{E: api.ErrForm})
	}
	m := Main(Ret(0))
	m.Main = 1
	if e := ir.Check(m); e != api.ErrForm {
		t.Errorf("no main: %v", e)
	}
	gives(t, m, api.Outcome{E: api.ErrForm})
}

// Promise 14.1: how much fits into the memory.
func TestFull(t *testing.T) {
	m := Main(Ret(0, Const(0, 7), Out(0)))
	full, runs := api.Outcome{E: api.ErrFull}, api.Outcome{Out: Words(7), Exit: 7}
	gives(t, WithGlobals(m, 32768, 28672), runs)
	gives(t, WithGlobals(m, 32768, 28671), runs)
	gives(t, WithGlobals(m, 32768, 28673), full)
	gives(t, WithGlobals(m, 32768, 28669, 1), full)
	gives(t, WithGlobals(m, 32768, 28665, 1), runs)
	m.Procs[0].Objects = Slots(32768, 28672)
	gives(t, m, runs)
	gives(t, WithGlobals(m, 1), full)
	m.Procs[0].Objects = Slots(32768, 28671)
	gives(t, m, runs)
	m.Procs[0].Objects = Slots(32768, 28673)
	gives(t, m, full)
	m.Procs[0].Objects = Slots(32768, 32768, 32768)
	gives(t, m, full)
	if got := irrun.Run(m, nil, 0); !equal(got, full) {
		t.Errorf("main's frame is placed ahead of the first step: %v", got)
	}
	// frames of calls, one below the other, down to the globals
	for size, want := range map[int]api.Outcome{28672: {Out: Words(1, 2)}, 28673: {Out: Words(1), E: api.ErrFull}, 28669: {Out: Words(1, 2)}} {
		leaf := api.Proc{Void: true, Regs: 1, Objects: Slots(size), Blocks: []api.Block{Ret(None)}}
		main := api.Proc{Regs: 3, Objects: Slots(16384), Blocks: []api.Block{Ret(0, Const(1, 1), Const(2, 2), Out(1), Call(None, 1), Out(2))}}
		gives(t, WithGlobals(api.Module{Procs: []api.Proc{main, leaf}}, 16384), want)
	}
}

// countdown is a procedure that calls itself as often as its argument says; main calls it.
func countdown(n uint32, objects ...int) api.Module {
	down := api.Proc{Params: 1, Regs: 2, Objects: Slots(objects...), Blocks: []api.Block{Branch(0, 1, 2), Ret(0, Const(1, 1), Bin(api.FnSub, 1, 0, 1), Call(0, 1, 1)), Ret(1, Const(1, 9))}}
	main := api.Proc{Regs: 2, Blocks: []api.Block{Ret(1, Const(0, n), Out(0), Call(1, 1, 0), Out(1))}}
	return api.Module{Procs: []api.Proc{main, down}}
}

// Promise 14.1: how deep calls are nested; that of main is one of them.
func TestDeep(t *testing.T) {
	gives(t, countdown(4998), api.Outcome{Out: Words(4998, 9), Exit: 9})
	gives(t, countdown(4999), api.Outcome{Out: Words(4999), E: api.ErrFull})
	gives(t, countdown(1<<30), api.Outcome{Out: Words(1 << 30), E: api.ErrFull})
	gives(t, countdown(3839, 13), api.Outcome{Out: Words(3839, 9), Exit: 9}) // 3840 frames of 16 bytes
	gives(t, countdown(3840, 13), api.Outcome{Out: Words(3840), E: api.ErrFull})
	gives(t, WithGlobals(countdown(3839, 16), 1), api.Outcome{Out: Words(3839), E: api.ErrFull})
	// calls that follow one another are not nested
	step := []api.Ins{Const(2, 6000), Bin(api.FnLt, 1, 0, 2)}
	leaf := api.Proc{Params: 1, Regs: 8000, Blocks: []api.Block{Ret(1, Const(2, 1), Bin(api.FnAdd, 1, 0, 2), Const(7999, 5))}}
	gives(t, api.Module{Procs: []api.Proc{{Regs: 3, Blocks: []api.Block{Branch(1, 1, 2, step...), Jump(0, Call(0, 1, 0)), Ret(0)}}, leaf}}, api.Outcome{Exit: 6000 & 255})
	// as many registers as there may be, in as many calls as there may be, all 0 at the beginning
	wide := countdown(4998)
	wide.Procs[1].Regs = 8000
	wide.Procs[1].Blocks[0].Ins = []api.Ins{Bin(api.FnAdd, 0, 0, 7999), Const(7999, 1)}
	gives(t, wide, api.Outcome{Out: Words(4998, 9), Exit: 9})
}

// Promise 14.1: each instruction and each end of a block is one step.
func TestFuel(t *testing.T) {
	m := Main(Jump(1, In(0), Out(0)), Ret(1, In(1), Call(2, 1, 1), Out(2)))
	m.Procs = append(m.Procs, api.Proc{Params: 1, Regs: 1, Blocks: []api.Block{Ret(0, Out(0), Mark())}})
	const steps = 3 + 4 + 3
	for fuel, outs := range []int{0, 0, 1, 1, 1, 1, 2, 2, 2, 3, 3, 3} {
		want := api.Outcome{Out: Words(5, 6, 6)[:outs], Ins: min(1, fuel) + min(1, fuel/4), E: api.ErrFuel}
		if fuel >= steps {
			want.E, want.Exit = api.OK, 6
		}
		if got := irrun.Run(m, Words(5, 6), fuel); !equal(got, want) {
			t.Errorf("%d steps: %v, not %v", fuel, got, want)
		}
	}
	// what would end the run needs a step too
	bad := Main(Ret(0, Out(0), Load(0, 0, 0, 4)))
	for fuel, want := range []api.Outcome{{E: api.ErrFuel}, {Out: Words(0), E: api.ErrFuel}, {Out: Words(0), E: api.ErrBound}} {
		if got := irrun.Run(bad, nil, fuel); !equal(got, want) {
			t.Errorf("%d steps: %v, not %v", fuel, got, want)
		}
	}
}

// Promise 14.1: fuel is clamped.
func TestClampedFuel(t *testing.T) {
	for _, fuel := range []int{0, -1, math.MinInt} {
		if got := irrun.Run(Main(Ret(0)), nil, fuel); !equal(got, api.Outcome{E: api.ErrFuel}) {
			t.Errorf("%d steps: %v", fuel, got)
		}
	}
	forever := Main(Jump(0, Out(0)))
	for _, x := range []struct{ fuel, outs int }{{201, 101}, {irrun.MaxFuel, 5000000}, {irrun.MaxFuel + 2, 5000000}, {math.MaxInt, 5000000}} {
		if got := irrun.Run(forever, nil, x.fuel); len(got.Out) != x.outs || got.E != api.ErrFuel {
			t.Errorf("%d steps: %d outputs, %v", x.fuel, len(got.Out), got.E)
		}
	}
	if got := irrun.Run(Main(Jump(0)), nil, math.MaxInt); !equal(got, api.Outcome{E: api.ErrFuel}) {
		t.Errorf("an empty loop: %v", got)
	}
}

// Promise 14.1: inputs, also those after the last one.
func TestInputs(t *testing.T) {
	m := Main(Ret(0, In(0), Out(0), In(1), Out(1), In(2), Out(2)))
	for n, want := range [][]uint32{Words(0, 0, 0), Words(8, 0, 0), Words(8, 9, 0), Words(8, 9, 10), Words(8, 9, 10)} {
		got := irrun.Run(m, Words(8, 9, 10, 11)[:n], 100)
		if !equal(got, api.Outcome{Out: want, Ins: 3, Exit: want[0]}) {
			t.Errorf("%d inputs: %v", n, got)
		}
	}
}

// Rule R3: what is handed in is neither changed nor shared with what is handed out.
func TestSharing(t *testing.T) {
	m := WithGlobals(Main(Ret(1, In(0), Global(1, 0, 0), Store(1, 0, 0, 4), Load(1, 1, 0, 4), Out(1))), 4)
	inputs := Words(7, 8)
	for range 2 {
		got := irrun.Run(m, inputs, 100)
		if !equal(got, api.Outcome{Out: Words(7), Ins: 1, Exit: 7}) || !slices.Equal(inputs, Words(7, 8)) || !slices.Equal(m.Data[0], []byte{1, 2, 3, 4}) {
			t.Errorf("%v, %v, %v", got, inputs, m.Data)
		}
		clear(got.Out)
	}
}
