package irrun_test

import (
	le "encoding/binary"
	"testing"

	"rushlight/api"
	"rushlight/drawn"
	"rushlight/ir"
	"rushlight/irrun"
	. "rushlight/sketch"
)

// model executes modules as the chapter words it: by functions that call themselves, and that panic with an api.Errno.
type model struct {
	api.Outcome
	m      api.Module
	inputs []uint32
	fuel   int
	memory map[uint32]byte // by address
	starts []uint32        // of the globals
	deep   int
}

// modelRun is the outcome of a run of a valid module.
func modelRun(m api.Module, inputs []uint32, fuel int) api.Outcome {
	x := &model{m: m, inputs: inputs, fuel: fuel, memory: map[uint32]byte{}}
	x.main()
	return x.Outcome
}

func (x *model) main() {
	defer func() {
		if e := recover(); e != nil {
			x.E = e.(api.Errno)
		}
	}()
	at := uint32(api.Base + 4096)
	for k, g := range x.m.Globals {
		for at%4 > 0 {
			at++
		}
		x.starts = append(x.starts, at)
		for n, b := range x.m.Data[k] {
			x.memory[at+uint32(n)] = b
		}
		at += uint32(g.Size)
	}
	const end = api.Base + 65536
	if at > end {
		panic(api.ErrFull)
	}
	x.Exit = x.call(x.m.Main, nil, end, at) & 255
}

func (x *model) step() {
	if x.fuel--; x.fuel < 0 {
		panic(api.ErrFuel)
	}
}

// call executes a procedure, whose frame lies below an address.
func (x *model) call(n int, args []uint32, above, floor uint32) uint32 {
	x.deep++
	defer func() { x.deep-- }()
	p := x.m.Procs[n]
	size := uint32(0)
	for _, s := range p.Objects {
		size = (size+3)&^3 + uint32(s.Size)
	}
	size = (size + 3) &^ 3
	if size > above-floor || x.deep > 5000 {
		panic(api.ErrFull)
	}
	at, objects := above-size, []uint32{}
	for _, s := range p.Objects {
		at = (at + 3) &^ 3
		objects = append(objects, at)
		at += uint32(s.Size)
	}
	regs := map[int]uint32{}
	for k, a := range args {
		regs[k] = a
	}
	for b := p.Blocks[0]; ; {
		for _, i := range b.Ins {
			x.step()
			x.execute(i, regs, objects, above-size, floor)
		}
		x.step()
		switch {
		case b.End == api.EndRet:
			return regs[b.A]
		case b.End == api.EndJump || regs[b.A] != 0:
			b = p.Blocks[b.To]
		default:
			b = p.Blocks[b.Else]
		}
	}
}

func (x *model) execute(i api.Ins, regs map[int]uint32, objects []uint32, bottom, floor uint32) {
	a, b := regs[i.A], regs[i.B]
	switch i.Op {
	case api.IrConst:
		regs[i.D] = i.Num
	case api.IrCopy:
		regs[i.D] = a
	case api.IrBin, api.IrUn:
		regs[i.D] = irrun.Fn(i.Fn, a, b)
	case api.IrLoad:
		l := x.accessed(a, i)
		regs[i.D] = uint32(l[0])
		if i.Size == 4 {
			regs[i.D] = le.LittleEndian.Uint32(l)
		}
	case api.IrStore:
		x.accessed(a, i)
		for k, v := range le.LittleEndian.AppendUint32(nil, b)[:i.Size] {
			x.memory[a+uint32(i.Off+k)] = v
		}
	case api.IrFrame:
		regs[i.D] = objects[i.Obj] + uint32(i.Off)
	case api.IrGlobal:
		regs[i.D] = x.starts[i.Obj] + uint32(i.Off)
	case api.IrCall:
		var args []uint32
		for _, r := range i.Args {
			args = append(args, regs[r])
		}
		v := x.call(i.Obj, args, bottom, floor)
		if i.D != None {
			regs[i.D] = v
		}
	case api.IrOut:
		x.Out = append(x.Out, a)
	case api.IrIn:
		regs[i.D] = 0
		if x.Ins < len(x.inputs) {
			regs[i.D] = x.inputs[x.Ins]
		}
		x.Ins++
	}
}

// accessed is the bytes that a load or store accesses.
func (x *model) accessed(a uint32, i api.Ins) []byte {
	var l []byte
	a += uint32(i.Off)
	for k := range uint32(i.Size) {
		if a+k < api.Base || a+k >= api.Base+65536 {
			panic(api.ErrBound)
		}
		l = append(l, x.memory[a+k])
	}
	if i.Size == 4 && a%4 > 0 {
		panic(api.ErrBound)
	}
	return l
}

// Promise 14.1: drawn modules with drawn fuel, held against the model.
func TestDrawnModules(t *testing.T) {
	seen, outs, ins := map[api.Errno]int{}, 0, 0
	for n := range 6000 {
		dice, m := drawn.Dice(n), drawn.WildModule(n)
		if n%3 == 0 {
			m = drawn.TameModule(n)
		}
		if e := ir.Check(m); e != api.OK {
			t.Fatalf("%v: %v", m, e)
		}
		for _, fuel := range []int{dice.Roll(20), 3000} {
			got, want := irrun.Run(m, Words(1, 300, -1), fuel), modelRun(m, Words(1, 300, -1), fuel)
			if !equal(got, want) {
				t.Fatalf("%v with %d steps: %v, not %v", m, fuel, got, want)
			}
			seen[got.E]++
			outs += len(got.Out)
			ins += got.Ins
		}
	}
	for _, e := range []api.Errno{api.OK, api.ErrFuel, api.ErrBound, api.ErrFull} {
		if seen[e] < 50 {
			t.Errorf("%v: %d times", e, seen[e])
		}
	}
	if outs < 8000 || ins < 4000 {
		t.Errorf("%d outputs, %d inputs", outs, ins)
	}
}
