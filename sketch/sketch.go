// Package sketch is no layer: it writes procedures of the intermediate representation for tests.
package sketch

import "rushlight/api"

// None is no register.
const None = api.None

// Const makes a register a number.
func Const(d int, n uint32) api.Ins {
	i := ins(api.IrConst, d, None, None)
	i.Num = n
	return i
}

// Copy makes a register what another one is.
func Copy(d, a int) api.Ins { return ins(api.IrCopy, d, a, None) }

// Bin makes a register a function of two others.
func Bin(fn, d, a, b int) api.Ins {
	i := ins(api.IrBin, d, a, b)
	i.Fn = fn
	return i
}

// Un makes a register a function of another one.
func Un(fn, d, a int) api.Ins {
	i := ins(api.IrUn, d, a, None)
	i.Fn = fn
	return i
}

// Load makes a register what lies off behind another one.
func Load(d, a, off, size int) api.Ins {
	i := ins(api.IrLoad, d, a, None)
	i.Off, i.Size = off, size
	return i
}

// Store puts a register off behind another one.
func Store(a, b, off, size int) api.Ins {
	i := ins(api.IrStore, None, a, b)
	i.Off, i.Size = off, size
	return i
}

// Frame makes a register an address in an object.
func Frame(d, obj, off int) api.Ins {
	i := ins(api.IrFrame, d, None, None)
	i.Obj, i.Off = obj, off
	return i
}

// Global makes a register an address in a global.
func Global(d, obj, off int) api.Ins {
	i := ins(api.IrGlobal, d, None, None)
	i.Obj, i.Off = obj, off
	return i
}

// Call makes a register, or None, what a procedure answers.
func Call(d, obj int, args ...int) api.Ins {
	i := ins(api.IrCall, d, None, None)
	i.Obj, i.Args = obj, args
	return i
}

// Out puts a register out.
func Out(a int) api.Ins { return ins(api.IrOut, None, a, None) }

// In makes a register the next input.
func In(d int) api.Ins { return ins(api.IrIn, d, None, None) }

// Mark is a mark.
func Mark() api.Ins { return ins(api.IrMark, None, None, None) }

// Log is an instruction that notes what it overwrites.
func Log(i api.Ins) api.Ins {
	i.Log = true
	return i
}

// Ret is a block that returns a register, or None.
func Ret(r int, l ...api.Ins) api.Block { return api.Block{Ins: l, End: api.EndRet, A: r} }

// Jump is a block that leads to another one.
func Jump(to int, l ...api.Ins) api.Block {
	return api.Block{Ins: l, End: api.EndJump, A: None, To: to}
}

// Branch is a block that leads to one of two others.
func Branch(r, to, other int, l ...api.Ins) api.Block {
	return api.Block{Ins: l, End: api.EndBranch, A: r, To: to, Else: other}
}

// Slots is slots of these sizes.
func Slots(sizes ...int) []api.Slot {
	var l []api.Slot
	for _, n := range sizes {
		l = append(l, api.Slot{Size: n, Align: 1 + 3*(n%2)})
	}
	return l
}

// InReg is a seat in a register of the machine.
func InReg(n int) api.Seat { return api.Seat{Reg: n} }

// InSlot is a seat in a slot.
func InSlot(n int) api.Seat { return api.Seat{Slot: n} }

// Nowhere is the seat of a register without a range.
func Nowhere() api.Seat { return api.Seat{Slot: None} }

// Seats is seats.
func Seats(l ...api.Seat) []api.Seat { return l }

// Main is a module of a main with 10 registers and these blocks.
func Main(l ...api.Block) api.Module {
	return api.Module{Procs: []api.Proc{{Regs: 10, Blocks: l}}}
}

// WithGlobals is a module with globals of these sizes, filled with 1, 2, 3 and so on.
func WithGlobals(m api.Module, sizes ...int) api.Module {
	m.Globals = Slots(sizes...)
	n := byte(0)
	for _, size := range sizes {
		d := make([]byte, size)
		for k := range d {
			n++
			d[k] = n
		}
		m.Data = append(m.Data, d)
	}
	return m
}

// Words is numbers as words.
func Words(l ...int) []uint32 {
	var words []uint32
	for _, n := range l {
		words = append(words, uint32(n))
	}
	return words
}

// ins is an instruction with these registers.
func ins(op, d, a, b int) api.Ins { return api.Ins{Op: op, D: d, A: a, B: b} }
