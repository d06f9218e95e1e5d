package gen

import (
	"rushlight/api"
	"rushlight/asm"
	"rushlight/ops"
	"rushlight/rts"
)

// instruction is the code of an instruction.
func (c *coder) instruction(i api.Ins) {
	set := func(compute func(rd int)) { c.write(i.D, i.Log, compute) }
	switch i.Op {
	case api.IrConst:
		set(func(rd int) { c.add(asm.Const(rd, i.Num)) })
	case api.IrCopy:
		a := c.read(i.A, ops.T0)
		set(func(rd int) { c.move(rd, a) })
	case api.IrBin:
		a, b := c.read(i.A, ops.T0), c.read(i.B, ops.T1)
		set(func(rd int) { c.add(binary(i.Fn, rd, a, b)...) })
	case api.IrUn:
		a := c.read(i.A, ops.T0)
		set(func(rd int) { c.add(unary(i.Fn, rd, a)) })
	case api.IrLoad:
		base, off := c.reach(c.read(i.A, ops.T0), i.Off)
		set(func(rd int) { c.add(ops.Two(loadOf(i.Size), rd, base, off)) })
	case api.IrStore:
		c.store(i)
	case api.IrFrame:
		set(func(rd int) { c.object(rd, i.Obj, i.Off) })
	case api.IrGlobal:
		set(func(rd int) { c.add(asm.Const(rd, Global(c.module, i.Obj)+uint32(i.Off))) })
	case api.IrCall:
		c.call(i)
	case api.IrOut:
		c.next(rts.Seq, api.PortSeq, func(ports int) { c.add(ops.Store(c.read(i.A, ops.T0), ports, api.PortOut)) })
	case api.IrIn:
		set(func(rd int) {
			c.next(rts.Index, api.PortIndex, func(ports int) { c.add(ops.Load(rd, ports, api.PortIn)) })
		})
	case api.IrMark:
		c.add(rts.Mark()...)
	}
}

// loadOf is the Op of a load of so many bytes.
func loadOf(size int) int {
	if size == 1 {
		return api.OpLbu
	}
	return api.OpLw
}

// storeOf is the Op of a store of so many bytes.
func storeOf(size int) int {
	if size == 1 {
		return api.OpSb
	}
	return api.OpSw
}

// isShort reports whether an instruction can hold a number.
func isShort(n int) bool { return n >= -2048 && n <= 2047 }

// reach is how a load or store reaches what lies off behind a register: by a register, which may be T3, and how far it lies behind that.
func (c *coder) reach(a, off int) (int, int) {
	if isShort(off) {
		return a, off
	}
	c.add(asm.Const(ops.T3, uint32(off)), ops.Three(api.OpAdd, ops.T3, a, ops.T3))
	return ops.T3, 0
}

// store is the code of an IrStore. A note is of a whole word, also where a byte is overwritten.
func (c *coder) store(i api.Ins) {
	a, b := c.read(i.A, ops.T0), c.read(i.B, ops.T1)
	base, off := c.reach(a, i.Off)
	if i.Log {
		word := ops.T3
		if base == word {
			word = ops.T0 // where A was, which is needed no more
		}
		c.add(ops.Add(word, base, off), ops.Two(api.OpAndi, word, word, -ops.Word))
		c.add(rts.Note(word)...)
	}
	c.add(ops.StoreAs(storeOf(i.Size), b, base, off))
}

// object sets a register to the address off behind where an object lies.
func (c *coder) object(rd, n, off int) {
	if n >= 0 && n < len(c.frame.Objects) {
		off += c.frame.Objects[n]
	}
	if isShort(off) {
		c.add(ops.Add(rd, ops.Stack, off))
		return
	}
	c.add(asm.Const(rd, uint32(off)), ops.Three(api.OpAdd, rd, ops.Stack, rd))
}

// call is the code of an IrCall. No argument lies where another one goes, since no register is assigned to procedures there.
func (c *coder) call(i api.Ins) {
	for k, r := range i.Args {
		c.move(ops.A0+k, c.read(r, ops.T0))
	}
	c.add(asm.Jump(ops.Link, Label(i.Obj)))
	if i.D != api.None {
		c.write(i.D, i.Log, func(rd int) { c.move(rd, ops.A0) })
	}
}

// next gives a port the number at an address, does something with the ports, which may use T0, and counts on.
func (c *coder) next(number uint32, port int, act func(ports int)) {
	c.add(asm.Const(ops.T3, number))
	c.add(rts.Note(ops.T3)...)
	c.add(
		ops.Load(ops.T2, ops.T3, 0),
		asm.Const(ops.T1, api.Ports),
		ops.Store(ops.T2, ops.T1, port),
	)
	act(ops.T1)
	c.add(ops.Add(ops.T2, ops.T2, 1), ops.Store(ops.T2, ops.T3, 0))
}
