package gen

import (
	"rushlight/api"
	"rushlight/asm"
	"rushlight/ops"
	"rushlight/rts"
)

// coder makes the code of a procedure.
type coder struct {
	api.Proc
	module api.Module
	seats  []api.Seat
	frame  api.Frame
	first  int // the label of the first block
	items  []api.Item
}

// add adds items to the code.
func (c *coder) add(l ...api.Item) { c.items = append(c.items, l...) }

// seat is where a register lies.
func (c *coder) seat(r int) api.Seat {
	if r < 0 || r >= len(c.seats) {
		return api.Seat{Slot: api.None}
	}
	return c.seats[r]
}

// slot is where the slot of a register lies in the frame, if it has one.
func (c *coder) slot(r int) (int, bool) {
	s := c.seat(r)
	return c.frame.Slots + s.Slot*ops.Word, s.Reg == 0 && s.Slot >= 0
}

// read is the machine's register in which a register is: its own, or a temporary one into which its slot is loaded.
func (c *coder) read(r, temporary int) int {
	at, is := c.slot(r)
	if !is {
		return c.seat(r).Reg
	}
	c.add(ops.Load(temporary, ops.Stack, at))
	return temporary
}

// write makes a register what a function computes into a register of the machine. If it lies in a slot, that may be noted first.
func (c *coder) write(r int, noted bool, compute func(rd int)) {
	at, is := c.slot(r)
	if !is {
		compute(c.seat(r).Reg)
		return
	}
	compute(ops.T0)
	if noted {
		c.add(ops.Add(ops.T3, ops.Stack, at))
		c.add(rts.Note(ops.T3)...)
	}
	c.add(ops.Store(ops.T0, ops.Stack, at))
}

// move copies a register of the machine, unless it is the same one.
func (c *coder) move(rd, a int) {
	if rd != a {
		c.add(ops.Add(rd, a, 0))
	}
}

// keptAt is where element k of the saved registers lies in the frame. The return address lies ahead of them.
func keptAt(k int) int { return (1 + k) * ops.Word }

// enter begins the procedure: it makes its frame and puts the arguments where they belong.
func (c *coder) enter(label int) {
	c.add(
		asm.Label(label),
		ops.Add(ops.Stack, ops.Stack, -c.frame.Size),
		asm.Const(ops.T0, uint32(Limit(c.module))),
		asm.Branch(api.OpBltu, ops.Stack, ops.T0, rts.FullLabel),
		ops.Store(ops.Link, ops.Stack, 0),
	)
	for k, r := range c.frame.Saved {
		c.add(ops.Store(r, ops.Stack, keptAt(k)))
	}
	for r := range min(c.Params, len(c.seats)) {
		if at, is := c.slot(r); is {
			c.add(ops.Store(ops.A0+r, ops.Stack, at))
		} else {
			c.move(c.seat(r).Reg, ops.A0+r)
		}
	}
}

// leave ends the procedure with a result, or None.
func (c *coder) leave(r int) {
	if r != api.None {
		c.move(ops.A0, c.read(r, ops.T0))
	}
	for k, r := range c.frame.Saved {
		c.add(ops.Load(r, ops.Stack, keptAt(k)))
	}
	c.add(
		ops.Load(ops.Link, ops.Stack, 0),
		ops.Add(ops.Stack, ops.Stack, c.frame.Size),
		ops.Back(ops.Link),
	)
}

// block is the code of block n.
func (c *coder) block(n int, b api.Block) {
	c.add(asm.Label(c.first + n))
	for _, i := range b.Ins {
		c.instruction(i)
	}
	switch b.End {
	case api.EndJump:
		c.jump(n, b.To)
	case api.EndBranch:
		c.branch(n, b)
	case api.EndRet:
		c.leave(b.A)
	}
}

// jump goes on from block n to another one, to which it need not jump if that comes next.
func (c *coder) jump(n, to int) {
	if to != n+1 {
		c.add(ops.Goto(c.first + to))
	}
}

// branch is the end of block n, which leads to one of two others.
func (c *coder) branch(n int, b api.Block) {
	a := c.read(b.A, ops.T0)
	if b.To == n+1 {
		c.add(asm.Branch(api.OpBeq, a, ops.Zero, c.first+b.Else))
		return
	}
	c.add(asm.Branch(api.OpBne, a, ops.Zero, c.first+b.To))
	c.jump(n, b.Else)
}
