package lower

import (
	"rushlight/api"
	"rushlight/ir"
)

// builder makes the procedure of a function. While nothing leads to where it is, it adds nothing.
type builder struct {
	unit      *api.Unit
	code      *api.Code
	proc      api.Proc
	homes     []home    // of each slot
	variables int       // how many registers, from 0 on, are those of plain slots and parameters
	narrow    []bool    // of each register: it never holds more than a byte
	count     int       // how many instructions there are
	at        int       // the block that is being filled; api.None if nothing leads on
	breaks    []*target // where break leads to, for each loop and switch around
	continues []*target // where continue leads to, for each loop around
}

// home is where a slot is: a register, or an object if that is api.None.
type home struct{ reg, object int }

// target is a place in the code that may be led to before it is reached. It becomes a block when something leads there.
type target struct{ block int }

// newTarget is a target to which nothing leads yet.
func newTarget() *target { return &target{block: api.None} }

// newBuilder is a builder of a function's procedure, in whose first block it is.
func newBuilder(u *api.Unit, c *api.Code) *builder {
	b := &builder{unit: u, code: c, proc: api.Proc{Name: c.Name, Void: c.Void, Params: c.Params}}
	b.at = b.newBlock()
	b.settle()
	return b
}

// body makes the blocks of the function.
func (b *builder) body() {
	b.acts(b.code.Body)
	if b.reached() {
		b.giveBack(nil)
	}
}

// settle gives all slots their homes: parameters come in the first registers, and those that are not plain go on to their objects.
func (b *builder) settle() {
	plain := Plain(*b.code)
	for n, s := range b.code.Slots {
		h := home{reg: api.None, object: api.None}
		if plain[n] || n < b.code.Params {
			h.reg = b.fresh(s.Cell == 1)
		}
		if !plain[n] {
			h.object = len(b.proc.Objects)
			b.proc.Objects = append(b.proc.Objects, s)
		}
		b.homes = append(b.homes, h)
	}
	b.variables = b.proc.Regs
	for n := range b.homes {
		if h := &b.homes[n]; h.object != api.None && h.reg != api.None {
			b.store(place{kind: framed, number: h.object}, h.reg, b.code.Slots[n].Cell)
			h.reg = api.None
		}
	}
}

// tooLong reports whether the procedure exceeds the limits of modules.
func (b *builder) tooLong() bool {
	return b.count > ir.MaxIns || b.proc.Regs > ir.MaxRegs || len(b.proc.Blocks) > ir.MaxBlocks
}

// reached reports whether something leads to where the builder is.
func (b *builder) reached() bool { return b.at != api.None }

// fresh is a new register, of which it may be known that it never holds more than a byte.
func (b *builder) fresh(narrow bool) int {
	if !b.reached() {
		return api.None
	}
	b.narrow = append(b.narrow, narrow)
	b.proc.Regs = len(b.narrow)
	return b.proc.Regs - 1
}

// newBlock is the number of a new block.
func (b *builder) newBlock() int {
	b.proc.Blocks = append(b.proc.Blocks, api.Block{})
	return len(b.proc.Blocks) - 1
}

// block is the block of a target to which something is about to lead.
func (b *builder) block(t *target) int {
	if t.block == api.None {
		t.block = b.newBlock()
	}
	return t.block
}

// begin goes on at a target, to which what is ahead of it leads too. If nothing else does, the block goes on.
func (b *builder) begin(t *target) {
	if t.block != api.None || !b.reached() {
		b.beginLoop(t)
	}
}

// beginLoop goes on at a target to which something leads that is yet to come.
func (b *builder) beginLoop(t *target) {
	b.jump(t)
	b.at = t.block
}

// jump ends the block: what leads to it leads on to a target.
func (b *builder) jump(t *target) {
	if b.reached() {
		b.end(api.EndJump, api.None, b.block(t), 0)
	}
}

// fork ends the block: on to one target if a register is not 0, and else to another.
func (b *builder) fork(r int, yes, no *target) {
	if b.reached() {
		b.end(api.EndBranch, r, b.block(yes), b.block(no))
	}
}

// end ends the block.
func (b *builder) end(kind, r, to, other int) {
	x := &b.proc.Blocks[b.at]
	x.End, x.A, x.To, x.Else = kind, r, to, other
	b.at = api.None
}
