package irrun

import "rushlight/api"

// globalsAt is where the globals begin in the memory.
const globalsAt = 4096

// machine is a run.
type machine struct {
	api.Outcome // so far
	module      api.Module
	inputs      []uint32
	fuel        int // how many steps are left
	memory      []byte
	globals     []int   // where each lies in the memory
	floor       int     // where the globals end: no frame lies below
	frames      []frame // of each procedure
	calls       []call
}

// frame is where the objects of a procedure lie in its frame, and how long that is.
type frame struct {
	at   []int
	size int
}

// registers is the registers of a call.
type registers []uint32

// call is the state of a call that has not ended.
type call struct {
	registers
	proc   int
	block  *api.Block // the one that is being executed
	next   int        // which of its instructions is next
	bottom int        // where the frame lies in the memory
	result int        // the register of the caller that the result goes to, or api.None
}

// placeGlobals places the globals, with their data; false, and the end of the run, if there is no room for them.
func (m *machine) placeGlobals() bool {
	at, size := Place(m.module.Globals)
	if size > MemSize-globalsAt {
		m.E = api.ErrFull
		return false
	}
	for n, d := range m.module.Data {
		at[n] += globalsAt
		copy(m.memory[at[n]:], d)
	}
	m.globals, m.floor = at, globalsAt+size
	return true
}

// run goes on until main has returned, or an error ends the run.
func (m *machine) run() {
	for m.E == api.OK && len(m.calls) > 0 {
		if m.fuel == 0 {
			m.E = api.ErrFuel
			return
		}
		m.fuel--
		c := m.current()
		if c.next < len(c.block.Ins) {
			c.next++
			m.execute(c, &c.block.Ins[c.next-1])
		} else {
			m.end(c)
		}
	}
}

// current is the call that began last.
func (m *machine) current() *call { return &m.calls[len(m.calls)-1] }

// enter begins a call of a procedure, whose result goes to a register of the caller.
func (m *machine) enter(proc int, args []uint32, result int) {
	bottom := MemSize
	if len(m.calls) > 0 {
		bottom = m.current().bottom
	}
	bottom -= m.frames[proc].size
	if bottom < m.floor || len(m.calls) == MaxDeep {
		m.E = api.ErrFull
		return
	}
	p := &m.module.Procs[proc]
	c := m.push()
	*c = call{registers: cleared(c.registers, p.Regs), proc: proc, block: &p.Blocks[0], bottom: bottom, result: result}
	copy(c.registers, args)
}

// push makes room for a call: that of one which has ended, so that its registers serve again.
func (m *machine) push() *call {
	if len(m.calls) == cap(m.calls) {
		m.calls = append(m.calls, call{})
	} else {
		m.calls = m.calls[:len(m.calls)+1]
	}
	return m.current()
}

// cleared is n registers that are 0, in the place of others if that is large enough.
func cleared(r registers, n int) registers {
	if cap(r) < n {
		return make(registers, n)
	}
	r = r[:n]
	clear(r)
	return r
}

// end executes the end of the block of a call.
func (m *machine) end(c *call) {
	b := c.block
	switch b.End {
	case api.EndJump:
		m.jump(c, b.To)
	case api.EndBranch:
		if c.registers[b.A] != 0 {
			m.jump(c, b.To)
		} else {
			m.jump(c, b.Else)
		}
	case api.EndRet:
		m.leave(c)
	}
}

// jump makes a call go on with another block.
func (m *machine) jump(c *call, to int) {
	c.block, c.next = &m.module.Procs[c.proc].Blocks[to], 0
}

// leave ends a call. Its result goes to the caller; that of main's first call ends the run.
func (m *machine) leave(c *call) {
	value := uint32(0)
	if c.block.A != api.None {
		value = c.registers[c.block.A]
	}
	result := c.result
	m.calls = m.calls[:len(m.calls)-1]
	switch {
	case len(m.calls) == 0:
		m.Exit = uint32(byte(value))
	case result != api.None:
		m.current().registers[result] = value
	}
}
