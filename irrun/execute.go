package irrun

import "rushlight/api"

// execute executes an instruction of a call.
func (m *machine) execute(c *call, i *api.Ins) {
	r := c.registers
	switch i.Op {
	case api.IrConst:
		r[i.D] = i.Num
	case api.IrCopy:
		r[i.D] = r[i.A]
	case api.IrBin:
		r[i.D] = Fn(i.Fn, r[i.A], r[i.B])
	case api.IrUn:
		r[i.D] = Fn(i.Fn, r[i.A], 0)
	case api.IrLoad:
		if l := m.bytes(r[i.A], i); l != nil {
			r[i.D] = number(l)
		}
	case api.IrStore:
		if l := m.bytes(r[i.A], i); l != nil {
			put(l, r[i.B])
		}
	case api.IrFrame:
		r[i.D] = address(c.bottom + m.frames[c.proc].at[i.Obj] + i.Off)
	case api.IrGlobal:
		r[i.D] = address(m.globals[i.Obj] + i.Off)
	case api.IrCall:
		m.call(c, i)
	case api.IrOut:
		m.Out = append(m.Out, r[i.A])
	case api.IrIn:
		r[i.D] = m.read()
	case api.IrMark: // nothing is lost here that could be sure
	}
}

// call calls a procedure.
func (m *machine) call(c *call, i *api.Ins) {
	var args [6]uint32 // as many as a valid procedure has at most
	for k, r := range i.Args {
		args[k] = c.registers[r]
	}
	m.enter(i.Obj, args[:len(i.Args)], i.D)
}

// read is the next input; 0 after the last one.
func (m *machine) read() uint32 {
	m.Ins++
	if m.Ins > len(m.inputs) {
		return 0
	}
	return m.inputs[m.Ins-1]
}

// address is the address of a byte of the memory, or of what would lie beyond it.
func address(at int) uint32 { return api.Base + uint32(at) }

// bytes is the bytes that a load or store accesses behind an address; nil, and the end of the run, if it must not.
func (m *machine) bytes(a uint32, i *api.Ins) []byte {
	at := int(a + uint32(i.Off) - api.Base)
	if at+i.Size > MemSize || at%i.Size != 0 {
		m.E = api.ErrBound
		return nil
	}
	return m.memory[at : at+i.Size]
}

// number is the little-endian number of bytes.
func number(l []byte) uint32 {
	n := uint32(0)
	for k, b := range l {
		n |= uint32(b) << (8 * k)
	}
	return n
}

// put makes bytes those of a number, as many of them as there are.
func put(l []byte, n uint32) {
	for k := range l {
		l[k] = byte(n >> (8 * k))
	}
}
