package device

import (
	"rushlight/api"
	"rushlight/word"
)

// byteBits is how many bits a byte has.
const byteBits = 8

// load is what a load takes from an address; false if it faults.
func (m *Machine) load(op int, at uint32) (uint32, bool) {
	switch op {
	case api.OpLb:
		v, ok := m.read(at, 1)
		return word.Sign(v, byteBits), ok
	case api.OpLbu:
		return m.read(at, 1)
	case api.OpLh:
		v, ok := m.read(at, 2)
		return word.Sign(v, 2*byteBits), ok
	case api.OpLhu:
		return m.read(at, 2)
	}
	if at == api.Ports+api.PortIn {
		return m.input(), true
	}
	return m.read(at, wordSize)
}

// store executes a store of v to an address; false if it faults.
func (m *Machine) store(op int, at, v uint32) bool {
	switch op {
	case api.OpSb:
		return m.write(at, 1, v)
	case api.OpSh:
		return m.write(at, 2, v)
	}
	return m.tell(at, v) || m.write(at, wordSize, v)
}

// input is the next input; 0 if there is none.
func (m *Machine) input() uint32 {
	if uint64(m.index) < uint64(len(m.inputs)) {
		return m.inputs[m.index]
	}
	return 0
}

// tell puts v on a port; false if there is none at the address that takes a store.
func (m *Machine) tell(at, v uint32) bool {
	switch at {
	case api.Ports + api.PortSeq:
		m.seq = v
	case api.Ports + api.PortOut:
		m.log = append(m.log, api.Record{Seq: m.seq, Val: v})
	case api.Ports + api.PortIndex:
		m.index = v
	case api.Ports + api.PortHalt:
		m.state, m.exit = api.Halted, v
	default:
		return false
	}
	return true
}

// place is where in the data size bytes at an address lie; false if they may not be accessed.
func (m *Machine) place(at uint32, size int) (int, bool) {
	k := int(at) - api.Base
	return k, k >= 0 && k <= len(m.data)-size && k%size == 0
}

// read is the little-endian number in size bytes of the data.
func (m *Machine) read(at uint32, size int) (uint32, bool) {
	k, ok := m.place(at, size)
	if !ok {
		return 0, false
	}
	v := uint32(0)
	for n := range size {
		v |= uint32(m.data[k+n]) << (byteBits * n)
	}
	return v, true
}

// write puts the lowest size bytes of v into the data, little-endian.
func (m *Machine) write(at uint32, size int, v uint32) bool {
	k, ok := m.place(at, size)
	if !ok {
		return false
	}
	for n := range size {
		m.data[k+n] = byte(v >> (byteBits * n))
	}
	return true
}
