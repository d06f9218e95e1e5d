package device_test

import (
	"math/bits"
	"testing"

	"rushlight/api"
	"rushlight/device"
	"rushlight/inst"
)

// model is a second machine, which takes its instructions apart by itself: the packages inst and word have no part in it.
type model struct {
	stand
	seq, index uint32
	code       []uint32
	data       []byte
	inputs     []uint32
	log        []api.Record
}

func (m *model) fail() {
	if m.state == api.Running {
		m.regs, m.pc, m.seq, m.index = [32]uint32{}, 0, 0, 0
	}
}

func (m *model) step() {
	if m.state != api.Running {
		return
	}
	after := *m
	if !after.execute() {
		m.state = api.Faulted
		return
	}
	after.regs[0] = 0
	after.steps++
	*m = after
}

// execute may change m even if it reports a fault: step drops that.
func (m *model) execute() bool {
	if m.pc%4 != 0 || int(m.pc/4) >= len(m.code) {
		return false
	}
	w := m.code[m.pc/4]
	signed := int32(w)
	rd, f3, f7 := w>>7&31, w>>12&7, w>>25
	a, b := m.regs[w>>15&31], m.regs[w>>20&31]
	immI, immU := uint32(signed>>20), w&0xfffff000
	immS := uint32(signed>>25<<5) | rd
	immB := uint32(signed>>31<<12) | w>>25&0x3f<<5 | w>>8&0xf<<1 | w>>7&1<<11
	immJ := uint32(signed>>31<<20) | w>>21&0x3ff<<1 | w>>20&1<<11 | w>>12&0xff<<12
	pc := m.pc
	m.pc += 4
	switch w & 0x7f {
	case 0x37:
		m.regs[rd] = immU
	case 0x17:
		m.regs[rd] = pc + immU
	case 0x6f:
		m.regs[rd], m.pc = m.pc, pc+immJ
	case 0x67:
		m.regs[rd], m.pc = m.pc, (a+immI)>>1<<1
		return f3 == 0
	case 0x63:
		if taken(f3, a, b) {
			m.pc = pc + immB
		}
		return f3 != 2 && f3 != 3
	case 0x03:
		v, ok := m.load(f3, a+immI)
		m.regs[rd] = v
		return ok
	case 0x23:
		return m.store(f3, a+immS, b)
	case 0x13:
		if f3 == 1 && f7 != 0 || f3 == 5 && f7 != 0 && f7 != 0x20 {
			return false
		}
		if f3 != 5 {
			f7 = 0
		}
		m.regs[rd] = plain(f3, f7, a, immI)
	case 0x33:
		if f7 == 1 {
			m.regs[rd] = product(f3, a, b)
			return true
		}
		m.regs[rd] = plain(f3, f7, a, b)
		return f7 == 0 || f7 == 0x20 && (f3 == 0 || f3 == 5)
	default:
		return false
	}
	return true
}

func taken(f3, a, b uint32) bool {
	yes := false
	switch f3 >> 1 {
	case 0:
		yes = a == b
	case 2:
		yes = int32(a) < int32(b)
	case 3:
		yes = a < b
	}
	return yes != (f3&1 == 1)
}

func truth(b bool) uint32 {
	if b {
		return 1
	}
	return 0
}

func plain(f3, f7, a, b uint32) uint32 {
	switch f3 {
	case 0:
		if f7 != 0 {
			return a - b
		}
		return a + b
	case 1:
		return a << (b % 32)
	case 2:
		return truth(int32(a) < int32(b))
	case 3:
		return truth(a < b)
	case 4:
		return a ^ b
	case 5:
		if f7 != 0 {
			return uint32(int32(a) >> (b % 32))
		}
		return a >> (b % 32)
	case 6:
		return a | b
	}
	return a & b
}

func product(f3, a, b uint32) uint32 {
	x, y := int64(int32(a)), int64(int32(b))
	switch f3 {
	case 0:
		return a * b
	case 1:
		return uint32(uint64(x*y) >> 32)
	case 2:
		return uint32(uint64(x*int64(b)) >> 32)
	case 3:
		high, _ := bits.Mul32(a, b)
		return high
	case 4, 6:
		q, r := int64(-1), x
		if y != 0 {
			q, r = x/y, x%y
		}
		if f3 == 4 {
			return uint32(q)
		}
		return uint32(r)
	}
	q, r := ^uint32(0), a
	if b != 0 {
		q, r = a/b, a%b
	}
	if f3 == 5 {
		return q
	}
	return r
}

func (m *model) load(f3, at uint32) (uint32, bool) {
	if f3 == 2 && at == 0x2000000c {
		if int(m.index) < len(m.inputs) {
			return m.inputs[m.index], true
		}
		return 0, true
	}
	if f3 == 3 || f3 > 5 || !m.has(at, f3&3) {
		return 0, false
	}
	k := at - 0x10000000
	switch f3 {
	case 0:
		return uint32(int32(int8(m.data[k]))), true
	case 1:
		return uint32(int32(int16(uint16(m.data[k]) | uint16(m.data[k+1])<<8))), true
	case 4:
		return uint32(m.data[k]), true
	case 5:
		return uint32(m.data[k]) | uint32(m.data[k+1])<<8, true
	}
	return uint32(m.data[k]) | uint32(m.data[k+1])<<8 | uint32(m.data[k+2])<<16 | uint32(m.data[k+3])<<24, true
}

// has reports whether 2^log bytes at an address may be accessed.
func (m *model) has(at, log uint32) bool {
	return at>>log<<log == at && at >= 0x10000000 && uint64(at)+1<<log <= uint64(0x10000000+len(m.data))
}

func (m *model) store(f3, at, v uint32) bool {
	switch {
	case f3 > 2:
		return false
	case f3 == 2 && at == 0x20000000:
		m.seq = v
	case f3 == 2 && at == 0x20000004:
		m.log = append(m.log, api.Record{Seq: m.seq, Val: v})
	case f3 == 2 && at == 0x20000008:
		m.index = v
	case f3 == 2 && at == 0x20000010:
		m.state, m.exit = api.Halted, v
	case !m.has(at, f3):
		return false
	default:
		for k := uint32(0); k < 1<<f3; k++ {
			m.data[at-0x10000000+k] = byte(v >> (8 * k))
		}
	}
	return true
}

// agrees reports whether a machine stands as the model does.
func (m *model) agrees(d *device.Machine) bool {
	if standing(d) != m.stand || string(d.Data()) != string(m.data) {
		return false
	}
	l := d.Log()
	for k, r := range l {
		if k >= len(m.log) || r != m.log[k] {
			return false
		}
	}
	return len(l) == len(m.log)
}

// dice gives numbers that look like chance and are always the same.
type dice uint32

func (d *dice) roll(n int) int {
	*d = *d*1664525 + 1013904223
	return int(*d>>8) % n
}

// pick is one of these numbers.
func (d *dice) pick(l ...int) int { return l[d.roll(len(l))] }

// register is mostly one of a few registers, so that instructions have to do with each other.
func (d *dice) register() int { return d.pick(0, 5, 6, 7, 8, 9, 5, 6, 7, 8, 9, d.roll(32)) }

// any is an instruction whose loads and stores mostly hit something, and whose jumps mostly stay in the code.
func (d *dice) any(op int) api.Inst {
	i := api.Inst{Op: op, Rd: d.register(), Rs1: d.register(), Rs2: d.register()}
	switch inst.Form(op) {
	case 'U':
		i.Imm = d.pick(0, 1, -1, 1<<19-1, -1<<19, d.roll(1<<19)) * 4096
	case 'J', 'B':
		i.Imm = d.pick(4, 8, 12, 16, 20, -8, -20, 4*d.roll(9), 2*d.roll(9))
	case 'H':
		i.Imm = d.roll(32)
	default:
		i.Imm = d.pick(0, 1, -1, 2047, -2048, d.roll(4096)-2048)
	}
	if op >= api.OpLb && op <= api.OpSw {
		i.Rs1, i.Imm = d.access(op)
	}
	return trimmed(i)
}

// access is the register and the offset of a load or store: mostly a port or data that may be accessed.
func (d *dice) access(op int) (reg, imm int) {
	if d.roll(12) == 0 {
		return d.pick(1, 1, 2, d.register()), d.pick(4*d.roll(9), d.roll(36)-4)
	}
	port := d.roll(2) == 0
	switch {
	case op == api.OpLw && port:
		return 2, api.PortIn
	case op == api.OpSw && port:
		return 2, d.pick(api.PortSeq, api.PortOut, api.PortOut, api.PortOut, api.PortIndex, api.PortSeq, api.PortOut, api.PortHalt)
	}
	return 1, d.pick(4*d.roll(4), 4*d.roll(4), d.roll(16))
}

// trimmed is i without what its format does not use.
func trimmed(i api.Inst) api.Inst {
	switch inst.Form(i.Op) {
	case 'U', 'J':
		i.Rs1, i.Rs2 = 0, 0
	case 'I', 'H':
		i.Rs2 = 0
	case 'S', 'B':
		i.Rd = 0
	case 'R':
		i.Imm = 0
	}
	return i
}

// program is code that sets a few registers and then does anything.
func (d *dice) program(t *testing.T) []uint32 {
	code := words(t, lui(1, api.Base), lui(2, api.Ports))
	for reg := 5; reg < 9; reg++ {
		code = append(code, words(t, lui(reg, d.pick(0, 0, 1<<19-1, -1<<19, -1)*4096), addi(reg, reg, d.roll(4096)-2048))...)
	}
	code = append(code, words(t, lw(9, 1, 4*d.roll(8)))...)
	for range 30 {
		switch d.roll(60) {
		case 0:
			code = append(code, uint32(d.roll(1<<24))<<8|uint32(d.roll(256)))
		case 1: // jalr to a word of the code, mostly
			code = append(code, words(t, api.Inst{Op: api.OpJalr, Rd: d.register(), Imm: d.pick(1, 4, 4, 4, 2)*d.roll(44) + d.roll(2)})...)
		default:
			code = append(code, word(t, d.any(1+d.roll(api.OpRemu))))
		}
	}
	if d.roll(2) == 0 {
		code = append(code, words(t, sw(2, d.register(), api.PortHalt))...)
	}
	return code
}

// Promises 3.1 to 3.3, and the definitions: whatever the code is, machine and model stand the same after each step.
func TestAgainstModel(t *testing.T) {
	d := dice(1)
	ends := map[int]int{}
	done := map[int]int{}
	records := 0
	for n := range 8000 {
		code := d.program(t)
		data := make([]byte, 4*d.pick(1, 4, 5, 8, 8, 9, 16))
		for k := range data {
			data[k] = byte(d.pick(0, 255, 127, 128, d.roll(256)))
		}
		inputs := make([]uint32, d.roll(4))
		for k := range inputs {
			inputs[k] = uint32(100 + k)
		}
		m := &model{code: code, data: append([]byte{}, data...), inputs: inputs}
		dev := made(t, code, data, inputs...)
		for range 150 {
			if d.roll(40) == 0 {
				m.fail()
				dev.Fail()
			}
			at, before := m.pc, m.steps
			m.step()
			if m.steps > before {
				i, _ := inst.Decode(code[at/4])
				done[i.Op]++
			}
			if s := dev.Step(); s != m.state || !m.agrees(dev) {
				t.Fatalf("program %d, at %d: %+v, %v, not %+v, %v", n, at, standing(dev), dev.Log(), m.stand, m.log)
			}
		}
		ends[m.state]++
		records += len(m.log)
	}
	for op := api.OpLui; op <= api.OpRemu; op++ {
		if done[op] < 500 {
			t.Errorf("%s was executed %d times: that tells little", inst.Name(op), done[op])
		}
	}
	if ends[api.Running] < 100 || ends[api.Halted] < 100 || ends[api.Faulted] < 100 || records < 500 {
		t.Errorf("ends %v, %d records: that tells little", ends, records)
	}
}
