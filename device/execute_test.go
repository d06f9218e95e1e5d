package device_test

import (
	"bytes"
	"math"
	"slices"
	"testing"

	"rushlight/api"
	"rushlight/device"
	"rushlight/inst"
)

// holding is a machine whose registers 1 and 2 hold base and ports, 5 and 6 these numbers, and that is about to execute i; its data end with both numbers.
func holding(t *testing.T, a, b uint32, size int, i api.Inst) *device.Machine {
	t.Helper()
	data := make([]byte, size)
	for k := range 4 {
		data[size-8+k], data[size-4+k] = byte(a>>(8*k)), byte(b>>(8*k))
	}
	code := words(t, lui(1, api.Base), lui(2, api.Ports), lw(5, 1, size-8), lw(6, 1, size-4), i)
	m := made(t, code, data, 70, 71, 72)
	if m.Run(4, nil) != api.Running || m.Reg(5) != a || m.Reg(6) != b {
		t.Fatalf("%+v", standing(m))
	}
	return m
}

// least, most and the like are the edges of signed words.
const (
	least  = uint32(1 << 31)
	most   = least - 1
	minus1 = uint32(math.MaxUint32)
)

// Arithmetic, between two registers.
func TestRegisters(t *testing.T) {
	neg := func(n uint32) uint32 { return -n }
	for _, x := range []struct {
		op         int
		a, b, want uint32
	}{
		{api.OpAdd, minus1, 2, 1}, {api.OpSub, 1, 2, minus1}, {api.OpSll, 3, 33, 6}, {api.OpSrl, neg(7), 1, most - 3}, {api.OpSra, neg(7), 1, neg(4)}, {api.OpSra, 7, 33, 3},
		{api.OpSlt, minus1, 0, 1}, {api.OpSlt, 0, minus1, 0}, {api.OpSlt, 4, 4, 0}, {api.OpSltu, minus1, 0, 0}, {api.OpSltu, 0, minus1, 1}, {api.OpSltu, 4, 4, 0},
		{api.OpXor, 12, 10, 6}, {api.OpOr, 12, 10, 14}, {api.OpAnd, 12, 10, 8},
		{api.OpMul, neg(3), 5, neg(15)}, {api.OpMulh, minus1, minus1, 0}, {api.OpMulh, minus1, 5, minus1}, {api.OpMulhsu, minus1, minus1, minus1}, {api.OpMulhu, minus1, minus1, neg(2)},
		{api.OpDiv, neg(7), 2, neg(3)}, {api.OpDiv, 7, 0, minus1}, {api.OpDiv, least, minus1, least}, {api.OpDivu, neg(7), 2, 1<<31 - 4}, {api.OpDivu, 7, 0, minus1},
		{api.OpRem, neg(7), 2, minus1}, {api.OpRem, 7, neg(2), 1}, {api.OpRem, 7, 0, 7}, {api.OpRem, least, minus1, 0}, {api.OpRemu, neg(7), 2, 1}, {api.OpRemu, 7, 0, 7},
	} {
		m := holding(t, x.a, x.b, 8, api.Inst{Op: x.op, Rd: 7, Rs1: 5, Rs2: 6})
		if m.Step() != api.Running || m.Reg(7) != x.want || m.Reg(5) != x.a || m.Reg(6) != x.b || m.Pc() != 20 || m.Steps() != 5 {
			t.Errorf("%s %#x, %#x: %#x, not %#x", inst.Name(x.op), x.a, x.b, m.Reg(7), x.want)
		}
	}
}

// Arithmetic with an immediate, and the two instructions that have only that.
func TestImmediates(t *testing.T) {
	for _, x := range []struct {
		op   int
		a    uint32
		imm  int
		want uint32
	}{
		{api.OpAddi, 1, -2, minus1}, {api.OpAddi, minus1, 2047, 2046}, {api.OpAddi, 0, -2048, minus1 - 2047},
		{api.OpSlti, minus1, 0, 1}, {api.OpSlti, 0, -1, 0}, {api.OpSlti, least, -2048, 1}, {api.OpSlti, 5, 5, 0},
		{api.OpSltiu, 5, -1, 1}, {api.OpSltiu, minus1, -1, 0}, {api.OpSltiu, minus1 - 1, -1, 1}, {api.OpSltiu, 0, 0, 0}, {api.OpSltiu, 0, 1, 1},
		{api.OpXori, 12, -1, minus1 - 12}, {api.OpXori, 12, 10, 6}, {api.OpOri, 12, 10, 14}, {api.OpOri, 1, -2048, minus1 - 2046}, {api.OpAndi, minus1, -4, minus1 - 3}, {api.OpAndi, 12, 10, 8},
		{api.OpSlli, 3, 31, least}, {api.OpSlli, 3, 0, 3}, {api.OpSrli, least, 31, 1}, {api.OpSrai, least, 31, minus1}, {api.OpSrai, most, 30, 1},
		{api.OpLui, 0, -4096, 0xfffff000}, {api.OpLui, 0, 0x12345000, 0x12345000},
		{api.OpAuipc, 0, 0, 16}, {api.OpAuipc, 0, 0x1000, 0x1010}, {api.OpAuipc, 0, -4096, 0xfffff010},
	} {
		m := holding(t, x.a, 99, 8, trimmed(api.Inst{Op: x.op, Rd: 7, Rs1: 5, Imm: x.imm}))
		if m.Step() != api.Running || m.Reg(7) != x.want || m.Pc() != 20 || m.Steps() != 5 {
			t.Errorf("%s %#x, %d: %#x, not %#x", inst.Name(x.op), x.a, x.imm, m.Reg(7), x.want)
		}
	}
}

// Register 0 stays 0, whatever is put there; an instruction may put its result over its operand.
func TestRegisterZero(t *testing.T) {
	for op := api.OpLui; op <= api.OpRemu; op++ {
		i := trimmed(api.Inst{Op: op, Rs1: 5, Rs2: 6, Imm: 4})
		if inst.Form(op) == 'U' {
			i.Imm = 4096
		}
		if op == api.OpJalr || op >= api.OpLb && op <= api.OpSw {
			i.Rs1 = 1
		}
		m := holding(t, 7, 3, 8, i)
		if s := m.Step(); s != api.Running || m.Reg(0) != 0 || m.Steps() != 5 {
			t.Errorf("%s: state %d, register 0: %d", inst.Name(op), s, m.Reg(0))
		}
	}
	m := holding(t, 7, 3, 8, api.Inst{Op: api.OpSub, Rd: 5, Rs1: 5, Rs2: 6})
	if m.Step(); m.Reg(5) != 4 {
		t.Errorf("sub 5, 5, 6: %d", m.Reg(5))
	}
}

// Branches: taken, forward and back, and not taken.
func TestBranches(t *testing.T) {
	pairs := [][2]uint32{{0, 0}, {0, 1}, {1, 0}, {minus1, 0}, {0, minus1}, {least, most}, {most, least}, {minus1, minus1}, {5, 7}}
	for _, x := range []struct {
		op    int
		holds func(a, b uint32) bool
	}{
		{api.OpBeq, func(a, b uint32) bool { return a == b }}, {api.OpBne, func(a, b uint32) bool { return a != b }},
		{api.OpBlt, func(a, b uint32) bool { return int32(a) < int32(b) }}, {api.OpBge, func(a, b uint32) bool { return int32(a) >= int32(b) }},
		{api.OpBltu, func(a, b uint32) bool { return a < b }}, {api.OpBgeu, func(a, b uint32) bool { return a >= b }},
	} {
		for _, p := range pairs {
			for _, imm := range []int{0, 2, 8, -8, 4094, -4096} {
				m := holding(t, p[0], p[1], 8, api.Inst{Op: x.op, Rs1: 5, Rs2: 6, Imm: imm})
				want := uint32(20)
				if x.holds(p[0], p[1]) {
					want = uint32(16 + imm)
				}
				if s := m.Step(); s != api.Running || m.Pc() != want || m.Steps() != 5 {
					t.Errorf("%s %#x, %#x by %d: state %d, pc %#x, not %#x", inst.Name(x.op), p[0], p[1], imm, s, m.Pc(), want)
				}
			}
		}
	}
}

// Jumps, with what they keep of pc; jalr clears the lowest bit of the sum, and takes its operand before it puts pc + 4 there.
func TestJumps(t *testing.T) {
	for _, x := range []struct {
		i    api.Inst
		a    uint32
		want uint32
	}{
		{jal(7, 8), 0, 24}, {jal(7, -16), 0, 0}, {jal(7, 0), 0, 16}, {jal(7, 2), 0, 18}, {jal(7, 1<<20-2), 0, 1<<20 + 14}, {jal(7, -1<<20), 0, minus1 - 1<<20 + 17},
		{api.Inst{Op: api.OpJalr, Rd: 7, Rs1: 5}, 8, 8}, {api.Inst{Op: api.OpJalr, Rd: 7, Rs1: 5}, 9, 8}, {api.Inst{Op: api.OpJalr, Rd: 7, Rs1: 5, Imm: 3}, 9, 12}, {api.Inst{Op: api.OpJalr, Rd: 7, Rs1: 5, Imm: 3}, 8, 10},
		{api.Inst{Op: api.OpJalr, Rd: 7, Rs1: 5, Imm: -4}, 4, 0}, {api.Inst{Op: api.OpJalr, Rd: 7, Rs1: 5, Imm: 1}, minus1, 0}, {api.Inst{Op: api.OpJalr, Rd: 7, Rs1: 5, Imm: -1}, 0, minus1 - 1},
		{api.Inst{Op: api.OpJalr, Rd: 5, Rs1: 5, Imm: 4}, 8, 12}, {api.Inst{Op: api.OpJalr, Rs1: 5, Imm: 4}, 8, 12}, {jal(0, 8), 0, 24},
	} {
		m := holding(t, x.a, 0, 8, x.i)
		s := m.Step()
		if s != api.Running || m.Pc() != x.want || m.Steps() != 5 {
			t.Errorf("%v of %#x: state %d, pc %#x, not %#x", x.i, x.a, s, m.Pc(), x.want)
		}
		if m.Reg(x.i.Rd) != 20 && x.i.Rd != 0 {
			t.Errorf("%v of %#x: the way back is %#x", x.i, x.a, m.Reg(x.i.Rd))
		}
	}
}

// A fault at a pc that is not in the code, after an instruction that led there and is counted.
func TestPcFaults(t *testing.T) {
	for _, x := range []struct {
		i  api.Inst
		a  uint32
		pc uint32
	}{
		{jal(7, 2), 0, 18}, {jal(7, 8), 0, 24}, {jal(7, -20), 0, minus1 - 3}, {addi(7, 0, 20), 0, 20}, {api.Inst{Op: api.OpBeq, Imm: -2}, 0, 14},
		{api.Inst{Op: api.OpJalr, Rd: 7, Rs1: 5}, 3, 2}, {api.Inst{Op: api.OpJalr, Rd: 7, Rs1: 5}, api.Base, api.Base}, {api.Inst{Op: api.OpJalr, Rd: 7, Rs1: 5}, least, least},
	} {
		m := holding(t, x.a, 0, 8, x.i)
		if m.Step() != api.Running || m.Pc() != x.pc {
			t.Fatalf("%v: %+v", x.i, standing(m))
		}
		want := standing(m)
		want.state = api.Faulted
		if s := m.Step(); s != api.Faulted || standing(m) != want {
			t.Errorf("%v: state %d, %+v, not %+v", x.i, s, standing(m), want)
		}
	}
}

// Each word that is no instruction faults.
func TestWordFaults(t *testing.T) {
	for _, w := range []uint32{0, minus1, 0x00000073, 0x0000000f, 0x00001067, 0x00002063, 0x00003003, 0x00003023, 0x02001013, 0x04000033} {
		m := made(t, append(words(t, addi(5, 0, 7)), w), make([]byte, 4))
		m.Step()
		want := stand{state: api.Faulted, steps: 1, pc: 4}
		want.regs[5] = 7
		if s := m.Step(); s != api.Faulted || standing(m) != want {
			t.Errorf("%#x: state %d, %+v", w, s, standing(m))
		}
	}
}

// The last word of the longest code is executed; behind it there is nothing.
func TestLongestCode(t *testing.T) {
	code := make([]uint32, device.MaxCode)
	code[0] = word(t, jal(0, 4*device.MaxCode-4))
	code[device.MaxCode-1] = word(t, addi(5, 5, 1))
	m := made(t, code, make([]byte, 4))
	if s := m.Run(9, nil); s != api.Faulted || m.Steps() != 2 || m.Reg(5) != 1 || m.Pc() != 4*device.MaxCode {
		t.Errorf("state %d, %+v", s, standing(m))
	}
}

// Loads and stores of each width: little-endian, lb and lh with their sign, and nothing beside the bytes is changed.
func TestLoadsAndStores(t *testing.T) {
	for _, x := range []struct {
		op, imm int
		want    uint32
	}{
		{api.OpLb, 0, 0xfffffff8}, {api.OpLb, 3, 0x71}, {api.OpLb, 1, 0xffffff83}, {api.OpLbu, 0, 0xf8}, {api.OpLbu, 2, 0x92}, {api.OpLb, 7, 0x10}, {api.OpLbu, 7, 0x10},
		{api.OpLh, 0, 0xffff83f8}, {api.OpLh, 2, 0x7192}, {api.OpLhu, 0, 0x83f8}, {api.OpLhu, 2, 0x7192}, {api.OpLhu, 6, 0x1032}, {api.OpLw, 0, 0x719283f8}, {api.OpLw, 4, 0x10325476},
	} {
		m := holding(t, 0x719283f8, 0x10325476, 8, api.Inst{Op: x.op, Rd: 7, Rs1: 1, Imm: x.imm})
		before := m.Data()
		if s := m.Step(); s != api.Running || m.Reg(7) != x.want || m.Steps() != 5 || m.Pc() != 20 || !bytes.Equal(m.Data(), before) {
			t.Errorf("%s at %d: state %d, %#x, not %#x", inst.Name(x.op), x.imm, s, m.Reg(7), x.want)
		}
	}
	for _, x := range []struct {
		op, imm int
		want    []byte
	}{
		{api.OpSb, 0, []byte{0x76, 0, 0, 0}}, {api.OpSb, 1, []byte{0, 0x76, 0, 0}}, {api.OpSb, 3, []byte{0, 0, 0, 0x76}},
		{api.OpSh, 0, []byte{0x76, 0x54, 0, 0}}, {api.OpSh, 2, []byte{0, 0, 0x76, 0x54}}, {api.OpSw, 0, []byte{0x76, 0x54, 0x32, 0x10}},
	} {
		m := holding(t, 0, 0x10325476, 12, api.Inst{Op: x.op, Rs1: 1, Rs2: 6, Imm: x.imm})
		want := append(slices.Clone(x.want), 0, 0, 0, 0, 0x76, 0x54, 0x32, 0x10)
		if s := m.Step(); s != api.Running || m.Steps() != 5 || m.Pc() != 20 || !bytes.Equal(m.Data(), want) {
			t.Errorf("%s at %d: state %d, %v, not %v", inst.Name(x.op), x.imm, s, m.Data(), want)
		}
	}
}

// Which addresses may be accessed: the size divides them, and all bytes are data; or a word at a port that takes it.
func TestAccess(t *testing.T) {
	const end = api.Base + 64
	ats := []uint32{0, 4, most, least, minus1, minus1 - 1, minus1 - 3, api.Base / 2, end - 5, end - 4, end - 3, end - 2, end - 1, end, end + 1, end + 2, end + 4, api.Base + device.MaxData, api.Base + 1<<31}
	for k := uint32(0); k < 24; k++ {
		ats = append(ats, api.Base-8+k, api.Ports-8+k, api.Ports+12+k)
	}
	for op := api.OpLb; op <= api.OpSw; op++ {
		size := map[int]uint32{api.OpLb: 1, api.OpLbu: 1, api.OpSb: 1, api.OpLh: 2, api.OpLhu: 2, api.OpSh: 2}[op]
		if size == 0 {
			size = 4
		}
		for _, at := range ats {
			ok := at%size == 0 && at >= api.Base && at <= end-size
			switch at - api.Ports {
			case api.PortSeq, api.PortOut, api.PortIndex, api.PortHalt:
				ok = op == api.OpSw
			case api.PortIn:
				ok = op == api.OpLw
			}
			for _, imm := range []int{0, 2047, -2048} {
				m := holding(t, at-uint32(imm), 0x10325476, 64, trimmed(api.Inst{Op: op, Rd: 7, Rs1: 5, Rs2: 6, Imm: imm}))
				access(t, m, op, at, ok)
			}
		}
	}
}

// access holds that the next step is executed, or faults and changes nothing but the state.
func access(t *testing.T, m *device.Machine, op int, at uint32, ok bool) {
	t.Helper()
	before, data := standing(m), m.Data()
	s := m.Step()
	if ok {
		if s == api.Faulted || m.Steps() != before.steps+1 || m.Pc() != before.pc+4 {
			t.Errorf("%s at %#x: state %d", inst.Name(op), at, s)
		}
		return
	}
	before.state = api.Faulted
	if s != api.Faulted || standing(m) != before || !bytes.Equal(m.Data(), data) || len(m.Log()) != 0 {
		t.Errorf("%s at %#x: state %d, %+v, no fault", inst.Name(op), at, s, standing(m))
	}
}

// A load into register 0 faults as any other does.
func TestLoadIntoZero(t *testing.T) {
	if m := holding(t, 0, 0, 8, lw(0, 5, 0)); m.Step() != api.Faulted {
		t.Error("no fault")
	}
}

// All data can be reached, up to the last byte of the most there may be.
func TestMostData(t *testing.T) {
	data := make([]byte, device.MaxData)
	data[device.MaxData-1] = 0x81
	m := made(t, words(t, lui(1, api.Base+device.MaxData), lw(5, 1, -4), api.Inst{Op: api.OpSb, Rs1: 1, Rs2: 1, Imm: -1}, lw(6, 1, 0)), data)
	if s := m.Run(9, nil); s != api.Faulted || m.Steps() != 3 || m.Reg(5) != 0x81000000 || m.Data()[device.MaxData-1] != 0 {
		t.Errorf("state %d, %+v", s, standing(m))
	}
}

// The ports: records take the number that was set last, inputs are taken by their index, and neither goes on by itself.
func TestPorts(t *testing.T) {
	m := made(t, words(t, lui(2, api.Ports), addi(5, 0, 11), sw(2, 5, api.PortOut), addi(6, 0, 4), sw(2, 6, api.PortSeq), sw(2, 5, api.PortOut), addi(5, 0, 12), sw(2, 5, api.PortOut), sw(2, 0, api.PortSeq), sw(2, 6, api.PortOut)), make([]byte, 4))
	m.Run(10, nil)
	if want := []api.Record{{Seq: 0, Val: 11}, {Seq: 4, Val: 11}, {Seq: 4, Val: 12}, {Seq: 0, Val: 4}}; !slices.Equal(m.Log(), want) || m.State() != api.Running {
		t.Errorf("log %v", m.Log())
	}
	for _, x := range []struct{ index, want uint32 }{{0, 70}, {1, 71}, {2, 72}, {3, 0}, {1000, 0}, {least, 0}, {minus1, 0}} {
		code := words(t, lui(1, api.Base), lui(2, api.Ports), lw(5, 1, 0), addi(7, 0, -1), sw(2, 5, api.PortIndex), lw(7, 2, api.PortIn), lw(8, 2, api.PortIn))
		m := made(t, code, []byte{byte(x.index), byte(x.index >> 8), byte(x.index >> 16), byte(x.index >> 24)}, 70, 71, 72)
		if s := m.Run(7, nil); s != api.Running || m.Reg(7) != x.want || m.Reg(8) != x.want {
			t.Errorf("input %d: state %d, %d and %d, not %d", x.index, s, m.Reg(7), m.Reg(8), x.want)
		}
	}
}
