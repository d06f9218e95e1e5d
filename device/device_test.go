package device_test

import (
	"bytes"
	"math"
	"slices"
	"testing"

	"rushlight/api"
	"rushlight/device"
	"rushlight/inst"
)

// word is the word of an instruction.
func word(t *testing.T, i api.Inst) uint32 {
	t.Helper()
	w, e := inst.Encode(i)
	if e != api.OK {
		t.Fatalf("no instruction: %v", i)
	}
	return w
}

// words is the words of instructions.
func words(t *testing.T, l ...api.Inst) []uint32 {
	t.Helper()
	var code []uint32
	for _, i := range l {
		code = append(code, word(t, i))
	}
	return code
}

func lui(rd int, n int) api.Inst { return api.Inst{Op: api.OpLui, Rd: rd, Imm: n} }

func addi(rd, rs1, imm int) api.Inst { return api.Inst{Op: api.OpAddi, Rd: rd, Rs1: rs1, Imm: imm} }

func lw(rd, rs1, imm int) api.Inst { return api.Inst{Op: api.OpLw, Rd: rd, Rs1: rs1, Imm: imm} }

func sw(rs1, rs2, imm int) api.Inst { return api.Inst{Op: api.OpSw, Rs1: rs1, Rs2: rs2, Imm: imm} }

func jal(rd, imm int) api.Inst { return api.Inst{Op: api.OpJal, Rd: rd, Imm: imm} }

// made is a machine that New must accept.
func made(t *testing.T, code []uint32, data []byte, inputs ...uint32) *device.Machine {
	t.Helper()
	m, e := device.New(code, data, inputs)
	if e != api.OK || m == nil {
		t.Fatalf("New: %v", e)
	}
	return m
}

// program is a machine with these instructions and 16 bytes of data.
func program(t *testing.T, l ...api.Inst) *device.Machine {
	t.Helper()
	return made(t, words(t, l...), make([]byte, 16))
}

// stand is all that a machine tells of itself.
type stand struct {
	state, steps int
	exit, pc     uint32
	regs         [32]uint32
}

func standing(m *device.Machine) stand {
	s := stand{state: m.State(), steps: m.Steps(), exit: m.Exit(), pc: m.Pc()}
	for k := range s.regs {
		s.regs[k] = m.Reg(k)
	}
	return s
}

// same reports whether two machines tell the same of themselves.
func same(a, b *device.Machine) bool {
	return standing(a) == standing(b) && slices.Equal(a.Log(), b.Log()) && bytes.Equal(a.Data(), b.Data())
}

// Promise 3.1: how many words and bytes there may be.
func TestNewLimits(t *testing.T) {
	for _, x := range []struct {
		code, data int
		ok         bool
	}{
		{0, 4, false}, {1, 0, false}, {0, 0, false}, {1, 1, false}, {1, 2, false}, {1, 3, false}, {1, 5, false}, {1, 6, false}, {1, 7, false}, {1, 4098, false},
		{device.MaxCode + 1, 4, false}, {1, device.MaxData + 1, false}, {1, device.MaxData + 4, false}, {1, device.MaxData - 2, false},
		{1, 4, true}, {1, 8, true}, {device.MaxCode, 4, true}, {1, device.MaxData, true}, {device.MaxCode, device.MaxData, true},
	} {
		m, e := device.New(make([]uint32, x.code), make([]byte, x.data), nil)
		switch {
		case x.ok && (e != api.OK || m == nil):
			t.Errorf("%d words, %d bytes: %v", x.code, x.data, e)
		case !x.ok && (e != api.ErrArg || m != nil):
			t.Errorf("%d words, %d bytes: %v, %v", x.code, x.data, m, e)
		}
	}
	if m, e := device.New(nil, nil, nil); m != nil || e != api.ErrArg {
		t.Errorf("nil code and data: %v, %v", m, e)
	}
}

// Promise 3.1: how a machine begins.
func TestBeginning(t *testing.T) {
	data := []byte{1, 2, 3, 4}
	m := made(t, []uint32{0}, data, 7)
	if standing(m) != (stand{}) || len(m.Log()) != 0 || !bytes.Equal(m.Data(), data) {
		t.Errorf("%+v, %v, %v", standing(m), m.Log(), m.Data())
	}
}

// The chapter's example, and promise 3.1: Step and Fail.
func TestExample(t *testing.T) {
	m := program(t, addi(1, 0, 5), jal(0, 0))
	if a, b := m.Step(), m.Step(); a != api.Running || b != api.Running || m.Reg(1) != 5 || m.Pc() != 4 || m.Steps() != 2 {
		t.Errorf("after two steps: %+v", standing(m))
	}
	m.Fail()
	if want := (stand{steps: 2}); standing(m) != want {
		t.Errorf("after the failure: %+v", standing(m))
	}
}

// Promise 3.3: numbers of registers that do not exist.
func TestNoRegister(t *testing.T) {
	m := program(t, addi(31, 0, 5))
	m.Step()
	for _, n := range []int{-1, 32, 33, 64, math.MinInt, math.MaxInt, 1 << 32, 1<<32 + 31} {
		if m.Reg(n) != 0 {
			t.Errorf("Reg(%d): %d", n, m.Reg(n))
		}
	}
	if m.Reg(31) != 5 {
		t.Error("Reg(31)")
	}
}

// Promise 3.3: a nil machine, and rule R1: one that New did not make.
func TestNoMachine(t *testing.T) {
	var m *device.Machine
	m.Fail()
	if m.Step() != 0 || m.Run(5, []int{0, 1}) != 0 || m.State() != 0 || m.Exit() != 0 || m.Steps() != 0 || m.Pc() != 0 || m.Reg(0) != 0 || m.Reg(5) != 0 || m.Log() != nil || m.Data() != nil {
		t.Error("a nil machine tells something")
	}
	z := &device.Machine{}
	z.Fail()
	if z.Step() != api.Faulted || z.Run(5, []int{0}) != api.Faulted || z.Steps() != 0 || len(z.Log()) != 0 || len(z.Data()) != 0 {
		t.Error("a machine without code does not fault")
	}
}

// Rule R3: arguments are neither modified nor retained, and results are copies.
func TestNothingIsShared(t *testing.T) {
	code := words(t, lui(1, api.Base), lui(2, api.Ports), addi(3, 0, 9), sw(1, 3, 0), lw(4, 2, api.PortIn), sw(2, 4, api.PortOut), jal(0, 0))
	data, inputs, fails := []byte{1, 2, 3, 4}, []uint32{77}, []int{2, 3}
	codeBefore := slices.Clone(code)
	m := made(t, code, data, inputs...)
	m.Run(12, fails)
	if !slices.Equal(code, codeBefore) || !bytes.Equal(data, []byte{1, 2, 3, 4}) || inputs[0] != 77 || !slices.Equal(fails, []int{2, 3}) {
		t.Fatal("an argument is modified")
	}
	n, e := device.New(code, data, inputs)
	clear(code)
	data[1], inputs[0] = 99, 99
	n.Run(12, fails)
	if e != api.OK || !same(m, n) || m.Log()[0].Val != 77 {
		t.Error("an argument is retained")
	}
	m.Log()[0].Val, m.Data()[0] = 5, 5
	if !same(m, n) {
		t.Error("a result shares memory with the machine")
	}
	l, d := m.Log(), m.Data()
	early := made(t, words(t, lui(1, api.Base), lui(2, api.Ports), sw(1, 2, 0), sw(2, 1, api.PortOut), sw(1, 1, 0), sw(2, 2, api.PortOut)), make([]byte, 4))
	early.Run(4, nil)
	l, d = early.Log(), early.Data()
	early.Run(6, nil)
	if len(l) != 1 || l[0].Val != api.Base || d[3] != byte(api.Ports>>24) {
		t.Errorf("a result changes later: %v, %v", l, d)
	}
}

// Promises 3.1 and 3.4: what has halted or faulted stays so, whatever is done with it.
func TestEndsStay(t *testing.T) {
	halts := program(t, addi(5, 0, 7), lui(2, api.Ports), sw(2, 5, api.PortHalt), addi(5, 5, 1))
	faults := program(t, addi(5, 0, 7), lui(2, api.Ports), lw(5, 2, api.PortHalt), addi(5, 5, 1))
	if s := halts.Run(99, nil); s != api.Halted || halts.Exit() != 7 || halts.Steps() != 3 || halts.Pc() != 12 {
		t.Errorf("halted: %d, %+v", s, standing(halts))
	}
	if s := faults.Run(99, nil); s != api.Faulted || faults.Exit() != 0 || faults.Steps() != 2 || faults.Pc() != 8 {
		t.Errorf("faulted: %d, %+v", s, standing(faults))
	}
	for _, m := range []*device.Machine{halts, faults} {
		before := standing(m)
		m.Fail()
		if s := m.Step(); s != before.state {
			t.Errorf("Step: %d after %d", s, before.state)
		}
		if s := m.Run(200, []int{2, 3, 4, 5}); s != before.state {
			t.Errorf("Run: %d after %d", s, before.state)
		}
		if standing(m) != before {
			t.Errorf("%+v, not %+v", standing(m), before)
		}
	}
}

// Promise 3.3: the number with which a machine halts is a whole word, and 0 is one as well.
func TestExit(t *testing.T) {
	for _, n := range []int{0, 1, 255, 256, -1} {
		m := program(t, addi(5, 0, n), lui(2, api.Ports), sw(2, 5, api.PortHalt))
		if m.Run(2, nil) != api.Running || m.Exit() != 0 {
			t.Errorf("%d: not running", n)
		}
		if m.Step() != api.Halted || m.Exit() != uint32(n) || m.Steps() != 3 {
			t.Errorf("%d: %+v", n, standing(m))
		}
	}
}

// A power failure clears registers, pc and both latches; data, log and steps stay.
func TestFail(t *testing.T) {
	// First time round: the data are 0, so the latches are set; second time: they are as they are.
	code := words(t,
		lui(1, api.Base), lui(2, api.Ports), addi(5, 0, 3), lw(6, 1, 0),
		api.Inst{Op: api.OpBne, Rs1: 6, Imm: 12}, sw(2, 5, api.PortSeq), sw(2, 5, api.PortIndex),
		sw(1, 5, 0), lw(7, 2, api.PortIn), sw(2, 7, api.PortOut), jal(0, 0))
	m := made(t, code, make([]byte, 4), 10, 11, 12, 13)
	m.Run(11, nil)
	if l := m.Log(); !slices.Equal(l, []api.Record{{Seq: 3, Val: 13}}) {
		t.Fatalf("log: %v", l)
	}
	m.Fail()
	if want := (stand{steps: 11}); standing(m) != want || len(m.Log()) != 1 || !bytes.Equal(m.Data(), []byte{3, 0, 0, 0}) {
		t.Fatalf("after the failure: %+v, %v, %v", standing(m), m.Log(), m.Data())
	}
	m.Run(20, nil)
	if l := m.Log(); !slices.Equal(l, []api.Record{{Seq: 3, Val: 13}, {Seq: 0, Val: 10}}) {
		t.Errorf("log: %v", l)
	}
}
