package device

import (
	"rushlight/api"
	"rushlight/word"
)

// execute executes an instruction and reports whether it did not fault; one that faults changes nothing.
func (m *Machine) execute(i api.Inst) bool {
	a, b, imm := m.regs[i.Rs1], m.regs[i.Rs2], uint32(i.Imm)
	next := word.Add(m.pc, wordSize)
	switch i.Op {
	case 0:
		return false
	case api.OpLui:
		m.set(i.Rd, imm)
	case api.OpAuipc:
		m.set(i.Rd, word.Add(m.pc, imm))
	case api.OpJal:
		m.set(i.Rd, next)
		next = word.Add(m.pc, imm)
	case api.OpJalr:
		m.set(i.Rd, next)
		next = word.Add(a, imm) &^ 1
	case api.OpBeq, api.OpBne, api.OpBlt, api.OpBge, api.OpBltu, api.OpBgeu:
		if holds(i.Op, a, b) {
			next = word.Add(m.pc, imm)
		}
	case api.OpLb, api.OpLh, api.OpLw, api.OpLbu, api.OpLhu:
		v, ok := m.load(i.Op, word.Add(a, imm))
		if !ok {
			return false
		}
		m.set(i.Rd, v)
	case api.OpSb, api.OpSh, api.OpSw:
		if !m.store(i.Op, word.Add(a, imm), b) {
			return false
		}
	default:
		m.set(i.Rd, compute(i.Op, a, b, imm))
	}
	m.pc = next
	return true
}

// set puts v into a register; register 0 stays 0.
func (m *Machine) set(reg int, v uint32) {
	if reg != 0 {
		m.regs[reg] = v
	}
}

// holds reports whether the condition of a branch holds.
func holds(op int, a, b uint32) bool {
	switch op {
	case api.OpBeq:
		return a == b
	case api.OpBne:
		return a != b
	case api.OpBlt:
		return word.Less(a, b) != 0
	case api.OpBge:
		return word.Less(a, b) == 0
	case api.OpBltu:
		return word.LessU(a, b) != 0
	}
	return word.LessU(a, b) == 0
}

// compute is what an instruction makes of two registers, or of one and an immediate.
func compute(op int, a, b, imm uint32) uint32 {
	switch op {
	case api.OpAddi:
		b = imm
		fallthrough
	case api.OpAdd:
		return word.Add(a, b)
	case api.OpSub:
		return word.Sub(a, b)
	case api.OpSlti:
		b = imm
		fallthrough
	case api.OpSlt:
		return word.Less(a, b)
	case api.OpSltiu:
		b = imm
		fallthrough
	case api.OpSltu:
		return word.LessU(a, b)
	case api.OpXori:
		b = imm
		fallthrough
	case api.OpXor:
		return a ^ b
	case api.OpOri:
		b = imm
		fallthrough
	case api.OpOr:
		return a | b
	case api.OpAndi:
		b = imm
		fallthrough
	case api.OpAnd:
		return a & b
	case api.OpSlli:
		b = imm
		fallthrough
	case api.OpSll:
		return word.Left(a, b)
	case api.OpSrli:
		b = imm
		fallthrough
	case api.OpSrl:
		return word.Right(a, b)
	case api.OpSrai:
		b = imm
		fallthrough
	case api.OpSra:
		return word.RightS(a, b)
	}
	return multiply(op, a, b)
}

// multiply is what an instruction of the extension M makes of two registers.
func multiply(op int, a, b uint32) uint32 {
	switch op {
	case api.OpMul:
		return word.Mul(a, b)
	case api.OpMulh:
		return word.High(a, b)
	case api.OpMulhsu:
		return word.HighSU(a, b)
	case api.OpMulhu:
		return word.HighU(a, b)
	case api.OpDiv:
		return word.Div(a, b)
	case api.OpDivu:
		return word.DivU(a, b)
	case api.OpRem:
		return word.Rem(a, b)
	}
	return word.RemU(a, b)
}
