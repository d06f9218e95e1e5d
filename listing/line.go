package listing

import (
	"strconv"
	"strings"

	"rushlight/api"
	"rushlight/inst"
)

// The operands of a line, in the texts that layout returns.
const (
	operandRd     = 'd'
	operandRs1    = 'a'
	operandRs2    = 'b'
	operandImm    = 'i'
	operandMemory = 'm' // Imm(Rs1)
)

// layout is the operands of an Op in the order of its line; empty if there is no such Op.
func layout(op int) string {
	switch inst.Form(op) {
	case 'R':
		return "dab"
	case 'I', 'H':
		if op == api.OpJalr || isLoad(op) {
			return "dm"
		}
		return "dai"
	case 'U', 'J':
		return "di"
	case 'B':
		return "abi"
	case 'S':
		return "bm"
	}
	return ""
}

// isLoad reports whether an Op loads from memory.
func isLoad(op int) bool { return op >= api.OpLb && op <= api.OpLhu }

// line is the line of a valid instruction.
func line(i api.Inst) string {
	var operands []string
	for _, o := range layout(i.Op) {
		operands = append(operands, operand(i, o))
	}
	return assemble(inst.Name(i.Op), operands...)
}

// operand is how one operand of i is written.
func operand(i api.Inst, o rune) string {
	switch o {
	case operandRd:
		return register(i.Rd)
	case operandRs1:
		return register(i.Rs1)
	case operandRs2:
		return register(i.Rs2)
	case operandMemory:
		return strconv.Itoa(i.Imm) + "(" + register(i.Rs1) + ")"
	}
	return strconv.Itoa(i.Imm)
}

// register is how a register is written.
func register(n int) string { return "x" + strconv.Itoa(n) }

// assemble is a name followed by its operands.
func assemble(name string, operands ...string) string {
	return name + " " + strings.Join(operands, ", ")
}

// wordLine is the line of a word at an address, with its line feed.
func wordLine(address int, w uint32) string {
	return hex(uint32(address)) + ": " + wordBody(w) + "\n"
}

// wordBody is the line of the instruction that w is the word of, or its digits if it is the word of none.
func wordBody(w uint32) string {
	i, e := inst.Decode(w)
	if e != api.OK {
		return assemble(wordName, hexMark+hex(w))
	}
	return line(i)
}

// How a word that is no instruction is written.
const (
	wordName = ".word"
	hexMark  = "0x"
)

// hexDigits is how many digits are written of a word.
const hexDigits = 8

// hex is the hexadecimal digits of a word.
func hex(w uint32) string {
	digits := strconv.FormatUint(uint64(w), 16)
	return strings.Repeat("0", hexDigits-len(digits)) + digits
}
