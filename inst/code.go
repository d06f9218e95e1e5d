package inst

import "rushlight/api"

// code is what all words of one Op have in common.
type code struct {
	name   string
	form   byte
	opcode uint8
	funct3 uint8
	funct7 uint8
}

// codes is the table of all instructions by their Op; there is no Op 0.
func codes() [api.OpRemu + 1]code {
	return [...]code{
		api.OpLui:    {"lui", 'U', 0x37, 0, 0},
		api.OpAuipc:  {"auipc", 'U', 0x17, 0, 0},
		api.OpJal:    {"jal", 'J', 0x6f, 0, 0},
		api.OpJalr:   {"jalr", 'I', 0x67, 0, 0},
		api.OpBeq:    {"beq", 'B', 0x63, 0, 0},
		api.OpBne:    {"bne", 'B', 0x63, 1, 0},
		api.OpBlt:    {"blt", 'B', 0x63, 4, 0},
		api.OpBge:    {"bge", 'B', 0x63, 5, 0},
		api.OpBltu:   {"bltu", 'B', 0x63, 6, 0},
		api.OpBgeu:   {"bgeu", 'B', 0x63, 7, 0},
		api.OpLb:     {"lb", 'I', 0x03, 0, 0},
		api.OpLh:     {"lh", 'I', 0x03, 1, 0},
		api.OpLw:     {"lw", 'I', 0x03, 2, 0},
		api.OpLbu:    {"lbu", 'I', 0x03, 4, 0},
		api.OpLhu:    {"lhu", 'I', 0x03, 5, 0},
		api.OpSb:     {"sb", 'S', 0x23, 0, 0},
		api.OpSh:     {"sh", 'S', 0x23, 1, 0},
		api.OpSw:     {"sw", 'S', 0x23, 2, 0},
		api.OpAddi:   {"addi", 'I', 0x13, 0, 0},
		api.OpSlti:   {"slti", 'I', 0x13, 2, 0},
		api.OpSltiu:  {"sltiu", 'I', 0x13, 3, 0},
		api.OpXori:   {"xori", 'I', 0x13, 4, 0},
		api.OpOri:    {"ori", 'I', 0x13, 6, 0},
		api.OpAndi:   {"andi", 'I', 0x13, 7, 0},
		api.OpSlli:   {"slli", 'H', 0x13, 1, 0},
		api.OpSrli:   {"srli", 'H', 0x13, 5, 0},
		api.OpSrai:   {"srai", 'H', 0x13, 5, 0x20},
		api.OpAdd:    {"add", 'R', 0x33, 0, 0},
		api.OpSub:    {"sub", 'R', 0x33, 0, 0x20},
		api.OpSll:    {"sll", 'R', 0x33, 1, 0},
		api.OpSlt:    {"slt", 'R', 0x33, 2, 0},
		api.OpSltu:   {"sltu", 'R', 0x33, 3, 0},
		api.OpXor:    {"xor", 'R', 0x33, 4, 0},
		api.OpSrl:    {"srl", 'R', 0x33, 5, 0},
		api.OpSra:    {"sra", 'R', 0x33, 5, 0x20},
		api.OpOr:     {"or", 'R', 0x33, 6, 0},
		api.OpAnd:    {"and", 'R', 0x33, 7, 0},
		api.OpMul:    {"mul", 'R', 0x33, 0, 1},
		api.OpMulh:   {"mulh", 'R', 0x33, 1, 1},
		api.OpMulhsu: {"mulhsu", 'R', 0x33, 2, 1},
		api.OpMulhu:  {"mulhu", 'R', 0x33, 3, 1},
		api.OpDiv:    {"div", 'R', 0x33, 4, 1},
		api.OpDivu:   {"divu", 'R', 0x33, 5, 1},
		api.OpRem:    {"rem", 'R', 0x33, 6, 1},
		api.OpRemu:   {"remu", 'R', 0x33, 7, 1},
	}
}

// codeOf is the row of an Op; the zero row if there is no such Op.
func codeOf(op int) code {
	all := codes()
	if op < 0 || op >= len(all) {
		return code{}
	}
	return all[op]
}

// fixed is a word of these codes, with all other bits 0.
func (c code) fixed() uint32 {
	return uint32(c.opcode) | uint32(c.funct3)<<atFunct3 | uint32(c.funct7)<<atFunct7
}

// find is the Op whose codes stand in w; 0 if there is none.
// Every bit beside the codes belongs to a register or an immediate, whose numbers are all valid: the codes decide alone.
func find(w uint32) int {
	for op, c := range codes() {
		if op != 0 && w&codeMask(c.form) == c.fixed() {
			return op
		}
	}
	return 0
}
