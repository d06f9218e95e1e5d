package inst

import "rushlight/word"

// Where the fields of a word begin.
const (
	atRd     = 7
	atFunct3 = 12
	atRs1    = 15
	atRs2    = 20
	atFunct7 = 25
)

// registers is how many registers there are.
const registers = 32

// wordBits as the width of an immediate means that it is not extended by its sign.
const wordBits = 32

// usedRegisters tells which registers a format uses.
func usedRegisters(form byte) (rd, rs1, rs2 bool) {
	switch form {
	case 'R':
		rs2 = true
		fallthrough
	case 'I', 'H':
		rs1 = true
		fallthrough
	case 'U', 'J':
		rd = true
	case 'S', 'B':
		rs1, rs2 = true, true
	}
	return rd, rs1, rs2
}

// codeMask is the bits of a word in which a format keeps opcode, funct3 and funct7.
func codeMask(form byte) uint32 {
	mask := uint32(0)
	switch form {
	case 'R', 'H':
		mask |= 0x7f << atFunct7
		fallthrough
	case 'I', 'S', 'B':
		mask |= 7 << atFunct3
		fallthrough
	case 'U', 'J':
		mask |= 0x7f
	}
	return mask
}

// piece is a run of bits of an immediate: count bits, from bit from of the number on, stand from bit at of the word on.
type piece struct {
	from  int
	count int
	at    int
}

// mask is the bits of a piece, moved down to bit 0.
func (p piece) mask() uint32 { return 1<<p.count - 1 }

// pieces is how a format scatters its immediate; pieces without bits fill the array up.
func pieces(form byte) [4]piece {
	switch form {
	case 'U':
		return [4]piece{{12, 20, 12}}
	case 'J':
		return [4]piece{{20, 1, 31}, {1, 10, 21}, {11, 1, 20}, {12, 8, 12}}
	case 'I':
		return [4]piece{{0, 12, 20}}
	case 'H':
		return [4]piece{{0, 5, 20}}
	case 'S':
		return [4]piece{{0, 5, 7}, {5, 7, 25}}
	case 'B':
		return [4]piece{{12, 1, 31}, {5, 6, 25}, {1, 4, 8}, {11, 1, 7}}
	}
	return [4]piece{}
}

// immediateBits is the width of the signed number that a format's immediate is.
func immediateBits(form byte) int {
	switch form {
	case 'J':
		return 21
	case 'B':
		return 13
	case 'I', 'S':
		return 12
	}
	return wordBits
}

// scatter is a word with the immediate in its place, and all other bits 0.
func scatter(form byte, imm int) uint32 {
	w := uint32(0)
	for _, p := range pieces(form) {
		w |= uint32(imm) >> p.from & p.mask() << p.at
	}
	return w
}

// gather is the immediate that stands in w.
func gather(form byte, w uint32) int {
	imm := uint32(0)
	for _, p := range pieces(form) {
		imm |= w >> p.at & p.mask() << p.from
	}
	return int(int32(word.Sign(imm, immediateBits(form))))
}
