package asm

import (
	"rushlight/api"
	"rushlight/inst"
	"rushlight/word"
)

// addi is the instruction that sets rd to the sum of rs1 and the signed word n.
func addi(rd, rs1 int, n uint32) api.Inst {
	return api.Inst{Op: api.OpAddi, Rd: rd, Rs1: rs1, Imm: signed(n)}
}

// lui is the instruction that sets rd to n, the lowest 12 bits of which are 0.
func lui(rd int, n uint32) api.Inst {
	return api.Inst{Op: api.OpLui, Rd: rd, Imm: signed(n)}
}

// signed is the number that n is as a signed word.
func signed(n uint32) int { return int(int32(n)) }

// constant is the instructions that set a register to the word of a constant.
func constant(i api.Inst) []api.Inst {
	high, low := word.Parts(uint32(i.Imm))
	switch {
	case high == 0:
		return []api.Inst{addi(i.Rd, 0, low)}
	case low == 0:
		return []api.Inst{lui(i.Rd, high)}
	}
	return []api.Inst{lui(i.Rd, high), addi(i.Rd, i.Rd, low)}
}

// words is the words of all items, in order.
func (p placement) words() ([]uint32, api.Errno) {
	var words []uint32
	for k := range p.items {
		l, e := p.instructions(k)
		if e != api.OK {
			return nil, e
		}
		for _, i := range l {
			w, e := inst.Encode(i)
			if e != api.OK {
				return nil, e
			}
			words = append(words, w)
		}
	}
	return words, api.OK
}

// instructions is the instructions of item k.
func (p placement) instructions(k int) ([]api.Inst, api.Errno) {
	x := p.items[k]
	switch x.Kind {
	case api.ItemInst:
		return []api.Inst{x.Inst}, api.OK
	case api.ItemConst:
		return constant(x.Inst), api.OK
	case api.ItemBranch:
		if p.sizes[k] == farWords {
			return farBranch(x.Inst, p.offset(k))
		}
		x.Inst.Imm = p.offset(k)
		return []api.Inst{x.Inst}, api.OK
	case api.ItemJump:
		i, e := jump(x.Inst.Rd, p.offset(k))
		return []api.Inst{i}, e
	}
	return nil, api.OK
}

// farBranch is a branch by an offset that the word of a branch cannot hold: the inverse branch goes round a jump.
func farBranch(near api.Inst, offset int) ([]api.Inst, api.Errno) {
	round := api.Inst{Op: Contrary(near.Op), Rs1: near.Rs1, Rs2: near.Rs2, Imm: farWords * wordBytes}
	away, e := jump(0, offset-wordBytes)
	return []api.Inst{round, away}, e
}

// jump is a jal by an offset.
// No list of MaxItems items is long enough for ErrRange today: the check is here so that a greater limit cannot make wrong words.
func jump(rd, offset int) (api.Inst, api.Errno) {
	if offset < minJump || offset > maxJump {
		return api.Inst{}, api.ErrRange
	}
	return api.Inst{Op: api.OpJal, Rd: rd, Imm: offset}, api.OK
}
