// Package inst is layer 2, the encoding of RV32IM instructions: see shared/doc/02-inst.md.
package inst

import "rushlight/api"

// Name is the mnemonic of an Op; empty if there is no such Op.
func Name(op int) string { return codeOf(op).name }

// Form is the letter of the format of an Op; 0 if there is no such Op.
func Form(op int) byte { return codeOf(op).form }

// Right reports whether i is a valid instruction.
func Right(i api.Inst) bool { return fits(i, Form(i.Op)) }

// fits reports whether the fields of i are such as the format has.
// The format has exactly those immediates that come back unchanged from their place in a word.
func fits(i api.Inst, form byte) bool {
	rd, rs1, rs2 := usedRegisters(form)
	return form != 0 &&
		registerFits(i.Rd, rd) && registerFits(i.Rs1, rs1) && registerFits(i.Rs2, rs2) &&
		gather(form, scatter(form, i.Imm)) == i.Imm
}

// registerFits reports whether n may stand in the field of a register, used by the format or not.
func registerFits(n int, used bool) bool {
	if !used {
		return n == 0
	}
	return n >= 0 && n < registers
}

// Encode is the word of an instruction; ErrArg if it is not valid.
func Encode(i api.Inst) (uint32, api.Errno) {
	c := codeOf(i.Op)
	if !fits(i, c.form) {
		return 0, api.ErrArg
	}
	regs := uint32(i.Rd)<<atRd | uint32(i.Rs1)<<atRs1 | uint32(i.Rs2)<<atRs2
	return c.fixed() | regs | scatter(c.form, i.Imm), api.OK
}

// Decode is the instruction of a word; ErrForm if it is the word of none.
func Decode(w uint32) (api.Inst, api.Errno) {
	op := find(w)
	if op == 0 {
		return api.Inst{}, api.ErrForm
	}
	form := Form(op)
	rd, rs1, rs2 := usedRegisters(form)
	return api.Inst{
		Op:  op,
		Rd:  register(w, atRd, rd),
		Rs1: register(w, atRs1, rs1),
		Rs2: register(w, atRs2, rs2),
		Imm: gather(form, w),
	}, api.OK
}

// register is the number of the register in w from bit at on; 0 if the format uses none there.
func register(w uint32, at int, used bool) int {
	if !used {
		return 0
	}
	return int(w >> at % registers)
}
