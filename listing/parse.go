package listing

import (
	"strconv"
	"strings"

	"rushlight/api"
	"rushlight/inst"
)

// parse is the instruction that a line may be of; false if it is the line of none.
// It lets pass numbers that are written otherwise, or are out of range.
func parse(s string) (api.Inst, bool) {
	name, rest, _ := strings.Cut(s, " ")
	i := api.Inst{Op: opNamed(name)}
	operands := layout(i.Op)
	parts := strings.SplitN(rest, ", ", len(operands)+1)
	if i.Op == 0 || len(parts) != len(operands) {
		return api.Inst{}, false
	}
	for k, o := range operands {
		if !parseOperand(&i, o, parts[k]) {
			return api.Inst{}, false
		}
	}
	return i, true
}

// opNamed is the Op with a name; 0 if there is none.
func opNamed(name string) int {
	for op := api.OpLui; op <= api.OpRemu; op++ {
		if inst.Name(op) == name {
			return op
		}
	}
	return 0
}

// parseOperand sets the fields of i that an operand holds, and reports whether it could be read.
func parseOperand(i *api.Inst, o rune, s string) bool {
	switch o {
	case operandRd:
		return parseRegister(&i.Rd, s)
	case operandRs1:
		return parseRegister(&i.Rs1, s)
	case operandRs2:
		return parseRegister(&i.Rs2, s)
	case operandMemory:
		offset, base, _ := strings.Cut(s, "(")
		base, closed := strings.CutSuffix(base, ")")
		return closed && parseNumber(&i.Imm, offset) && parseRegister(&i.Rs1, base)
	}
	return parseNumber(&i.Imm, s)
}

// parseRegister sets n to the number of a register, and reports whether it could be read.
func parseRegister(n *int, s string) bool {
	digits, found := strings.CutPrefix(s, "x")
	return found && parseNumber(n, digits)
}

// parseNumber sets n to a number, and reports whether it could be read.
func parseNumber(n *int, s string) bool {
	number, err := strconv.Atoi(s)
	*n = number
	return err == nil
}

// parseWord is the word that a line without its line feed may be of; false if it is the line of none.
// It lets pass any address, and digits where there should be an instruction.
func parseWord(s string) (uint32, bool) {
	_, body, _ := strings.Cut(s, ": ")
	if digits, found := strings.CutPrefix(body, wordName+" "+hexMark); found {
		w, err := strconv.ParseUint(digits, 16, 32)
		return uint32(w), err == nil
	}
	i, found := parse(body)
	if !found {
		return 0, false
	}
	w, e := inst.Encode(i)
	return w, e == api.OK
}
