package inst_test

import (
	"math"
	"strconv"
	"strings"
	"testing"

	"rushlight/api"
	"rushlight/inst"
)

// row is what the chapter says of one Op.
type row struct {
	name                   string
	form                   byte
	opcode, funct3, funct7 uint32
}

// rowText is name, format and codes (hexadecimal) of all instructions, in the order of Op, from 1 on.
const rowText = `lui U 37
auipc U 17
jal J 6f
jalr I 67 0
beq B 63 0
bne B 63 1
blt B 63 4
bge B 63 5
bltu B 63 6
bgeu B 63 7
lb I 3 0
lh I 3 1
lw I 3 2
lbu I 3 4
lhu I 3 5
sb S 23 0
sh S 23 1
sw S 23 2
addi I 13 0
slti I 13 2
sltiu I 13 3
xori I 13 4
ori I 13 6
andi I 13 7
slli H 13 1 0
srli H 13 5 0
srai H 13 5 20
add R 33 0 0
sub R 33 0 20
sll R 33 1 0
slt R 33 2 0
sltu R 33 3 0
xor R 33 4 0
srl R 33 5 0
sra R 33 5 20
or R 33 6 0
and R 33 7 0
mul R 33 0 1
mulh R 33 1 1
mulhsu R 33 2 1
mulhu R 33 3 1
div R 33 4 1
divu R 33 5 1
rem R 33 6 1
remu R 33 7 1`

// rows is the rows of rowText, each at the index of its Op.
func rows(t *testing.T) []row {
	t.Helper()
	l := []row{{}}
	for _, line := range strings.Split(rowText, "\n") {
		f := strings.Fields(line)
		codes := [3]uint32{}
		for k, s := range f[2:] {
			n, err := strconv.ParseUint(s, 16, 8)
			if err != nil {
				t.Fatal(err)
			}
			codes[k] = uint32(n)
		}
		l = append(l, row{f[0], f[1][0], codes[0], codes[1], codes[2]})
	}
	if len(l) != api.OpRemu+1 {
		t.Fatalf("%d rows", len(l))
	}
	return l
}

// limits is the immediates of a format: from least to most, multiples of step.
func limits(form byte) (least, most, step int) {
	switch form {
	case 'U':
		return -1 << 31, 1<<31 - 4096, 4096
	case 'J':
		return -1 << 20, 1<<20 - 2, 2
	case 'I', 'S':
		return -2048, 2047, 1
	case 'H':
		return 0, 31, 1
	case 'B':
		return -4096, 4094, 2
	}
	return 0, 0, 1
}

func uses(form byte) (rd, rs1, rs2 bool) {
	return strings.IndexByte("UJIHR", form) >= 0, strings.IndexByte("IHSBR", form) >= 0, strings.IndexByte("SBR", form) >= 0
}

// immediateBit is which bit of the immediate stands at bit k of a word, or -1.
func immediateBit(form byte, k int) int {
	switch {
	case form == 'U' && k >= 12:
		return k
	case form == 'J' && k == 31:
		return 20
	case form == 'J' && k >= 21:
		return k - 20
	case form == 'J' && k == 20:
		return 11
	case form == 'J' && k >= 12:
		return k
	case form == 'I' && k >= 20:
		return k - 20
	case form == 'H' && k >= 20 && k <= 24:
		return k - 20
	case form == 'S' && k >= 25:
		return k - 20
	case form == 'S' && k >= 7 && k <= 11:
		return k - 7
	case form == 'B' && k == 31:
		return 12
	case form == 'B' && k >= 25:
		return k - 20
	case form == 'B' && k >= 8 && k <= 11:
		return k - 7
	case form == 'B' && k == 7:
		return 11
	}
	return -1
}

// wordOf builds the word of an instruction bit by bit.
func wordOf(r row, i api.Inst) uint32 {
	w := r.opcode | r.funct3<<12 | r.funct7<<25 | uint32(i.Rd)<<7 | uint32(i.Rs1)<<15 | uint32(i.Rs2)<<20
	for k := range 32 {
		if b := immediateBit(r.form, k); b >= 0 {
			w |= uint32(i.Imm) >> b & 1 << k
		}
	}
	return w
}

// opOf is the Op whose codes stand in w, or 0.
func opOf(l []row, w uint32) int {
	for op, r := range l {
		full := r.form == 'R' || r.form == 'H'
		flat := r.form == 'U' || r.form == 'J'
		if op > 0 && w&0x7f == r.opcode && (flat || w>>12&7 == r.funct3) && (!full || w>>25 == r.funct7) {
			return op
		}
	}
	return 0
}

// valid lists instructions of one Op: all registers, each bit of the immediate alone, and the ends of its range.
func valid(op int, r row) []api.Inst {
	rd, rs1, rs2 := uses(r.form)
	least, most, step := limits(r.form)
	base := api.Inst{Op: op}
	l := []api.Inst{base}
	add := func(used bool, change func(i *api.Inst)) {
		if used {
			i := base
			change(&i)
			l = append(l, i)
		}
	}
	for n := range 32 {
		add(rd, func(i *api.Inst) { i.Rd = n })
		add(rs1, func(i *api.Inst) { i.Rs1 = n })
		add(rs2, func(i *api.Inst) { i.Rs2 = n })
		for _, imm := range []int{1 << n, -1 << n, least + 1<<n, most - 1<<n} {
			add(imm >= least && imm <= most && imm%step == 0, func(i *api.Inst) { i.Imm = imm })
		}
	}
	add(true, func(i *api.Inst) { i.Imm = least })
	add(true, func(i *api.Inst) { i.Imm = most })
	full := api.Inst{Op: op, Imm: -step}
	if least == 0 {
		full.Imm = most
	}
	full.Rd, full.Rs1, full.Rs2 = pick(rd, 31), pick(rs1, 30), pick(rs2, 29)
	return append(l, full)
}

func pick(used bool, n int) int {
	if used {
		return n
	}
	return 0
}

// Promises 2.1, 2.2 and 2.4 for valid instructions.
func TestValid(t *testing.T) {
	for op, r := range rows(t) {
		if op == 0 {
			continue
		}
		for _, i := range valid(op, r) {
			want := wordOf(r, i)
			if !inst.Right(i) {
				t.Errorf("Right(%v): false", i)
			}
			if w, e := inst.Encode(i); e != api.OK || w != want {
				t.Errorf("Encode(%v): %#x, %v, not %#x", i, w, e, want)
			}
			if got, e := inst.Decode(want); e != api.OK || got != i {
				t.Errorf("Decode(%#x): %v, %v, not %v", want, got, e, i)
			}
		}
	}
}

func invalid(t *testing.T, i api.Inst) {
	t.Helper()
	if inst.Right(i) {
		t.Errorf("Right(%v): true", i)
	}
	if w, e := inst.Encode(i); e != api.ErrArg || w != 0 {
		t.Errorf("Encode(%v): %#x, %v", i, w, e)
	}
}

// Promise 2.1: registers that do not exist, and fields that the format does not use.
func TestInvalidRegisters(t *testing.T) {
	for op, r := range rows(t) {
		rd, rs1, rs2 := uses(r.form)
		wrong := func(used bool) []int {
			if used {
				return []int{-1, 32, 33, 64, 1 << 32, math.MinInt, math.MaxInt}
			}
			return []int{-1, 1, 31, 32, 1 << 32, math.MinInt, math.MaxInt}
		}
		for _, n := range wrong(rd) {
			invalid(t, api.Inst{Op: op, Rd: n})
		}
		for _, n := range wrong(rs1) {
			invalid(t, api.Inst{Op: op, Rs1: n})
		}
		for _, n := range wrong(rs2) {
			invalid(t, api.Inst{Op: op, Rs2: n})
		}
	}
}

// Promise 2.1: immediates beyond the range, between the multiples, and beyond 32 bits.
func TestInvalidImmediates(t *testing.T) {
	for op, r := range rows(t) {
		least, most, step := limits(r.form)
		l := []int{least - step, least - 1, most + step, most + 1, 1 << 31, 1 << 32, -1 << 32, 1<<32 + step, math.MinInt, math.MaxInt}
		if step > 1 {
			l = append(l, least+1, most-1, 1, -1, step/2, step+1)
		}
		for _, n := range l {
			invalid(t, api.Inst{Op: op, Imm: n})
		}
	}
}

// Promises 2.1 and 2.3: numbers that are no Op.
func TestNoOp(t *testing.T) {
	for _, op := range []int{0, -1, api.OpRemu + 1, 64, 256, 1 << 32, 1<<32 + 1, math.MinInt, math.MaxInt} {
		invalid(t, api.Inst{Op: op})
		if inst.Name(op) != "" || inst.Form(op) != 0 {
			t.Errorf("Name, Form(%d): %q, %q", op, inst.Name(op), inst.Form(op))
		}
	}
}

// Promise 2.3.
func TestNameAndForm(t *testing.T) {
	for op, r := range rows(t) {
		if inst.Name(op) != r.name || inst.Form(op) != r.form {
			t.Errorf("Name, Form(%d): %q, %q, not %q, %q", op, inst.Name(op), inst.Form(op), r.name, r.form)
		}
	}
}

// Promises 2.2 and 2.4: all opcodes, funct3 and funct7, with several fillings of the other fields.
func TestAllCodes(t *testing.T) {
	l := rows(t)
	fills := []uint32{0, 0x01ff8f80, 0x00a50500, 0x01558a80, 0x00008080}
	found := 0
	for c := range uint32(1 << 17) {
		codes := c&0x7f | c>>7&7<<12 | c>>10<<25
		for _, fill := range fills {
			w := codes | fill
			op := opOf(l, w)
			i, e := inst.Decode(w)
			if op == 0 {
				if e != api.ErrForm || i != (api.Inst{}) {
					t.Fatalf("Decode(%#x): %v, %v, but it is no instruction", w, i, e)
				}
				continue
			}
			found++
			if e != api.OK || i.Op != op || !inst.Right(i) || wordOf(l[op], i) != w {
				t.Fatalf("Decode(%#x): %v, %v", w, i, e)
			}
			if back, e := inst.Encode(i); e != api.OK || back != w {
				t.Fatalf("Encode(%v): %#x, %v, not %#x", i, back, e, w)
			}
		}
	}
	// Of the 1024 pairs of funct3 and funct7, U and J (3 instructions) have all, I, S and B (21) one funct3 in eight, H and R (21) one pair each.
	if want := len(fills) * (3*1024 + 21*128 + 21); found != want {
		t.Errorf("%d words are instructions, not %d", found, want)
	}
}

// Promise 2.2: words that are no instructions although another one is near.
func TestNoWord(t *testing.T) {
	for _, w := range []uint32{0, 1, 2, math.MaxUint32, 0x00001067, 0x00002063, 0x00003063, 0x00003003, 0x00006003, 0x00003023, 0x02001013, 0x40001013, 0x02005013, 0x60005013, 0x40001033, 0x04000033, 0x42000033, 0x0000000f, 0x00000073, 0x00100073} {
		if i, e := inst.Decode(w); e != api.ErrForm || i != (api.Inst{}) {
			t.Errorf("Decode(%#x): %v, %v", w, i, e)
		}
	}
}

// The chapter's examples.
func TestExamples(t *testing.T) {
	for _, x := range []struct {
		i api.Inst
		w uint32
	}{
		{api.Inst{Op: api.OpAddi, Rd: 1, Imm: 5}, 0x00500093},
		{api.Inst{Op: api.OpSw, Rs1: 1, Rs2: 2, Imm: 8}, 0x0020a423},
	} {
		if w, e := inst.Encode(x.i); e != api.OK || w != x.w {
			t.Errorf("Encode(%v): %#x, %v", x.i, w, e)
		}
		if i, e := inst.Decode(x.w); e != api.OK || i != x.i {
			t.Errorf("Decode(%#x): %v, %v", x.w, i, e)
		}
	}
}
