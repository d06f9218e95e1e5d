package listing_test

import (
	"math"
	"strings"
	"testing"

	"rushlight/api"
	"rushlight/inst"
	"rushlight/listing"
)

// sample is an instruction and its line.
type sample struct {
	i    api.Inst
	line string
}

// samples is one instruction of each Op, and the ends of what registers and immediates may be.
func samples() []sample {
	const lui, jal = api.OpLui, api.OpJal
	l := []sample{
		{api.Inst{Op: lui, Rd: 5, Imm: 0x12345000}, "lui x5, 305418240"},
		{api.Inst{Op: lui, Rd: 31, Imm: -1 << 31}, "lui x31, -2147483648"},
		{api.Inst{Op: lui, Rd: 10, Imm: 1<<31 - 4096}, "lui x10, 2147479552"},
		{api.Inst{Op: lui}, "lui x0, 0"},
		{api.Inst{Op: api.OpAuipc, Rd: 9, Imm: -4096}, "auipc x9, -4096"},
		{api.Inst{Op: jal, Rd: 1, Imm: 8}, "jal x1, 8"},
		{api.Inst{Op: jal, Imm: -1 << 20}, "jal x0, -1048576"},
		{api.Inst{Op: jal, Rd: 31, Imm: 1<<20 - 2}, "jal x31, 1048574"},
		{api.Inst{Op: api.OpJalr, Rd: 1, Rs1: 2, Imm: 3}, "jalr x1, 3(x2)"},
		{api.Inst{Op: api.OpJalr}, "jalr x0, 0(x0)"},
		{api.Inst{Op: api.OpLw, Rd: 31, Rs1: 30, Imm: -2048}, "lw x31, -2048(x30)"},
		{api.Inst{Op: api.OpSw, Rs1: 1, Rs2: 2, Imm: 8}, "sw x2, 8(x1)"},
		{api.Inst{Op: api.OpSw, Rs1: 31, Rs2: 0, Imm: -2048}, "sw x0, -2048(x31)"},
		{api.Inst{Op: api.OpSb, Rs1: 20, Rs2: 3, Imm: 2047}, "sb x3, 2047(x20)"},
		{api.Inst{Op: api.OpSh, Rs1: 0, Rs2: 29}, "sh x29, 0(x0)"},
		{api.Inst{Op: api.OpAddi, Rd: 1, Imm: 5}, "addi x1, x0, 5"},
		{api.Inst{Op: api.OpAddi, Rd: 31, Rs1: 30, Imm: 2047}, "addi x31, x30, 2047"},
		{api.Inst{Op: api.OpSlli, Rd: 1, Rs1: 2, Imm: 31}, "slli x1, x2, 31"},
		{api.Inst{Op: api.OpSrli, Rd: 1, Rs1: 2, Imm: 0}, "srli x1, x2, 0"},
		{api.Inst{Op: api.OpSrai, Rd: 1, Rs1: 2, Imm: 1}, "srai x1, x2, 1"},
		{api.Inst{Op: api.OpBeq, Rs1: 1, Rs2: 2, Imm: -4096}, "beq x1, x2, -4096"},
		{api.Inst{Op: api.OpBgeu, Rs1: 31, Rs2: 0, Imm: 4094}, "bgeu x31, x0, 4094"},
		{api.Inst{Op: api.OpRemu, Rd: 31, Rs1: 0, Rs2: 10}, "remu x31, x0, x10"},
	}
	for k, name := range strings.Fields("lb lh lw lbu lhu") {
		l = append(l, sample{api.Inst{Op: api.OpLb + k, Rd: 1, Rs1: 2, Imm: -3}, name + " x1, -3(x2)"})
	}
	for k, name := range strings.Fields("beq bne blt bge bltu bgeu") {
		l = append(l, sample{api.Inst{Op: api.OpBeq + k, Rs1: 1, Rs2: 2, Imm: -4}, name + " x1, x2, -4"})
	}
	for k, name := range strings.Fields("addi slti sltiu xori ori andi") {
		l = append(l, sample{api.Inst{Op: api.OpAddi + k, Rd: 1, Rs1: 2, Imm: -1}, name + " x1, x2, -1"})
	}
	for k, name := range strings.Fields("add sub sll slt sltu xor srl sra or and mul mulh mulhsu mulhu div divu rem remu") {
		l = append(l, sample{api.Inst{Op: api.OpAdd + k, Rd: 1, Rs1: 2, Rs2: 3}, name + " x1, x2, x3"})
	}
	return l
}

// Promises 6.1 and 6.3.
func TestLineAndRead(t *testing.T) {
	ops := map[int]int{}
	for _, x := range samples() {
		ops[x.i.Op]++
		if got, e := listing.Line(x.i); got != x.line || e != api.OK {
			t.Errorf("Line of %v: %q %v, not %q", x.i, got, e, x.line)
		}
		if got, e := listing.Read(x.line); got != x.i || e != api.OK {
			t.Errorf("Read of %q: %v %v, not %v", x.line, got, e, x.i)
		}
	}
	if len(ops) != api.OpRemu {
		t.Errorf("samples of %d instructions", len(ops))
	}
}

// Promise 6.1: instructions that are not valid.
func TestLineInvalid(t *testing.T) {
	for _, i := range []api.Inst{
		{},
		{Op: -1},
		{Op: api.OpRemu + 1},
		{Op: math.MinInt, Imm: math.MaxInt},
		{Op: api.OpAdd, Rd: 32},
		{Op: api.OpAdd, Rs2: -1},
		{Op: api.OpAdd, Imm: 1},
		{Op: api.OpAddi, Imm: 2048},
		{Op: api.OpAddi, Rs2: 1},
		{Op: api.OpSw, Rd: 1},
		{Op: api.OpSlli, Imm: 32},
		{Op: api.OpBeq, Imm: 3},
		{Op: api.OpJal, Imm: 1 << 20},
		{Op: api.OpLui, Imm: 1},
		{Op: api.OpLui, Imm: 1 << 31},
	} {
		if got, e := listing.Line(i); got != "" || e != api.ErrArg {
			t.Errorf("Line of %v: %q %v", i, got, e)
		}
	}
}

// Promise 6.1: texts that are not the line of an instruction.
func TestReadInvalid(t *testing.T) {
	for _, s := range []string{
		"", " ", "add", "add ", "add x1", "add x1, x2", "add x1, x2, x3, x4", "add x1, x2, x3,", "add x1, x2, x3, ",
		"add x1 x2 x3", "add x1,x2,x3", "add  x1, x2, x3", " add x1, x2, x3", "add x1, x2, x3 ", "add x1, x2,  x3",
		"add\tx1, x2, x3", "addx1, x2, x3", "add x1, x2, x3\n", "add x1, x2, x3\r", "add x1, x2, x3\x00", "\nadd x1, x2, x3",
		"Add x1, x2, x3", "ADD x1, x2, x3", "add X1, x2, x3", "add\xff x1, x2, x3", "\xff\xfe", "x1, x2, x3", " x1, x2, x3",
		"add x1, x2, x32", "add x-1, x2, x3", "add x01, x2, x3", "add x1, x00, x3", "add x+1, x2, x3", "add 1, 2, 3",
		"add x, x2, x3", "add xx1, x2, x3", "add x1, x2, 3", "add x1, x2, x99999999999999999999", "add ra, sp, gp",
		"nop", "nop ", "ret", "mv x1, x2", "unknown x1, x2, x3", ".word 0x00000000", "00000000: add x1, x2, x3",
		"addi x1, x2, 2048", "addi x1, x2, -2049", "addi x1, x2, +5", "addi x1, x2, 05", "addi x1, x2, -05", "addi x1, x2, -0",
		"addi x1, x2, 00", "addi x1, x2, --1", "addi x1, x2, -", "addi x1, x2, ", "addi x1, x2, 0x5", "addi x1, x2, 1_0",
		"addi x1, x2, 5.0", "addi x1, x2, x3", "addi x1, 5(x2)", "addi x1, x2", "addi x1, x2, 9223372036854775808", "addi x1, x2, \u0665",
		"slli x1, x2, 32", "slli x1, x2, -1", "slli x1, 1(x2)",
		"beq x1, x2, 3", "beq x1, x2, 4096", "beq x1, x2, -4098", "beq x1, x2", "beq x1, 4(x2)",
		"lui x1, 1", "lui x1, 2147483648", "lui x1, -2147487744", "lui x1, 0x1000", "lui x1", "lui x1, x2, 0",
		"jal 8", "jal x1", "jal x1, 1", "jal x1, 1048576", "jal x1, -1048578", "jal x1, x0, 8",
		"lw x1, x2, 4", "lw x1, 4", "lw x1, (x2)", "lw x1, 4(2)", "lw x1, 4(x2", "lw x1, 4x2)", "lw x1, 4(x2))", "lw x1, 4((x2)",
		"lw x1, 4(x2) ", "lw x1, 4 (x2)", "lw x1, 4( x2)", "lw x1, 04(x2)", "lw x1, 4(x02)", "lw x1, +4(x2)", "lw x1, -0(x2)",
		"lw x1, 2048(x2)", "lw x1, 4(x32)", "lw x1,4(x2)", "lw x1, x3, 4(x2)", "lw x1, 4()", "lw x1, ()", "lw x1, ",
		"jalr x1, x2, 4", "jalr x2", "jalr x1, 4", "sw 8(x1), x2", "sw x2, x1, 8", "sw x2, -2049(x1)", "sw x2, 8(x1), x3",
		strings.Repeat("x", 1<<20), "add " + strings.Repeat("x1, ", 1<<20), "addi x1, x2, " + strings.Repeat("1", 1<<20),
	} {
		if got, e := listing.Read(s); got != (api.Inst{}) || e != api.ErrForm {
			t.Errorf("Read of %.40q: %v %v", s, got, e)
		}
	}
}

// changes is s with one byte left out, put in or replaced.
func changes(s string) []string {
	var l []string
	for k := range len(s) + 1 {
		if k < len(s) {
			l = append(l, s[:k]+s[k+1:])
		}
		for _, c := range " 0159-+x(,)a\n" {
			l = append(l, s[:k]+string(c)+s[k:])
			if k < len(s) {
				l = append(l, s[:k]+string(c)+s[k+1:])
			}
		}
	}
	return l
}

// Promise 6.3: a text next to a line is read only if it is a line itself.
func TestChangedLines(t *testing.T) {
	read := 0
	for _, x := range samples() {
		for _, s := range changes(x.line) {
			i, e := listing.Read(s)
			if e == api.ErrForm && i == (api.Inst{}) {
				continue
			}
			if back, le := listing.Line(i); e != api.OK || le != api.OK || back != s {
				t.Errorf("%q is read as %v, %v, which is %q, %v", s, i, e, back, le)
			}
			read++
		}
	}
	if read < 1000 {
		t.Errorf("only %d lines", read)
	}
}

// Promise 6.3: lines of all words that are instructions come back.
func TestLinesOfWords(t *testing.T) {
	w := uint32(1)
	count := 0
	for range 100000 {
		w = w*1664525 + 1013904223
		i, e := inst.Decode(w ^ w>>16)
		if e != api.OK {
			continue
		}
		count++
		s, e := listing.Line(i)
		if back, re := listing.Read(s); e != api.OK || re != api.OK || back != i {
			t.Fatalf("%v: %q, %v, %v, %v", i, s, e, back, re)
		}
	}
	if count < 3000 {
		t.Errorf("only %d instructions", count)
	}
}
