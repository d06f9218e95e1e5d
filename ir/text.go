package ir

import (
	"strconv"
	"strings"

	"rushlight/api"
)

// Text is a procedure's lines.
func Text(p api.Proc) string {
	var b strings.Builder
	for n, x := range p.Blocks {
		b.WriteString("b" + strconv.Itoa(n) + ":\n")
		for _, i := range x.Ins {
			b.WriteString(line(i))
		}
		b.WriteString(" end" + numbers(x.End, x.A, x.To, x.Else) + "\n")
	}
	return b.String()
}

// line is an instruction's line.
func line(i api.Ins) string {
	s := numbers(i.Op, i.D, i.A, i.B, i.Fn, i.Obj, i.Off, i.Size) + " " + strconv.FormatUint(uint64(i.Num), 10) + numbers(i.Args...)
	if i.Log {
		s += " log"
	}
	return s + "\n"
}

// numbers is numbers, each behind a space.
func numbers(l ...int) string {
	var b strings.Builder
	for _, n := range l {
		b.WriteString(" " + strconv.Itoa(n))
	}
	return b.String()
}
