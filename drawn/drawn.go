// Package drawn is no layer: it makes programs for tests, texts that check.Check accepts, and modules. Each has a number, and is the same
// whenever it is made.
package drawn

import (
	"slices"
	"strconv"
	"strings"
)

// Dice is a sequence of numbers that hangs on where it begins, and on nothing else.
type Dice uint64

// Roll is the next number, from 0 to n - 1.
func (d *Dice) Roll(n int) int {
	*d = *d*6364136223846793005 + 1442695040888963407
	return int(uint64(*d)>>33) % max(1, n)
}

// Wild is program n of those that may do anything, what is undefined too.
func Wild(n int) string { return program(n, wild()) }

// Tame is program n of those that seldom do anything undefined, and seldom go on for long.
func Tame(n int) string { return program(n, tame()) }

// program is a text. Its functions call each other.
func program(n int, g grammar) string {
	m := &maker{Dice: Dice(n), grammar: g}
	s := top
	for _, f := range g.functions {
		s += m.body(f)
	}
	return strings.ReplaceAll(s, either, "|")
}

// maker makes a program.
type maker struct {
	Dice
	grammar
	function     // the one that is being made
	loops    int // how many loops stand around
	switches int
	counters int // how many variables there are that count rounds
}

// body is a function. Each begins with variables of the same names.
func (m *maker) body(f function) string {
	m.function = f
	s := f.head + "{if(calls++>25)" + f.early
	for _, texts := range m.variables {
		s += m.fill(0, texts)
	}
	s = strings.ReplaceAll(s, "Z", f.pointer) + "\n"
	if m.Roll(m.ready) > 0 {
		s += "x=y;gs.n=gq=gt;gt[0].n=gt[1].n=&gs;gp=ga;t.a=1;t.b=2;t.v[0]=t.v[1]=3;t.n=&gs;for(;i<2;i++){u[i].a=i;u[i].b=9;u[i].v[0]=u[i].v[1]=4;u[i].n=&t;w[i][0]=w[i][1]=w[i][2]=i;}i=1;"
	}
	for range 1 + m.Roll(6) {
		s += m.statement(3) + "\n"
	}
	return s + m.fill(1, f.result) + "}\n"
}

// fill is one of some texts, with its holes filled; one without holes if there is not much left.
func (m *maker) fill(left int, texts string) string {
	l := strings.Split(texts, "|")
	if left <= 0 {
		l = slices.DeleteFunc(l, func(s string) bool { return strings.ContainsAny(s, holes) })
	}
	var b strings.Builder
	for _, c := range l[m.Roll(len(l))] {
		b.WriteString(m.part(left-1, c))
	}
	return b.String()
}

// part is what fills a hole, or a character that is none.
func (m *maker) part(left int, c rune) string {
	switch c {
	case 'I':
		return "(" + m.number(left) + ")"
	case 'J':
		return "(" + m.index(left) + ")"
	case 'V':
		return m.fill(left, m.places)
	case 'P':
		return "(" + m.fill(left, m.pointers) + ")"
	case 'Q':
		return "(" + m.fill(left, m.structures) + ")"
	case 'S':
		return m.statement(left)
	case 'M':
		return m.own
	}
	return string(c)
}

// number is an int.
func (m *maker) number(left int) string {
	switch m.Roll(9) {
	case 0, 1, 2:
		return m.fill(left, m.places)
	case 3, 4:
		return m.fill(0, "0|1|2|7|300|0x80000000|in()|'a'|sizeof(struct s)")
	}
	text := strings.Replace(m.fill(left, m.numbers), " op ", m.operator(m.operators), 1)
	return strings.Replace(text, " as ", m.operator(m.updates)+"=", 1)
}

// operator is one of some operators.
func (m *maker) operator(texts string) string {
	l := strings.Fields(texts)
	return l[m.Roll(len(l))]
}

// index is an int that is mostly one of those that the elements of arrays have.
func (m *maker) index(left int) string {
	if m.Roll(5) == 0 {
		return m.fill(left, m.anyIndex)
	}
	return m.fill(0, m.indexes)
}

// statement is a statement. Within loops and switches, those that leave them are drawn too.
func (m *maker) statement(left int) string {
	if left <= 0 {
		return m.fill(0, "x=2;|out(y);|p=&x;|{}|;|y++;|q=&t;")
	}
	texts := m.statements + "|L|L|L|W|W|R"
	if m.loops > 0 {
		texts += "|if(I)continue;|if(I)break;|continue;|break;"
	} else if m.switches > 0 {
		texts += "|if(I)break;|break;"
	}
	switch s := m.fill(left, texts); s {
	case "L":
		return m.loop(left)
	case "W":
		return m.choice(left)
	case "R":
		return "if(" + m.number(left-1) + ")" + m.early
	default:
		return s
	}
}

// loop is a loop.
func (m *maker) loop(left int) string {
	m.loops++
	defer func() { m.loops-- }()
	m.counters++
	return strings.ReplaceAll(m.fill(left, m.rounds), "N", "i"+strconv.Itoa(m.counters))
}

// choice is a switch.
func (m *maker) choice(left int) string {
	m.switches++
	defer func() { m.switches-- }()
	return m.fill(left, "switch(J){case 0:S case 1:S default:S case 2:S}|switch(J){case 0:S break;case 1:{S break;}case 2:S}|switch(J){default:S case 1:S}|switch(I){case 0:case 1:S}|switch(I){}")
}
