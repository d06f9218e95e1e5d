package bound_test

import (
	"testing"

	"rushlight/api"
	"rushlight/bound"
	"rushlight/drawn"
)

// model is Region as the chapter words it: all paths are followed, one by one.
type model struct {
	code  []api.Inst
	on    []int // above 0 for the words of the path that is being followed
	cycle bool
}

// successors are the successors of a word.
func (m *model) successors(n int) []int {
	var l []int
	i := m.code[n]
	switch {
	case i.Op == api.OpJal && i.Rd == 5:
	case i.Op == api.OpJal:
		l = []int{n + i.Imm/4}
	case i == back():
		for k, other := range m.code {
			if other.Op == api.OpJal && other.Rd == 1 {
				l = append(l, k+1)
			}
		}
	case i.Op == api.OpJalr:
	case i.Op >= api.OpBeq && i.Op <= api.OpBgeu:
		l = []int{n + i.Imm/4, n + 1}
	default:
		l = []int{n + 1}
	}
	return l
}

// follow is the number of words of the longest path from a word on.
func (m *model) follow(n int) int {
	if n < 0 || n >= len(m.code) {
		return 0
	}
	if m.on[n] > 0 {
		m.cycle = true
	}
	if m.cycle {
		return 0
	}
	m.on[n]++
	most := 0
	for _, to := range m.successors(n) {
		most = max(most, m.follow(to))
	}
	m.on[n]--
	return most + 1
}

// region is Region of code without words that are no instructions.
func region(code []api.Inst) (int, api.Errno) {
	m := &model{code: code, on: make([]int, len(code))}
	most, routine := 0, 0
	for n, i := range code {
		if i.Op != api.OpJal || i.Rd != 5 {
			continue
		}
		if routine == 0 {
			at := n + i.Imm/4
			for k := at; k >= 0 && k < len(code) && routine == 0; k++ {
				if code[k].Op == api.OpJalr {
					routine = k - at + 1
				}
			}
			if routine == 0 {
				return 0, api.ErrNone
			}
		}
		most = max(most, m.follow(n+1))
	}
	switch {
	case routine == 0:
		return 0, api.ErrNone
	case m.cycle:
		return 0, api.ErrRule
	}
	return most + routine, api.OK
}

// some is a drawn instruction at a word of code of so many. Most lead on.
func some(d *drawn.Dice, n, count int) api.Inst {
	imm := 2 * (1 + d.Roll(2*(count-n)))
	if d.Roll(5) == 0 {
		imm = 2 * (d.Roll(2*count+4) - 2*n - 2)
	}
	switch d.Roll(14) {
	case 0, 1:
		return api.Inst{Op: api.OpJal, Rd: 5, Imm: -4*n + 4*d.Roll(4)}
	case 2:
		return api.Inst{Op: api.OpJal, Rd: 1, Imm: imm}
	case 3:
		return api.Inst{Op: api.OpJal, Rd: []int{0, 4, 6, 31}[d.Roll(4)], Imm: imm}
	case 4, 5:
		return back()
	case 6:
		return jalr(d.Roll(2), 1+4*d.Roll(2), 4*d.Roll(2))
	case 7, 8, 9:
		return branch(api.OpBeq+d.Roll(6), imm)
	case 10:
		return api.Inst{Op: api.OpSw, Rs1: 5, Rs2: 1}
	}
	return nop()
}

// Promise 30.1: drawn code, held against the chapter's words.
func TestDrawn(t *testing.T) {
	lengths, errors := map[int]int{}, map[api.Errno]int{}
	for n := range 60000 {
		d := drawn.Dice(n)
		var code []api.Inst
		count := 1 + d.Roll(20)
		for k := range count {
			code = append(code, some(&d, k, count))
		}
		got, e := bound.Region(with(t, code...))
		want, is := region(code)
		if got != want || e != is {
			t.Fatalf("%v: %d, %v, not %d, %v", code, got, e, want, is)
		}
		lengths[got]++
		errors[e]++
	}
	if errors[api.OK] < 10000 || errors[api.ErrNone] < 5000 || errors[api.ErrRule] < 5000 || lengths[10] < 200 || lengths[14] < 50 {
		t.Errorf("%v, %v", errors, lengths)
	}
}
