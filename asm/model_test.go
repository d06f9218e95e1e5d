package asm_test

import (
	"slices"
	"testing"

	"rushlight/api"
	"rushlight/asm"
	"rushlight/inst"
)

// dice makes numbers that look random and are the same in each run.
type dice uint64

// roll is a number from 0 to n - 1.
func (d *dice) roll(n int) int {
	*d = *d*6364136223846793005 + 1442695040888963407
	return int(uint64(*d) >> 33 % uint64(n))
}

// program makes items with branches and jumps to labels that are all defined.
func (d *dice) program() []api.Item {
	count := 1 + d.roll(40)
	names := make([]int, count)
	for k := range names {
		names[k] = 3*k + d.roll(3)
	}
	var l []api.Item
	for _, n := range names {
		l = append(l, asm.Label(n))
	}
	for range d.roll(80) {
		to := names[d.roll(count)]
		switch d.roll(5) {
		case 0:
			l = append(l, asm.Jump(d.roll(32), to))
		default:
			l = append(l, asm.Branch(api.OpBeq+d.roll(6), d.roll(32), d.roll(32), to))
		}
	}
	for range d.roll(60) {
		l = append(l, asm.Const(d.roll(32), uint32(d.roll(1<<31)<<d.roll(20))))
	}
	for k := len(l) - 1; k > 0; k-- {
		other := d.roll(k + 1)
		l[k], l[other] = l[other], l[k]
	}
	return d.spread(l)
}

// spread puts runs of words between the items, so that many branches are just in or out of range.
func (d *dice) spread(l []api.Item) []api.Item {
	var wide []api.Item
	most := 1 + d.roll(500)
	for _, x := range l {
		wide = append(wide, x)
		if d.roll(4) == 0 {
			wide = append(wide, pad(d.roll(most))...)
		}
	}
	return wide
}

// model assembles once more: it measures each distance by counting the words between, and calls nothing of asm but what makes items.
type model struct {
	l   []api.Item
	far map[int]int // the round in which a branch became far
}

// parts is the instructions of item k, with offsets left out.
func (m model) parts(k int) []api.Inst {
	x := m.l[k]
	i := x.Inst
	switch {
	case x.Kind == api.ItemLabel:
		return nil
	case x.Kind == api.ItemConst:
		return constantParts(i.Rd, int(int32(uint32(i.Imm))))
	case x.Kind == api.ItemBranch && m.far[k] > 0:
		i.Op = (i.Op - api.OpBeq) ^ 1 + api.OpBeq
		i.Imm = 8
		return []api.Inst{i, {Op: api.OpJal}}
	}
	return []api.Inst{i}
}

func constantParts(rd, n int) []api.Inst {
	if n >= -2048 && n < 2048 {
		return []api.Inst{{Op: api.OpAddi, Rd: rd, Imm: n}}
	}
	low := n & 0xfff
	if low == 0 {
		return []api.Inst{{Op: api.OpLui, Rd: rd, Imm: n}}
	}
	if low >= 2048 {
		low -= 4096
	}
	return []api.Inst{{Op: api.OpLui, Rd: rd, Imm: int(int32(n - low))}, {Op: api.OpAddi, Rd: rd, Rs1: rd, Imm: low}}
}

// distance is how far the label of item k is from its first word.
func (m model) distance(k int) int {
	to := slices.IndexFunc(m.l, func(x api.Item) bool { return x.Kind == api.ItemLabel && x.Label == m.l[k].Label })
	words := 0
	for n := min(k, to); n < max(k, to); n++ {
		if m.l[n].Kind == api.ItemInst {
			words++
		} else {
			words += len(m.parts(n))
		}
	}
	if to < k {
		return -4 * words
	}
	return 4 * words
}

// rounds makes branches far until all near ones are in range, and returns how many rounds that takes.
func (m model) rounds() int {
	for round := 1; ; round++ {
		var grown []int
		for k, x := range m.l {
			if d := m.distance; x.Kind == api.ItemBranch && m.far[k] == 0 && (d(k) < -4096 || d(k) > 4094) {
				grown = append(grown, k)
			}
		}
		if len(grown) == 0 {
			return round
		}
		for _, k := range grown {
			m.far[k] = round
		}
	}
}

// words is the instructions of all items, with offsets, and the addresses of the labels.
func (m model) words() (insts []api.Inst, labels []int) {
	for k, x := range m.l {
		parts := m.parts(k)
		switch {
		case x.Kind == api.ItemLabel:
			for len(labels) <= x.Label {
				labels = append(labels, -1)
			}
			labels[x.Label] = 4 * len(insts)
		case x.Kind == api.ItemJump || x.Kind == api.ItemBranch && len(parts) == 1:
			parts[0].Imm = m.distance(k)
		case x.Kind == api.ItemBranch:
			parts[1].Imm = m.distance(k) - 4
		}
		insts = append(insts, parts...)
	}
	return insts, labels
}

// Promises 5.2 and 5.3: generated items, held against the model.
func TestModel(t *testing.T) {
	d := dice(1)
	rounds := map[int]int{}
	for n := range 300 {
		m := model{d.program(), map[int]int{}}
		rounds[m.rounds()]++
		want, addresses := m.words()
		words, labels, e := asm.Assemble(m.l)
		if e != api.OK || !slices.Equal(labels, addresses) || len(words) != len(want) {
			t.Fatalf("program %d: %d words, not %d, labels %v, not %v, %v", n, len(words), len(want), labels, addresses, e)
		}
		for k, w := range words {
			if i, e := inst.Decode(w); i != want[k] || e != api.OK {
				t.Fatalf("program %d, word %d: %v, not %v", n, k, i, want[k])
			}
		}
	}
	if rounds[1] < 10 || rounds[2] < 10 || len(rounds) < 3 {
		t.Errorf("programs by rounds: %v", rounds)
	}
}
