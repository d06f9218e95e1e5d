package asm_test

import (
	"slices"
	"testing"

	"rushlight/api"
	"rushlight/asm"
)

// Promises 5.2 and 5.3: the last offsets of near branches and the first ones of far branches.
func TestNearAndFar(t *testing.T) {
	for op := api.OpBeq; op <= api.OpBgeu; op++ {
		branch, label := one(asm.Branch(op, 3, 4, 0)), one(asm.Label(0))
		near := func(offset int) []api.Inst { return []api.Inst{{Op: op, Rs1: 3, Rs2: 4, Imm: offset}} }
		far := func(offset int) []api.Inst {
			return []api.Inst{{Op: asm.Contrary(op), Rs1: 3, Rs2: 4, Imm: 8}, {Op: api.OpJal, Imm: offset - 4}}
		}
		for _, x := range []struct {
			name string
			l    []api.Item
			at   int
			want []api.Inst
		}{
			{"to itself", join(label, branch), 0, near(0)},
			{"to the next", join(branch, label), 0, near(4)},
			{"forward by 4092", join(branch, pad(1022), label), 0, near(4092)},
			{"forward by 4096", join(branch, pad(1023), label), 0, far(4100)},
			{"forward, to more items", join(branch, pad(1023), label, pad(3)), 0, far(4100)},
			{"back by 4096", join(label, pad(1024), branch), 1024, near(-4096)},
			{"back by 4100", join(label, pad(1025), branch), 1025, far(-4100)},
			{"forward over constants", join(branch, slices.Repeat(one(asm.Const(1, 0x12345678)), 511), label), 0, near(4092)},
			{"forward over more constants", join(branch, slices.Repeat(one(asm.Const(1, 0x12345678)), 512), label), 0, far(4104)},
		} {
			got, _ := assemble(t, x.l)
			if got = got[x.at : x.at+len(x.want)]; !slices.Equal(got, x.want) {
				t.Errorf("Op %d, %s: %v, not %v", op, x.name, got, x.want)
			}
		}
	}
}

// Promise 5.2: a jump has one word, however far it leads.
func TestJumps(t *testing.T) {
	for _, n := range []int{0, 1, 1023, 1024, 30000} {
		if got, _ := assemble(t, join(one(asm.Jump(7, 1)), pad(n), one(asm.Label(1)))); got[0] != (api.Inst{Op: api.OpJal, Rd: 7, Imm: 4 * (n + 1)}) {
			t.Errorf("forward over %d: %v", n, got[0])
		}
		if got, _ := assemble(t, join(one(asm.Label(1)), pad(n), one(asm.Jump(0, 1)))); got[n] != (api.Inst{Op: api.OpJal, Imm: -4 * n}) {
			t.Errorf("back over %d: %v", n, got[n])
		}
	}
}

// chain is so many branches, each of which grows only in the round after the next one has grown, if the last one grows at all.
// Each branch leads over 511 others and one more word: that is too far only if all of them have two words.
func chain(count int, last api.Item) []api.Item {
	const others = 511
	long := asm.Const(1, 0x12345678)
	var l []api.Item
	for k := range count + others {
		switch {
		case k < count:
			l = append(l, asm.Branch(api.OpBeq, 1, 2, k))
		case k == count+others-1:
			l = append(l, last)
		default:
			l = append(l, long)
		}
		if k%(others+1) == 0 {
			l = join(l, pad(1))
		}
		if k >= others {
			l = append(l, asm.Label(k-others))
		}
	}
	return l
}

// Promises 5.2, 5.3 and rule R1: a branch that grows pushes others out of range, in as many rounds as it takes.
func TestRounds(t *testing.T) {
	for _, count := range []int{1, 2, 3, 513, asm.MaxLabels} {
		long, short := asm.Const(1, 0x12345678), asm.Const(1, 1)
		l := chain(count, short)
		got, _ := assemble(t, join(l, pad(asm.MaxItems-len(l))))
		for k, i := range got {
			if i.Op == api.OpBne || i.Op == api.OpJal {
				t.Fatalf("%d branches in range: word %d is %v", count, k, i)
			}
		}
		l = chain(count, long)
		got, _ = assemble(t, join(l, pad(asm.MaxItems-len(l))))
		jumps := 0
		for _, i := range got {
			if i.Op == api.OpJal {
				jumps++
			}
		}
		if jumps != count {
			t.Errorf("%d of %d branches are far", jumps, count)
		}
	}
}

// Promise 5.2: the branches that grow in one round are those out of range in that round's placement.
func TestBothGrowAtOnce(t *testing.T) {
	// Both branches are 4 bytes out of range from the beginning: neither can be spared.
	l := join(one(asm.Label(0)), one(asm.Branch(api.OpBlt, 1, 2, 1)), pad(1023), one(asm.Label(1)), pad(1), one(asm.Branch(api.OpBgeu, 1, 2, 0)))
	got, labels := assemble(t, l)
	if len(got) != 2+1024+2 || got[0].Op != api.OpBge || got[1026].Op != api.OpBltu || !slices.Equal(labels, []int{0, 4100}) {
		t.Errorf("%d words, %v, %v, labels %v", len(got), got[0], got[1026], labels)
	}
}

// Promise 5.2: as many items as there may be, as long as they may be. (No list is long enough for ErrRange.)
func TestGreatest(t *testing.T) {
	l := slices.Repeat(one(asm.Const(1, 0x12345678)), asm.MaxItems)
	l[0], l[1], l[2], l[3] = asm.Label(0), asm.Jump(1, 1), asm.Branch(api.OpBne, 1, 0, 1), asm.Jump(1, 0)
	l[asm.MaxItems-3], l[asm.MaxItems-2], l[asm.MaxItems-1] = asm.Jump(1, 0), asm.Branch(api.OpBeq, 1, 2, 0), asm.Label(1)
	got, labels := assemble(t, l)
	words := 2*(asm.MaxItems-7) + 2*2 + 3
	if len(got) != words || !slices.Equal(labels, []int{0, 4 * words}) {
		t.Fatalf("%d words, labels %v", len(got), labels)
	}
	for at, want := range map[int]api.Inst{
		0:         {Op: api.OpJal, Rd: 1, Imm: 4 * words},
		2:         {Op: api.OpJal, Imm: 4 * (words - 2)},
		3:         {Op: api.OpJal, Rd: 1, Imm: -12},
		words - 3: {Op: api.OpJal, Rd: 1, Imm: -4 * (words - 3)},
		words - 1: {Op: api.OpJal, Imm: -4 * (words - 1)},
	} {
		if got[at] != want {
			t.Errorf("word %d: %v, not %v", at, got[at], want)
		}
	}
}
