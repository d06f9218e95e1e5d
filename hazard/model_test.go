package hazard_test

import (
	"slices"
	"testing"

	"rushlight/alias"
	"rushlight/api"
	"rushlight/drawn"
	"rushlight/hazard"
	"rushlight/ir"
	. "rushlight/sketch"
)

// place is an instruction of a block, or behind the last one the block's end.
type place struct{ block, at int }

// model finds hazards as the chapter words them: from each read it follows all paths, for itself.
type model struct {
	api.Proc
	view    *alias.View
	spilled []bool
	hazards map[place]int
}

// isSpilled reports whether a register is spilled.
func (x *model) isSpilled(r int) bool { return r >= 0 && r < len(x.spilled) && x.spilled[r] }

// reads is the registers that are read at a place.
func (x *model) reads(p place) []int {
	b := x.Blocks[p.block]
	switch {
	case p.at < len(b.Ins):
		return ir.Uses(b.Ins[p.at])
	case b.End != api.EndJump:
		return []int{b.A}
	}
	return nil
}

// modelled is a procedure's hazards.
func modelled(m api.Module, n int, spilled []bool) [][]int {
	v, _ := alias.New(m, n)
	x := &model{Proc: m.Procs[n], view: v, spilled: spilled, hazards: map[place]int{}}
	l := make([][]int, len(x.Blocks))
	for n, b := range x.Blocks {
		for k := range len(b.Ins) + 1 {
			p := place{n, k}
			for _, r := range x.reads(p) {
				if x.isSpilled(r) {
					x.follow(p, func(i api.Ins) bool { return ir.Def(i) == r }, map[place]int{})
				}
			}
			if k < len(b.Ins) && b.Ins[k].Op == api.IrLoad {
				x.follow(p, func(i api.Ins) bool { return i.Op == api.IrStore && v.Meet(b.Ins[k], i) }, map[place]int{})
			}
		}
	}
	for p := range x.hazards {
		l[p.block] = append(l[p.block], p.at)
	}
	for _, k := range l {
		slices.Sort(k)
	}
	return l
}

// follow takes for hazards all writes on the paths from a place on that conflict.
func (x *model) follow(p place, conflicts func(i api.Ins) bool, seen map[place]int) {
	if seen[p] > 0 {
		return
	}
	seen[p] = 1
	b := x.Blocks[p.block]
	if p.at == len(b.Ins) {
		for _, to := range ir.Outs(b) {
			x.follow(place{to, 0}, conflicts, seen)
		}
		return
	}
	i := b.Ins[p.at]
	if i.Op == api.IrMark || i.Op == api.IrCall {
		return
	}
	if conflicts(i) {
		x.hazards[p] = 1
	}
	x.follow(place{p.block, p.at + 1}, conflicts, seen)
}

// chosen is a list of which registers are spilled.
func chosen(d *drawn.Dice, regs int) []bool {
	l := make([]bool, d.Roll(regs+3))
	part := d.Roll(4)
	for r := range l {
		l[r] = d.Roll(3) < part
	}
	return l
}

// drawnModule is a module of one of several kinds.
func drawnModule(n int) api.Module {
	switch {
	case n%10 == 9:
		return drawn.WildModule(n)
	case n%20 == 8:
		return drawn.TameModule(n)
	case n%100 == 7:
		return drawn.Lowered(n)
	}
	return drawn.PointerModule(n)
}

// Promise 22.1: drawn modules and programs, held against the model. Of a hazard Writes tells that it is a write.
func TestDrawn(t *testing.T) {
	writes, hazards := 0, 0
	for n := range 6000 {
		m, d := drawnModule(n), drawn.Dice(n)
		for k, p := range m.Procs {
			spilled := chosen(&d, p.Regs)
			got, e := hazard.Find(m, k, spilled)
			if want := modelled(m, k, spilled); e != api.OK || !slices.EqualFunc(got, want, slices.Equal) {
				t.Fatalf("%s with %v: %v, not %v", ir.Text(p), spilled, got, want)
			}
			for n, b := range p.Blocks {
				for k, i := range b.Ins {
					is := slices.Contains(got[n], k)
					if is && !hazard.Writes(i, spilled) {
						t.Fatalf("%v is no write", i)
					}
					if is {
						hazards++
					} else if hazard.Writes(i, spilled) {
						writes++
					}
				}
			}
		}
	}
	if hazards < 15000 || writes < 15000 {
		t.Errorf("%d hazards and %d other writes", hazards, writes)
	}
}

// Promise 22.2: a mark that is added makes nothing a hazard.
func TestMarkAdded(t *testing.T) {
	less := 0
	for n := range 8000 {
		m, d := drawn.PointerModule(n), drawn.Dice(n)
		p := &m.Procs[0]
		spilled := chosen(&d, p.Regs)
		was, _ := hazard.Find(m, 0, spilled)
		b := d.Roll(len(p.Blocks))
		at := d.Roll(len(p.Blocks[b].Ins) + 1)
		p.Blocks[b].Ins = slices.Insert(p.Blocks[b].Ins, at, Mark())
		is, _ := hazard.Find(m, 0, spilled)
		for n, l := range is {
			for _, k := range l {
				if n == b && k > at {
					k--
				}
				if !slices.Contains(was[n], k) {
					t.Fatalf("%d: instruction %d of block %d of %s", n, k, n, ir.Text(*p))
				}
			}
			less += len(was[n]) - len(l)
		}
	}
	if less < 500 {
		t.Errorf("%d hazards less", less)
	}
}

// nest is loops within each other, as many as there may be, with a load in the innermost one, and in each one a load, a store, and a write of
// register 5 that nothing reads.
func nest(depth int) []api.Block {
	l := make([]api.Block, 3*depth+1)
	for n := range depth {
		l[n] = Branch(9, n+1, 2*depth+1+n, Load(4, 3, 4*n, 4)) // to the next one, or behind this one
		l[2*depth-n] = Jump(n, Store(3, 4, 4*n, 4), Const(5, 0))
		l[2*depth+1+n] = Jump(2*depth+1-n, Copy(8, 8))
	}
	l[0] = Branch(9, 1, 2*depth+1, Frame(3, 0, 0))
	l[depth] = Jump(depth+1, Load(4, 3, 1, 1))
	l[2*depth+1] = Ret(9)
	return l
}

// Promise 22.1: the largest procedures.
func TestLarge(t *testing.T) {
	if l := find(t, module(nest(1300)...), nil); len(l[1301]) != 1 || len(l[2000]) != 1 || len(l[2599]) != 1 {
		t.Errorf("nested loops: %v", l)
	}
	var all []api.Ins
	for len(all)+3 <= ir.MaxIns {
		k := len(all) / 3 % 7900
		all = append(all, Frame(k+10, k%2, k), Load(k+10, k+10, 0, 4), Store(k+10, 0, 0, 4))
	}
	m := module(Jump(0, all...))
	m.Procs[0].Regs = ir.MaxRegs
	if l := find(t, m, nil); len(l[0]) != len(all)/3 {
		t.Errorf("%d hazards", len(l[0]))
	}
	if l := find(t, m, slices.Repeat([]bool{true}, ir.MaxRegs)); len(l[0]) != len(all) {
		t.Errorf("%d hazards with spilled registers", len(l[0]))
	}
	var chain []api.Block // of blocks that are not reached, which lead backward
	for n := range ir.MaxBlocks {
		chain = append(chain, Jump(max(0, n-1), Frame(n+10, 0, 4*(n%8000)), Load(1, n+10, 0, 4), Out(n+10), Store(n+10, 1, 0, 4)))
	}
	chain[0] = Ret(9)
	m.Procs[0].Blocks = chain
	if l := find(t, m, slices.Repeat([]bool{true}, ir.MaxRegs)); !slices.Equal(l[1], []int{1, 3}) || len(l[ir.MaxBlocks-1]) != 1 {
		t.Errorf("%v", l[:9])
	}
}
