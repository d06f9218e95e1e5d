package alloc_test

import (
	"maps"
	"slices"
	"testing"

	"rushlight/alloc"
	"rushlight/api"
	"rushlight/drawn"
	"rushlight/flow"
	"rushlight/ir"
	"rushlight/procs"
	. "rushlight/sketch"
)

// point is a place in a procedure: instruction k of a block, where it reads or sets; or the end of the block, which has k beyond them.
type point struct {
	block, k int
	sets     bool
}

// pointsOf are the points of a procedure, in their order.
func pointsOf(p api.Proc) []point {
	var l []point
	for n, b := range p.Blocks {
		for k := range b.Ins {
			l = append(l, point{n, k, false}, point{n, k, true})
		}
		l = append(l, point{n, len(b.Ins), false})
	}
	return l
}

// ranges is the ranges of all registers that have one, as the chapter words it: from the least to the greatest of a set of points.
func ranges(p api.Proc) map[int][2]int {
	points := map[int][]int{}
	in, out := flow.Live(p)
	for n, x := range pointsOf(p) {
		b := p.Blocks[x.block]
		var l []int
		switch {
		case x.k == len(b.Ins) && (b.End == api.EndBranch || b.End == api.EndRet):
			l = append(l, b.A)
		case x.k < len(b.Ins) && x.sets:
			l = append(l, ir.Def(b.Ins[x.k]))
		case x.k < len(b.Ins):
			l = append(l, ir.Uses(b.Ins[x.k])...)
		}
		for r := range p.Regs {
			if x.k == 0 && !x.sets && in[x.block][r] || x.k == len(b.Ins) && out[x.block][r] {
				l = append(l, r)
			}
		}
		for _, r := range l {
			points[r] = append(points[r], n)
		}
	}
	for r := range p.Params {
		points[r] = append(points[r], 0)
	}
	delete(points, None)
	l := map[int][2]int{}
	for r, at := range points {
		l[r] = [2]int{slices.Min(at), slices.Max(at)}
	}
	return l
}

// assigned is the seats and the number of slots, as the chapter words it: registers that are free are kept apart from those that are held.
func assigned(p api.Proc, regs int) ([]api.Seat, int) {
	l := ranges(p)
	seats := slices.Repeat([]api.Seat{Nowhere()}, p.Regs)
	free := []int{8, 9, 18, 19, 20, 21, 22, 23, 24, 25, 26, 27}[:regs]
	var active []int // the registers whose ranges hold one of the machine, in the order in which they were processed
	slots := 0
	for _, r := range inOrder(l) {
		active = slices.DeleteFunc(active, func(other int) bool {
			ended := l[other][1] < l[r][0]
			if ended {
				free = append(free, seats[other].Reg)
			}
			return ended
		})
		slices.Sort(free)
		if len(free) > 0 {
			seats[r], free, active = InReg(free[0]), free[1:], append(active, r)
			continue
		}
		active = append(active, r)
		last := 0
		for k, other := range active {
			if l[other][1] >= l[active[last]][1] {
				last = k
			}
		}
		out := active[last]
		active = slices.Delete(active, last, last+1)
		if out != r {
			seats[r] = seats[out]
		}
		seats[out] = InSlot(slots)
		slots++
	}
	return seats, slots
}

// inOrder are the registers that have ranges, in the order in which these are processed.
func inOrder(l map[int][2]int) []int {
	order := slices.Sorted(maps.Keys(l))
	slices.SortStableFunc(order, func(a, b int) int { return l[a][1] - l[b][1] })
	slices.SortStableFunc(order, func(a, b int) int { return l[a][0] - l[b][0] })
	return order
}

// modules is drawn modules of all kinds, up to number n.
func modules(n int, use func(n int, m api.Module)) {
	for n := range n {
		for _, draw := range []func(n int) api.Module{drawn.WildModule, drawn.TameModule, drawn.CallModule, drawn.PointerModule} {
			use(n, draw(n))
		}
		if n%5 == 0 {
			use(n, drawn.Lowered(n))
		}
	}
}

// Promise 24.1: drawn procedures, held against the model.
func TestModel(t *testing.T) {
	registers, without, slotted := 0, 0, 0
	modules(500, func(n int, m api.Module) {
		for _, p := range m.Procs {
			kept, regs := procs.Clone(p), n%(alloc.MaxRegs+1)
			l := ranges(p)
			for r := range p.Regs {
				from, to, is := alloc.Range(p, r)
				if want, has := l[r]; is != has || [2]int{from, to} != want {
					t.Fatalf("%s: register %d: %d, %d, %v, not %v", ir.Text(p), r, from, to, is, want)
				}
			}
			want, count := assigned(p, regs)
			seats, slots, e := alloc.Assign(p, regs)
			if !slices.Equal(seats, want) || slots != count || e != api.OK {
				t.Fatalf("%s: %d registers: %v, %d, %v, not %v, %d", ir.Text(p), regs, seats, slots, e, want, count)
			}
			if !procs.Equal(p, kept) {
				t.Fatalf("changed: %s", ir.Text(p))
			}
			registers, without, slotted = registers+p.Regs, without+p.Regs-len(l), slotted+slots
		}
	})
	if without < registers/20 || slotted < registers/10 {
		t.Errorf("%d registers, of which %d have no range and %d a slot", registers, without, slotted)
	}
}

// shared tells which two registers share a location though one of them is set while the other one is live.
func shared(p api.Proc, seats []api.Seat) (a, b int, is bool) {
	meets := func(r int, live []bool) bool {
		for other, is := range live {
			if is && other != r && seats[other] == seats[r] {
				a, b = r, other
				return true
			}
		}
		return false
	}
	in, out := flow.Live(p)
	for r := range p.Regs {
		if (r < p.Params || in[0][r]) && meets(r, in[0]) {
			return a, b, true
		}
	}
	for n, block := range p.Blocks {
		for k, live := range flow.Each(p, n, out[n]) {
			if d := ir.Def(block.Ins[k]); d != None && meets(d, live) {
				return a, b, true
			}
		}
	}
	return 0, 0, false
}

// Promise 24.2: no two registers share a location while they must not, and few registers need no slots.
func TestApart(t *testing.T) {
	few := 0
	modules(500, func(n int, m api.Module) {
		for _, p := range m.Procs {
			for _, regs := range []int{0, 1, 2 + n%(alloc.MaxRegs-2), alloc.MaxRegs} {
				l, slots, _ := alloc.Assign(p, regs)
				if a, b, is := shared(p, l); is {
					t.Fatalf("%s: %d registers: %d and %d: %v", ir.Text(p), regs, a, b, l)
				}
				if p.Regs <= regs && slots > 0 {
					t.Fatalf("%s: %d slots", ir.Text(p), slots)
				}
				if regs == alloc.MaxRegs && p.Regs <= regs {
					few++
				}
			}
		}
	})
	if few < 1000 {
		t.Errorf("%d procedures have few registers", few)
	}
}

// entered is a procedure that does the same behind a block with as many marks as it has parameters.
func entered(p api.Proc) api.Proc {
	p = procs.Clone(p)
	for n := range p.Blocks {
		b := &p.Blocks[n]
		if b.End != api.EndRet {
			b.To++
		}
		if b.End == api.EndBranch {
			b.Else++
		}
	}
	p.Blocks = append([]api.Block{Jump(1, slices.Repeat([]api.Ins{Mark()}, p.Params)...)}, p.Blocks...)
	return p
}

// located is an entered procedure that uses locations in place of registers: first those in which it is handed its arguments, which it copies
// where the marks were, then the machine's registers, then slots.
func located(p api.Proc, regs int) api.Proc {
	seats, slots, _ := alloc.Assign(p, regs)
	at := func(r int) int {
		switch {
		case r == None:
			return None
		case seats[r].Reg > 0:
			return p.Params + seats[r].Reg
		case seats[r].Slot == None:
			return -9 // no location: it must not be used
		}
		return p.Params + 28 + seats[r].Slot
	}
	q := procs.Clone(p)
	q.Regs = p.Params + 28 + slots
	for n := range q.Blocks {
		b := &q.Blocks[n]
		b.A = at(b.A)
		for k := range b.Ins {
			i := &b.Ins[k]
			i.D, i.A, i.B = at(i.D), at(i.A), at(i.B)
			for k, r := range i.Args {
				i.Args[k] = at(r)
			}
		}
	}
	for r := range p.Params {
		q.Blocks[0].Ins[r] = Copy(at(r), r)
	}
	return q
}

// Promise 24.2: procedures whose registers are kept in their locations do what they did.
func TestLocated(t *testing.T) {
	fewer := 0
	modules(300, func(n int, m api.Module) {
		for k, p := range m.Procs {
			m.Procs[k] = entered(p)
		}
		for _, regs := range []int{0, 1 + n%3, alloc.MaxRegs} {
			if s := drawn.Unequal(m, 3000, func(p api.Proc) api.Proc {
				if _, slots, _ := alloc.Assign(p, regs); slots+regs < p.Regs {
					fewer++
				}
				return located(p, regs)
			}); s != "" {
				t.Fatalf("%d registers: %s", regs, s)
			}
		}
	})
	if fewer < 1000 {
		t.Errorf("%d procedures have fewer locations than registers", fewer)
	}
}
