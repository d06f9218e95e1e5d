package region_test

import (
	"slices"
	"testing"

	"rushlight/api"
	"rushlight/drawn"
	"rushlight/flow"
	"rushlight/hazard"
	"rushlight/ir"
	"rushlight/irrun"
	"rushlight/procs"
	"rushlight/region"
	. "rushlight/sketch"
)

// based is Base as the chapter words it.
func based(p api.Proc) api.Proc {
	q := procs.Clone(p)
	starts := []int{0}
	for _, e := range flow.Back(p) {
		starts = append(starts, e[1])
	}
	for n := range q.Blocks {
		l := &q.Blocks[n].Ins
		for k := len(*l) - 1; k >= 0; k-- {
			switch (*l)[k].Op {
			case api.IrCall:
				*l = slices.Insert(*l, k+1, Mark())
				*l = slices.Insert(*l, k, Mark())
			case api.IrOut, api.IrIn:
				*l = slices.Insert(*l, k+1, Mark())
			}
		}
		if slices.Contains(starts, n) {
			*l = slices.Insert(*l, 0, Mark())
		}
		for k := len(*l) - 1; k > 0; k-- {
			if (*l)[k].Op == api.IrMark && (*l)[k-1].Op == api.IrMark {
				*l = slices.Delete(*l, k, k+1)
			}
		}
	}
	return q
}

// place is an instruction of a block, or behind the last one the block's end.
type place struct{ block, at int }

// counter counts the notes of paths.
type counter struct {
	api.Proc
	preds   [][]int
	reached []bool
	known   map[place]int
	round   bool // whether a path without a boundary leads back to where it was
}

// counterOf is a counter for a procedure.
func counterOf(p api.Proc) *counter {
	return &counter{Proc: p, preds: flow.Preds(p), reached: flow.Reach(p), known: map[place]int{}}
}

// weight is how many notes an instruction is.
func weight(i api.Ins) int {
	n := 0
	if i.Log {
		n = 1
	}
	if i.Op == api.IrOut || i.Op == api.IrIn {
		n++
	}
	return n
}

// before is how many notes a path without boundaries has at most that ends ahead of a place.
func (x *counter) before(p place) int {
	if n, is := x.known[p]; is {
		if n < 0 {
			x.round = true
			return 0
		}
		return n
	}
	x.known[p] = -1 // being found out
	most := 0
	if p.at > 0 {
		last := place{p.block, p.at - 1}
		i := x.Blocks[p.block].Ins[last.at]
		if i.Op != api.IrMark && i.Op != api.IrCall {
			most = x.before(last)
		}
		most += weight(i)
	} else {
		for _, from := range x.preds[p.block] {
			if x.reached[from] {
				most = max(most, x.before(place{from, len(x.Blocks[from].Ins)}))
			}
		}
	}
	x.known[p] = most
	return most
}

// most is Most as the chapter words it.
func most(p api.Proc) (int, api.Errno) {
	x, n := counterOf(p), 0
	for b, is := range x.reached {
		if !is {
			continue
		}
		n = max(n, x.before(place{b, 0}))
		for k, i := range p.Blocks[b].Ins {
			n = max(n, x.before(place{b, k + 1}))
			if i.Op != api.IrMark && i.Op != api.IrCall {
				n = max(n, x.before(place{b, k})+weight(i))
			}
		}
	}
	if x.round {
		return 0, api.ErrRule
	}
	return n, api.OK
}

// tooMany is the first place, in the first block of the order that has one, at which a path comes to have more notes than a number.
func tooMany(p api.Proc, notes int) (place, bool) {
	x := counterOf(p)
	for _, b := range flow.Order(p) {
		for k, i := range p.Blocks[b].Ins {
			if i.Op != api.IrCall && weight(i) > 0 && x.before(place{b, k})+weight(i) > notes {
				return place{b, k}, true
			}
		}
	}
	return place{}, false
}

// planned is Plan as the chapter words it.
func planned(m api.Module, n int, spilled []bool, notes int) api.Proc {
	m.Procs = slices.Clone(m.Procs)
	m.Procs[n] = based(m.Procs[n])
	for {
		p := m.Procs[n]
		hazards, _ := hazard.Find(m, n, spilled)
		for b, x := range p.Blocks {
			for k := range x.Ins {
				x.Ins[k].Log = slices.Contains(hazards[b], k)
			}
		}
		at, is := tooMany(p, notes)
		if !is {
			return p
		}
		l := &p.Blocks[at.block].Ins
		*l = slices.Insert(*l, at.at, Mark())
	}
}

// valid is Valid as the chapter words it.
func valid(m api.Module, n int, spilled []bool, notes int) bool {
	p := m.Procs[n]
	starts := []int{0}
	for _, e := range flow.Back(p) {
		starts = append(starts, e[1])
	}
	hazards, _ := hazard.Find(m, n, spilled)
	for b, x := range p.Blocks {
		isMark := func(k int) bool { return k >= 0 && k < len(x.Ins) && x.Ins[k].Op == api.IrMark }
		if slices.Contains(starts, b) && !isMark(0) {
			return false
		}
		for k, i := range x.Ins {
			if i.Op == api.IrCall && !isMark(k-1) || (i.Op == api.IrCall || i.Op == api.IrOut || i.Op == api.IrIn) && !isMark(k+1) {
				return false
			}
			if slices.Contains(hazards[b], k) && !i.Log {
				return false
			}
		}
	}
	count, e := most(p)
	return e == api.OK && count <= notes
}

// bare is Bare as the chapter words it.
func bare(p api.Proc) api.Proc {
	q := procs.Clone(p)
	for n := range q.Blocks {
		var l []api.Ins
		for _, i := range q.Blocks[n].Ins {
			i.Log = false
			if i.Op != api.IrMark {
				l = append(l, i)
			}
		}
		q.Blocks[n].Ins = l
	}
	return q
}

// chosen is a list of which registers are spilled.
func chosen(d *drawn.Dice, regs int) []bool {
	l := make([]bool, d.Roll(regs+3))
	part := d.Roll(4)
	for r := range l {
		l[r] = d.Roll(3) < part
	}
	return l
}

// drawnModule is a module of one of several kinds.
func drawnModule(n int) api.Module {
	switch {
	case n%10 == 9:
		return drawn.WildModule(n)
	case n%20 == 8:
		return drawn.TameModule(n)
	case n%100 == 7:
		return drawn.Lowered(n)
	}
	return drawn.PointerModule(n)
}

// Promise 23.1: drawn procedures, held against the chapter's words.
func TestDrawnMarks(t *testing.T) {
	rounds, counts := 0, map[int]int{}
	for n := range 5000 {
		d := drawn.Dice(n)
		for _, p := range drawnModule(n).Procs {
			if got, want := region.Base(p), based(p); !procs.Equal(got, want) {
				t.Fatalf("%sBase:\n%snot\n%s", ir.Text(p), ir.Text(got), ir.Text(want))
			}
			if got, want := region.Bare(p), bare(p); !procs.Equal(got, want) {
				t.Fatalf("%sBare:\n%snot\n%s", ir.Text(p), ir.Text(got), ir.Text(want))
			}
			for _, p := range []api.Proc{p, someMarks(&d, region.Base(p))} {
				count, e := region.Most(p)
				if want, error := most(p); count != want || e != error {
					t.Fatalf("%s: %d, %v, not %d, %v", ir.Text(p), count, e, want, error)
				}
				counts[count]++
				if e != api.OK {
					rounds++
				}
			}
		}
	}
	if rounds < 1000 || counts[1] < 1000 || counts[2] < 500 || counts[3] < 300 || counts[4] < 100 || counts[5] < 50 {
		t.Errorf("%d with rounds; notes: %v", rounds, counts)
	}
}

// someMarks is a procedure without some of its marks.
func someMarks(d *drawn.Dice, p api.Proc) api.Proc {
	for n := range p.Blocks {
		p.Blocks[n].Ins = slices.DeleteFunc(p.Blocks[n].Ins, func(i api.Ins) bool { return i.Op == api.IrMark && d.Roll(4) == 0 })
	}
	return p
}

// Promises 23.2 to 23.4: drawn plans, held against the chapter's words.
func TestDrawnPlans(t *testing.T) {
	added, logs := 0, 0
	for n := range 6000 {
		m, d := drawnModule(n), drawn.Dice(n)
		for k, p := range m.Procs {
			spilled, notes := chosen(&d, p.Regs), 1+d.Roll(4)
			got, e := region.Plan(m, k, spilled, notes)
			if want := planned(m, k, spilled, notes); e != api.OK || !procs.Equal(got, want) {
				t.Fatalf("%swith %v and %d: %v\n%snot\n%s", ir.Text(p), spilled, notes, e, ir.Text(got), ir.Text(want))
			}
			if count, e := region.Most(got); e != api.OK || count > notes {
				t.Fatalf("%sMost: %d, %v", ir.Text(got), count, e)
			}
			if !procs.Equal(region.Bare(got), region.Bare(p)) {
				t.Fatalf("%sis not\n%s", ir.Text(got), ir.Text(p))
			}
			added += ir.Size(got) - ir.Size(region.Base(p))
			m := m
			m.Procs = slices.Clone(m.Procs)
			m.Procs[k] = got
			if !region.Valid(m, k, spilled, notes) || ir.Check(m) != api.OK {
				t.Fatalf("%sis not valid", ir.Text(got))
			}
			hazards, _ := hazard.Find(m, k, spilled)
			for b, x := range got.Blocks {
				for k, i := range x.Ins {
					if i.Log != slices.Contains(hazards[b], k) {
						t.Fatalf("%s: %d of block %d", ir.Text(got), k, b)
					}
					if i.Log {
						logs++
					}
				}
			}
		}
	}
	if added < 1500 || logs < 10000 {
		t.Errorf("%d marks added to the base marks, %d with Log", added, logs)
	}
}

// changedPlan is a plan in which something is changed, or nothing.
func changedPlan(d *drawn.Dice, p api.Proc) api.Proc {
	p = procs.Clone(p)
	l := &p.Blocks[d.Roll(len(p.Blocks))].Ins
	if len(*l) == 0 {
		return p
	}
	switch k := d.Roll(len(*l)); d.Roll(4) {
	case 0:
		*l = slices.DeleteFunc(*l, func(i api.Ins) bool { return i.Op == api.IrMark && d.Roll(3) == 0 })
	case 1:
		(*l)[k].Log = false
	case 2:
		(*l)[k].Log = (*l)[k].D != None || (*l)[k].Op == api.IrStore
	case 3:
		*l = slices.Insert(*l, k, Mark())
	}
	return p
}

// Promise 23.3: plans in which something is changed, held against the chapter's words.
func TestDrawnValid(t *testing.T) {
	right, wrong := 0, 0
	for n := range 4000 {
		m, d := drawnModule(n), drawn.Dice(n)
		for k, p := range m.Procs {
			spilled, notes := chosen(&d, p.Regs), 1+d.Roll(4)
			if d.Roll(4) > 0 {
				p, _ = region.Plan(m, k, spilled, notes)
			}
			if d.Roll(8) == 0 {
				notes--
			}
			if d.Roll(8) == 0 {
				spilled = chosen(&d, p.Regs)
			}
			m.Procs[k] = changedPlan(&d, p)
			is := region.Valid(m, k, spilled, notes)
			if is != valid(m, k, spilled, notes) {
				t.Fatalf("%swith %v and %d: %v", ir.Text(m.Procs[k]), spilled, notes, is)
			}
			if is {
				right++
			} else {
				wrong++
			}
		}
	}
	if right < 1500 || wrong < 1500 {
		t.Errorf("%d are valid, %d not", right, wrong)
	}
}

// Promise 23.4: plans are equivalent to what they are made from.
func TestEquivalent(t *testing.T) {
	for n := range 600 {
		m, d := drawn.TameModule(n), drawn.Dice(n)
		switch {
		case n%3 == 1:
			m = drawn.WildModule(n)
		case n%10 == 2:
			m = drawn.Lowered(n)
		}
		plans := m
		plans.Procs = nil
		for k, p := range m.Procs {
			q, _ := region.Plan(m, k, chosen(&d, p.Regs), 1+d.Roll(8))
			plans.Procs = append(plans.Procs, q)
		}
		for _, inputs := range [][]uint32{nil, {1, 300, 1<<32 - 1}, {7, 0, 2, 5, 1 << 31}} {
			was := irrun.Run(m, inputs, 100000)
			if was.E != api.OK {
				continue
			}
			if is := irrun.Run(plans, inputs, irrun.MaxFuel); !drawn.SameOutcome(was, is) {
				t.Fatalf("%d: %v, not %v", n, is, was)
			}
		}
	}
}

// Promise 23.2: the largest procedures, with one note each region.
func TestLarge(t *testing.T) {
	m := module()
	p := &m.Procs[0]
	p.Regs = ir.MaxRegs
	var l []api.Ins
	for len(l) < ir.MaxIns {
		r := 10 + len(l)%7000
		l = append(l, Copy(r, r), Copy(r+1, r))
	}
	for n := 0; n < ir.MaxIns; n += 10 {
		p.Blocks = append(p.Blocks, Branch(9, len(p.Blocks)+1, len(p.Blocks)/2, l[n:n+10]...))
	}
	p.Blocks = append(p.Blocks, Ret(9))
	if e := ir.Check(m); e != api.OK {
		t.Fatalf("not valid")
	}
	q, e := region.Plan(m, 0, slices.Repeat([]bool{true}, ir.MaxRegs), 1)
	if e != api.OK || ir.Size(q) < ir.Size(*p)+ir.MaxIns/3 {
		t.Errorf("%v: %d", e, ir.Size(q))
	}
	m.Procs[0] = q
	if n, e := region.Most(q); n != 1 || e != api.OK || !region.Valid(m, 0, slices.Repeat([]bool{true}, ir.MaxRegs), 1) {
		t.Errorf("not valid: %d, %v", n, e)
	}
}
