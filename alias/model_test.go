package alias_test

import (
	"maps"
	"slices"
	"testing"

	"rushlight/alias"
	"rushlight/api"
	"rushlight/drawn"
	"rushlight/ir"
	. "rushlight/sketch"
)

// model is what the chapter words.
type model struct {
	things  []map[int]int
	escaped map[int]int
	setters []int
	address []api.Ins // of registers that one instruction alone sets, that one
	objects int
}

// modelOf is a procedure's model. It looks at all instructions again as long as something grows.
func modelOf(m api.Module, n int) model {
	p := m.Procs[n]
	x := model{things: make([]map[int]int, p.Regs), escaped: map[int]int{}, setters: make([]int, p.Regs), address: make([]api.Ins, p.Regs), objects: len(p.Objects)}
	for k := range len(m.Globals) + 1 {
		x.escaped[len(p.Objects)+k] = 1
	}
	for r := range p.Regs {
		x.things[r] = map[int]int{}
		if r < p.Params {
			x.setters[r] = 1
			maps.Copy(x.things[r], x.escaped)
		}
	}
	var all []api.Ins
	for _, b := range p.Blocks {
		all = append(all, b.Ins...)
		if b.End == api.EndRet && !p.Void {
			all = append(all, Call(None, 0, b.A)) // which has what is answered escape
		}
	}
	for _, i := range all {
		if d := ir.Def(i); d != None {
			x.setters[d]++
			x.address[d] = i
		}
	}
	for before := -1; before != x.size(); {
		before = x.size()
		for _, i := range all {
			x.take(i)
		}
	}
	return x
}

// size grows with all sets.
func (x model) size() int {
	n := len(x.escaped)
	for _, s := range x.things {
		n += len(s)
	}
	return n
}

// take adds what an instruction does.
func (x model) take(i api.Ins) {
	switch {
	case i.Op == api.IrFrame:
		x.things[i.D][i.Obj] = 1
	case i.Op == api.IrGlobal:
		x.things[i.D][x.objects+i.Obj] = 1
	case i.Op == api.IrCopy:
		maps.Copy(x.things[i.D], x.things[i.A])
	case i.Op == api.IrBin && (i.Fn == api.FnAdd || i.Fn == api.FnSub):
		maps.Copy(x.things[i.D], x.things[i.A])
		maps.Copy(x.things[i.D], x.things[i.B])
	case i.Op == api.IrLoad && i.Size == 4:
		maps.Copy(x.things[i.D], x.escaped)
	case i.Op == api.IrStore && i.Size == 4:
		maps.Copy(x.escaped, x.things[i.B])
	case i.Op == api.IrCall:
		for _, r := range i.Args {
			maps.Copy(x.escaped, x.things[r])
		}
		if i.D != None {
			maps.Copy(x.things[i.D], x.escaped)
		}
	}
}

// exact is the place that a register always is.
func (x model) exact(r int) (thing, off int, is bool) {
	switch i := x.address[r]; {
	case x.setters[r] != 1:
		return 0, 0, false
	case i.Op == api.IrFrame:
		return i.Obj, i.Off, true
	case i.Op == api.IrGlobal:
		return x.objects + i.Obj, i.Off, true
	}
	return 0, 0, false
}

// meet reports whether two loads or stores may overlap.
func (x model) meet(a, b api.Ins) bool {
	for thing := range x.things[a.A] {
		if x.things[b.A][thing] == 0 {
			continue
		}
		_, from, is := x.exact(a.A)
		_, other, both := x.exact(b.A)
		if !is || !both {
			return true
		}
		for k := range a.Size {
			for l := range b.Size {
				if from+a.Off+k == other+b.Off+l {
					return true
				}
			}
		}
	}
	return false
}

// sorted is the keys of a map, ascending.
func sorted(m map[int]int) []int { return slices.Sorted(maps.Keys(m)) }

// accesses is the loads and stores of a procedure.
func accesses(p api.Proc) []api.Ins {
	var l []api.Ins
	for _, b := range p.Blocks {
		for _, i := range b.Ins {
			if i.Op == api.IrLoad || i.Op == api.IrStore {
				l = append(l, i)
			}
		}
	}
	return l
}

// Promises 21.1 to 21.3: drawn modules and programs, held against the model.
func TestDrawn(t *testing.T) {
	meetings, apart, exact, escapes := 0, 0, 0, 0
	for n := range 4000 {
		m := drawn.PointerModule(n)
		switch {
		case n%8 == 7:
			m = drawn.WildModule(n)
		case n%40 == 6:
			m = drawn.Lowered(n)
		}
		for k, p := range m.Procs {
			v, e := alias.New(m, k)
			if e != api.OK {
				t.Fatalf("%d: %v", n, e)
			}
			want := modelOf(m, k)
			if !slices.Equal(v.Out(), sorted(want.escaped)) {
				t.Fatalf("%s: out %v, not %v", ir.Text(p), v.Out(), want.escaped)
			}
			escapes += len(v.Out()) - len(m.Globals) - 1
			for r := range p.Regs {
				if !slices.Equal(v.Things(r), sorted(want.things[r])) {
					t.Fatalf("%s: register %d: %v, not %v", ir.Text(p), r, v.Things(r), want.things[r])
				}
				thing, off, is := v.Exact(r)
				if x, y, z := want.exact(r); thing != x || off != y || is != z {
					t.Fatalf("%s: register %d: exact %d, %d, %v", ir.Text(p), r, thing, off, is)
				}
				if is {
					exact++
				}
			}
			l := accesses(p)
			for x, a := range l {
				for y, b := range l {
					meets := v.Meet(a, b)
					if meets != want.meet(a, b) || meets != v.Meet(b, a) || x == y && meets != (len(v.Things(a.A)) > 0) {
						t.Fatalf("%s: %v and %v: %v", ir.Text(p), a, b, meets)
					}
					if meets {
						meetings++
					} else {
						apart++
					}
				}
			}
		}
	}
	if meetings < 20000 || apart < 20000 || exact < 10000 || escapes < 2000 {
		t.Errorf("%d accesses overlap, %d do not; %d registers are exact, %d objects escape", meetings, apart, exact, escapes)
	}
}

// Promise 21.1: the largest procedures, in which all there is may be pointed into. Things flow against the order of the instructions.
func TestLarge(t *testing.T) {
	m := WithGlobals(Main(), slices.Repeat([]int{4}, 200)...)
	p := &m.Procs[0]
	p.Regs, p.Objects = ir.MaxRegs, Slots(slices.Repeat([]int{4}, 400)...)
	var l []api.Ins
	for r := range ir.MaxRegs - 1 {
		l = append(l, Copy(r, r+1))
	}
	for r := range ir.MaxRegs {
		if r%14 == 0 && r/14 < 400 {
			l = append(l, Frame(r, r/14, 0))
		}
	}
	for n := range 200 {
		l = append(l, Global(ir.MaxRegs-1, n, 0))
	}
	for len(l) < ir.MaxIns {
		l = append(l, Load(len(l)%3, 3, 0, 4))
	}
	p.Blocks = []api.Block{Ret(0, l...)}
	v := view(t, m)
	if l := v.Things(0); len(l) != 601 || l[0] != 0 || l[600] != 600 || len(v.Out()) != 601 {
		t.Errorf("%v", l)
	}
	if l := v.Things(14); len(l) != 599 || l[0] != 1 || l[598] != 599 {
		t.Errorf("%v", l)
	}
	if l := v.Things(ir.MaxRegs - 1); len(l) != 200 || l[0] != 400 {
		t.Errorf("%v", l)
	}
}
