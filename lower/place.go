package lower

import "rushlight/api"

// placing is where a place is found.
type placing int

// The kinds of places.
const (
	variable placing = iota // a register
	based                   // so far behind the address in a register
	framed                  // so far behind the beginning of an object
	global                  // so far behind the beginning of a global
)

// place is what a term that is an address means. Its instructions are not made before it is known what for.
type place struct {
	kind   placing
	number int // of the register, object or global
	off    int // how far behind
}

// maxOff is how far behind an address an instruction reaches, and ahead of it.
const maxOff = 32768

// place is the place at the address that a term is.
func (b *builder) place(t *api.Term) place {
	switch t.Kind {
	case api.TmAddr:
		return b.home(t)
	case api.TmField:
		return b.moved(b.place(&t.Kids[0]), int64(t.Num))
	case api.TmIndex:
		return b.element(t)
	}
	return place{kind: based, number: b.value(t)}
}

// home is the place of a variable.
func (b *builder) home(t *api.Term) place {
	if t.Global {
		return place{kind: global, number: t.Var}
	}
	h := b.homes[t.Var]
	if h.object == api.None {
		return place{kind: variable, number: h.reg}
	}
	return place{kind: framed, number: h.object}
}

// element is the place of a TmIndex.
func (b *builder) element(t *api.Term) place {
	p, number := b.place(&t.Kids[0]), &t.Kids[1]
	fn := api.FnAdd
	if t.Fn == api.FnSub {
		fn = api.FnSub
	}
	if number.Kind == api.TmConst {
		by := int64(int32(number.Num)) * int64(t.Size)
		if fn == api.FnSub {
			by = -by
		}
		return b.moved(p, by)
	}
	p = b.keptPlace(p, t.Kids[1:])
	by := b.scaled(b.value(number), uint32(t.Size))
	return place{kind: based, number: b.binary(fn, b.base(p), by), off: p.off}
}

// scaled is a register that holds so many times another one.
func (b *builder) scaled(r int, times uint32) int {
	if times == 1 {
		return r
	}
	return b.binary(api.FnMul, r, b.constant(times))
}

// moved is a place that lies so many bytes behind another one.
func (b *builder) moved(p place, by int64) place {
	if off := int64(p.off) + by; off >= -maxOff && off <= maxOff {
		p.off = int(off)
		return p
	}
	return place{kind: based, number: b.binary(api.FnAdd, b.address(p), b.constant(uint32(by)))}
}

// address is a register that holds the address of a place.
func (b *builder) address(p place) int {
	switch {
	case p.kind != based:
		return b.beginning(p, p.off)
	case p.off == 0:
		return p.number
	}
	return b.binary(api.FnAdd, p.number, b.constant(uint32(p.off)))
}

// base is a register that holds the address behind which a place lies by its off.
func (b *builder) base(p place) int {
	if p.kind == based {
		return p.number
	}
	return b.beginning(p, 0)
}

// beginning is a register that holds the address so far behind the beginning of a place's object or global.
func (b *builder) beginning(p place, off int) int {
	i := ins(api.IrFrame, b.fresh(false), api.None, api.None)
	if p.kind == global {
		i.Op = api.IrGlobal
	}
	i.Obj, i.Off = p.number, off
	b.add(i)
	return i.D
}

// settled is a place that is used more than once: what it takes to get there is done once.
func (b *builder) settled(p place) place {
	if p.kind == variable {
		return p
	}
	return place{kind: based, number: b.base(p), off: p.off}
}

// load is a register that holds what lies at a place: that of a variable itself.
func (b *builder) load(p place, size int) int {
	if p.kind == variable {
		return p.number
	}
	base := b.base(p)
	i := ins(api.IrLoad, b.fresh(size == 1), base, api.None)
	i.Off, i.Size = p.off, size
	b.add(i)
	return i.D
}

// store puts what a register holds at a place that is no variable.
func (b *builder) store(p place, r, size int) {
	i := ins(api.IrStore, api.None, b.base(p), r)
	i.Off, i.Size = p.off, size
	b.add(i)
}

// keptPlace is a place that stays the same while terms are evaluated.
func (b *builder) keptPlace(p place, later []api.Term) place {
	if p.kind == based {
		p.number = b.kept(p.number, later)
	}
	return p
}

// kept is a register that holds what r does until terms have been evaluated: a copy, if r is a variable that one of them changes.
func (b *builder) kept(r int, later []api.Term) int {
	if r != api.None && r < b.variables {
		for k := range later {
			if b.changed(&later[k], r) {
				return b.copied(r)
			}
		}
	}
	return r
}

// changed reports whether a term, or an operand, changes the variable in a register.
func (b *builder) changed(t *api.Term, r int) bool {
	if changes(t) {
		if n := slotOf(&t.Kids[0]); n != api.None && b.homes[n].reg == r {
			return true
		}
	}
	for k := range t.Kids {
		if b.changed(&t.Kids[k], r) {
			return true
		}
	}
	return false
}
