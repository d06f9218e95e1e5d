package lower

import "rushlight/api"

// effect evaluates a term for what it does.
func (b *builder) effect(t *api.Term) {
	if changes(t) {
		b.change(t, false)
		return
	}
	b.value(t)
}

// value is the register that holds what a term yields, or api.None if it yields nothing. It may be that of a variable, which may change thereafter.
func (b *builder) value(t *api.Term) int {
	switch t.Kind {
	case api.TmConst:
		return b.constant(t.Num)
	case api.TmAddr, api.TmField, api.TmIndex:
		return b.address(b.place(t))
	case api.TmLoad:
		return b.load(b.place(&t.Kids[0]), t.Size)
	case api.TmStore, api.TmStep, api.TmUpdate:
		return b.change(t, true)
	case api.TmUnary:
		return b.unary(t.Fn, b.value(&t.Kids[0]))
	case api.TmBinary:
		l := b.operands(t.Kids)
		return b.binary(t.Fn, l[0], l[1])
	case api.TmAnd, api.TmOr:
		return b.truth(t)
	case api.TmCond:
		return b.choice(t)
	case api.TmCall:
		return b.call(t)
	case api.TmOut:
		b.add(ins(api.IrOut, api.None, b.value(&t.Kids[0]), api.None))
	case api.TmIn:
		d := b.fresh(false)
		b.add(ins(api.IrIn, d, api.None, api.None))
		return d
	case api.TmCut:
		return b.cut(b.value(&t.Kids[0]))
	}
	return api.None
}

// operands is the registers that hold what terms yield, all of them at the end.
func (b *builder) operands(l []api.Term) []int {
	var regs []int
	for k := range l {
		regs = append(regs, b.kept(b.value(&l[k]), l[k+1:]))
	}
	return regs
}

// call calls a function.
func (b *builder) call(t *api.Term) int {
	i := ins(api.IrCall, api.None, api.None, api.None)
	i.Obj, i.Args = t.Var, b.operands(t.Kids)
	if !b.unit.Codes[t.Var].Void {
		i.D = b.fresh(false)
	}
	b.add(i)
	return i.D
}

// change is a TmStore, TmStep or TmUpdate; it yields something only if that is wanted.
func (b *builder) change(t *api.Term, wanted bool) int {
	p, operand := b.place(&t.Kids[0]), api.None
	if t.Kind != api.TmStep {
		p = b.keptPlace(p, t.Kids[1:])
		operand = b.value(&t.Kids[1])
	}
	if t.Kind == api.TmStore {
		return b.put(p, operand, t.Size, wanted)
	}
	p = b.settled(p)
	before := b.load(p, t.Size)
	if !t.Post || !wanted {
		return b.put(p, b.updated(t, before, operand), t.Size, wanted)
	}
	if p.kind == variable {
		before = b.copied(before)
	}
	b.put(p, b.updated(t, before, operand), t.Size, false)
	return before
}

// updated is the register that holds what a TmStep or TmUpdate makes of what was there before.
func (b *builder) updated(t *api.Term, before, operand int) int {
	switch {
	case t.Kind == api.TmStep:
		return b.binary(api.FnAdd, before, b.constant(t.Num))
	case t.Ptr:
		return b.binary(t.Fn, before, b.scaled(operand, t.Num))
	}
	return b.binary(t.Fn, before, operand)
}

// put puts what a register holds at a place. It yields, if that is wanted, what is there then.
func (b *builder) put(p place, r, size int, wanted bool) int {
	if size == 1 && (wanted || p.kind == variable) {
		r = b.cut(r)
	}
	if p.kind == variable {
		b.copyTo(p.number, r)
	} else {
		b.store(p, r, size)
	}
	return r
}
