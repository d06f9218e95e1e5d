package lower

import "rushlight/api"

// add adds an instruction to the block.
func (b *builder) add(i api.Ins) {
	if b.reached() {
		x := &b.proc.Blocks[b.at]
		x.Ins = append(x.Ins, i)
		b.count++
	}
}

// ins is an instruction with these registers.
func ins(op, d, a, c int) api.Ins { return api.Ins{Op: op, D: d, A: a, B: c} }

// set makes a register a number.
func (b *builder) set(d int, n uint32) {
	i := ins(api.IrConst, d, api.None, api.None)
	i.Num = n
	b.add(i)
}

// constant is a register that holds a number.
func (b *builder) constant(n uint32) int {
	d := b.fresh(n < 256)
	b.set(d, n)
	return d
}

// copyTo makes a register what another one is.
func (b *builder) copyTo(d, a int) { b.add(ins(api.IrCopy, d, a, api.None)) }

// copied is a new register that holds what another one does.
func (b *builder) copied(a int) int {
	d := b.fresh(b.isNarrow(a))
	b.copyTo(d, a)
	return d
}

// unary is a register that holds a function of another one.
func (b *builder) unary(fn, x int) int {
	i := ins(api.IrUn, b.fresh(fn == api.FnZero), x, api.None)
	i.Fn = fn
	b.add(i)
	return i.D
}

// binary is a register that holds a function of two others.
func (b *builder) binary(fn, x, y int) int {
	i := ins(api.IrBin, b.fresh(b.yieldsByte(fn, x, y)), x, y)
	i.Fn = fn
	b.add(i)
	return i.D
}

// yieldsByte reports whether it is known that a function of two registers is never more than a byte.
func (b *builder) yieldsByte(fn, x, y int) bool {
	switch {
	case fn == api.FnAnd:
		return b.isNarrow(x) || b.isNarrow(y)
	case fn == api.FnOr || fn == api.FnXor:
		return b.isNarrow(x) && b.isNarrow(y)
	}
	return fn >= api.FnEq && fn <= api.FnGe
}

// isNarrow reports whether it is known that a register never holds more than a byte.
func (b *builder) isNarrow(r int) bool { return r != api.None && b.narrow[r] }

// cut is a register that holds the lowest eight bits of another one: that one, if it has no others.
func (b *builder) cut(x int) int {
	if b.isNarrow(x) {
		return x
	}
	return b.binary(api.FnAnd, x, b.constant(255))
}
