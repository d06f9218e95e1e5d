package lower

import "rushlight/api"

// condition goes on at one target if a term is not 0, and else at another.
func (b *builder) condition(t *api.Term, yes, no *target) {
	switch {
	case t.Kind == api.TmConst && t.Num != 0:
		b.jump(yes)
	case t.Kind == api.TmConst:
		b.jump(no)
	case t.Kind == api.TmUnary && t.Fn == api.FnZero:
		b.condition(&t.Kids[0], no, yes)
	case t.Kind == api.TmAnd:
		b.connected(t, yes, no, true)
	case t.Kind == api.TmOr:
		b.connected(t, yes, no, false)
	case t.Kind == api.TmCond:
		first, second := newTarget(), newTarget()
		b.condition(&t.Kids[0], first, second)
		b.begin(first)
		b.condition(&t.Kids[1], yes, no)
		b.begin(second)
		b.condition(&t.Kids[2], yes, no)
	default:
		b.fork(b.value(t), yes, no)
	}
}

// connected is the condition of a TmAnd or TmOr, which asks for its second operand if the first one is true or, of a TmOr, false.
func (b *builder) connected(t *api.Term, yes, no *target, askIf bool) {
	second := newTarget()
	if askIf {
		b.condition(&t.Kids[0], second, no)
	} else {
		b.condition(&t.Kids[0], yes, second)
	}
	b.begin(second)
	b.condition(&t.Kids[1], yes, no)
}

// truth is a register that holds 1 if a condition holds, and otherwise 0.
func (b *builder) truth(t *api.Term) int {
	r := b.fresh(true)
	yes, no, end := newTarget(), newTarget(), newTarget()
	b.condition(t, yes, no)
	b.begin(yes)
	b.set(r, 1)
	b.jump(end)
	b.begin(no)
	b.set(r, 0)
	b.begin(end)
	return r
}

// choice is a register that holds what a TmCond yields.
func (b *builder) choice(t *api.Term) int {
	r := b.fresh(false)
	yes, no, end := newTarget(), newTarget(), newTarget()
	b.condition(&t.Kids[0], yes, no)
	b.begin(yes)
	b.copyTo(r, b.value(&t.Kids[1]))
	b.jump(end)
	b.begin(no)
	b.copyTo(r, b.value(&t.Kids[2]))
	b.begin(end)
	return r
}
