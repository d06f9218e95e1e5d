package interp

import (
	"rushlight/api"
	"rushlight/check"
	"rushlight/store"
)

// pending is a term that has begun and has no value yet, and how many of its operands have begun.
type pending struct {
	term  *api.Term
	begun int
}

// begin begins a term, if there is a step left.
func (m *machine) begin(t *api.Term) {
	if m.step() {
		m.terms = append(m.terms, pending{term: t})
	}
}

// proceed begins the next operand of the term that began last, or ends it if it wants no more.
func (m *machine) proceed() {
	last := len(m.terms) - 1
	t := m.terms[last].term
	if kid := m.next(&m.terms[last]); kid != nil {
		m.begin(kid)
		return
	}
	m.terms = m.terms[:last]
	m.end(t)
}

// next is the operand that a term wants next, or nil. The value of one that only decides is taken, unless it is what the term yields.
func (m *machine) next(p *pending) *api.Term {
	k := p.begun
	kids := p.term.Kids
	if k == len(kids) {
		return nil
	}
	p.begun++
	if k == 0 {
		return &kids[0]
	}
	switch p.term.Kind {
	case api.TmAnd, api.TmOr:
		if v := m.pop(); holds(v) == (p.term.Kind == api.TmOr) {
			m.push(v)
			p.begun = len(kids)
			return nil
		}
	case api.TmCond:
		p.begun = len(kids)
		if !holds(m.pop()) {
			return &kids[2]
		}
	}
	return &kids[k]
}

// end puts the value of a term in place of those of its operands.
func (m *machine) end(t *api.Term) {
	switch t.Kind {
	case api.TmCond: // the value of the operand that was chosen is there
	case api.TmAnd, api.TmOr:
		m.push(truth(holds(m.pop())))
	case api.TmCall:
		m.enter(t.Var, m.take(len(t.Kids)), t.Ptr)
	default:
		v, e := m.evaluate(t, m.take(len(t.Kids)))
		m.must(e)
		m.push(v)
	}
}

// evaluate is the value of a term whose operands have these values.
func (m *machine) evaluate(t *api.Term, args []store.Value) (store.Value, api.Errno) {
	switch t.Kind {
	case api.TmConst:
		return store.Value{Num: t.Num, Is: t.Ptr}, api.OK
	case api.TmAddr:
		return pointer(m.place(t.Var, t.Global)), api.OK
	case api.TmLoad:
		return m.memory.Load(args[0].Ptr, t.Size, t.Ptr)
	case api.TmStore:
		return truncated(args[1], t.Size), m.memory.Put(args[0].Ptr, t.Size, args[1])
	case api.TmUnary:
		return apply(t.Fn, args[0], store.Value{})
	case api.TmBinary:
		return apply(t.Fn, args[0], args[1])
	case api.TmOut:
		m.Out = append(m.Out, args[0].Num)
		return store.Value{}, api.OK
	case api.TmIn:
		return number(m.read()), api.OK
	case api.TmField:
		p, e := m.memory.Part(args[0].Ptr, int(t.Num), t.Size)
		return pointer(p), e
	case api.TmIndex:
		p, e := m.memory.Move(args[0].Ptr, distance(t.Fn, args[1].Num, t.Size))
		return pointer(p), e
	case api.TmStep, api.TmUpdate:
		return m.change(t, args)
	case api.TmCut:
		return truncated(args[0], 1), api.OK
	}
	return store.Value{}, api.ErrArg // check.Check makes no other terms
}

// read is the next input; 0 after the last one.
func (m *machine) read() uint32 {
	m.Ins++
	if m.Ins > len(m.inputs) {
		return 0
	}
	return m.inputs[m.Ins-1]
}

// change stores what a TmStep or TmUpdate makes of what lies at its first operand; it is the new value or, if it asks for that, the old one.
func (m *machine) change(t *api.Term, args []store.Value) (store.Value, api.Errno) {
	fn, by, size := t.Fn, number(0), int(t.Num)
	if t.Kind == api.TmStep {
		fn, by, size = api.FnAdd, number(t.Num), 1
	} else {
		by = args[1]
	}
	place := args[0].Ptr
	before, e := m.memory.Load(place, t.Size, t.Ptr)
	if e != api.OK {
		return store.Value{}, e
	}
	after := before
	if before.Is {
		after.Ptr, e = m.memory.Move(before.Ptr, distance(fn, by.Num, size))
	} else {
		after.Num, e = check.Apply(fn, before.Num, by.Num)
	}
	if e != api.OK {
		return store.Value{}, e
	}
	e = m.memory.Put(place, t.Size, after)
	if t.Post {
		return before, e
	}
	return truncated(after, t.Size), e
}

// distance is how far a pointer is moved by a number of elements of a size: forward, but for FnSub.
func distance(fn int, n uint32, size int) int64 {
	by := int64(int32(n)) * int64(size)
	if fn == api.FnSub {
		return -by
	}
	return by
}

// apply is a function of two values, or of the first one. Of pointers it asks only whether they are null.
func apply(fn int, a, b store.Value) (store.Value, api.Errno) {
	switch null := !holds(a); {
	case !a.Is:
		n, e := check.Apply(fn, a.Num, b.Num)
		return number(n), e
	case fn == api.FnZero:
		return truth(null), api.OK
	default:
		bothNull := null && !holds(b)
		return truth(bothNull == (fn == api.FnEq)), api.OK
	}
}

// number is a number as a value.
func number(n uint32) store.Value { return store.Value{Num: n} }

// pointer is a pointer as a value.
func pointer(p store.Ptr) store.Value { return store.Value{Ptr: p, Is: true} }

// truth is 1 if something holds, and otherwise 0.
func truth(holds bool) store.Value {
	if holds {
		return number(1)
	}
	return number(0)
}

// holds reports whether a value is neither 0 nor the null pointer.
func holds(v store.Value) bool {
	if v.Is {
		return v.Ptr.Obj != 0
	}
	return v.Num != 0
}

// truncated is a value as it is read back from so many bytes.
func truncated(v store.Value, size int) store.Value {
	if size == 1 {
		v.Num = uint32(byte(v.Num))
	}
	return v
}
