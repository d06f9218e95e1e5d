package interp_test

import (
	"rushlight/api"
	"rushlight/check"
	"rushlight/store"
)

// model executes units as the chapter words it: by functions that call themselves, and that panic with an api.Errno or a leaving.
type model struct {
	api.Outcome
	u       api.Unit
	inputs  []uint32
	fuel    int
	memory  *store.Store
	globals []store.Ptr
	locals  []store.Ptr // those of the call that is being executed
	deep    int
}

// leaving is why acts are left.
type leaving struct {
	kind  int // AcBreak, AcContinue or AcReturn; 0 if they were not left
	value store.Value
}

// modelRun is the outcome of a run.
func modelRun(u api.Unit, inputs []uint32, fuel int) api.Outcome {
	m := &model{u: u, inputs: inputs, fuel: fuel, memory: store.New()}
	m.main()
	return m.Outcome
}

// main executes main.
func (m *model) main() {
	defer func() {
		switch x := recover().(type) {
		case nil:
		case api.Errno:
			m.E = x
		default:
			panic(x)
		}
	}()
	for k, g := range m.u.Globals {
		m.globals = append(m.globals, must(m.memory.Make(g.Size)))
		stop(m.memory.Fill(k+1, m.u.Data[k]))
	}
	m.Exit = m.call(api.Term{Var: m.u.Main}, nil).Num % 256
}

// stop ends the run if there is an error.
func stop(e api.Errno) {
	if e != api.OK {
		panic(e)
	}
}

// must is what a call answers, if it does not end the run.
func must[T any](x T, e api.Errno) T {
	stop(e)
	return x
}

func (m *model) step() {
	if m.fuel--; m.fuel < 0 {
		panic(api.ErrFuel)
	}
}

func (m *model) call(t api.Term, args []store.Value) store.Value {
	if m.deep++; m.deep > 5000 {
		panic(api.ErrFuel)
	}
	code, callers := m.u.Codes[t.Var], m.locals
	m.locals = nil
	for _, s := range code.Slots {
		p, e := m.memory.Make(s.Size)
		if e != api.OK {
			panic(api.ErrFuel)
		}
		m.locals = append(m.locals, p)
	}
	for k, v := range args {
		stop(m.memory.Put(m.locals[k], code.Slots[k].Size, v))
	}
	l := m.caught(code.Body)
	for _, p := range m.locals {
		stop(m.memory.Drop(p.Obj))
	}
	m.locals = callers
	m.deep--
	if l.value.Is != t.Ptr {
		l.value = store.Value{Is: t.Ptr}
	}
	return l.value
}

// caught executes acts, and is why they were left.
func (m *model) caught(acts []api.Act) (l leaving) {
	defer func() {
		switch x := recover().(type) {
		case nil:
		case leaving:
			l = x
		default:
			panic(x)
		}
	}()
	m.acts(acts)
	return leaving{}
}

func (m *model) acts(l []api.Act) {
	for _, a := range l {
		m.step()
		m.act(a)
	}
}

func (m *model) act(a api.Act) {
	switch a.Kind {
	case api.AcExpr:
		m.term(a.A[0])
	case api.AcIf:
		if isTrue(m.term(a.A[0])) {
			m.acts(a.Body)
		} else {
			m.acts(a.Else)
		}
	case api.AcLoop:
		m.loop(a)
	case api.AcSwitch:
		m.choose(a)
	case api.AcReturn:
		l := leaving{kind: a.Kind}
		for _, t := range a.A {
			l.value = m.term(t)
		}
		panic(l)
	case api.AcBreak, api.AcContinue:
		panic(leaving{kind: a.Kind})
	case api.AcBlock:
		m.acts(a.Body)
	case api.AcNew:
		stop(m.memory.Unset(m.locals[a.Var].Obj))
	}
}

func (m *model) loop(a api.Act) {
	for first := a.First; first || len(a.A) == 0 || isTrue(m.term(a.A[0])); first = false {
		if !first && len(a.A)+len(a.Body)+len(a.Post) == 0 {
			panic(api.ErrFuel) // it would never end
		}
		switch l := m.caught(a.Body); l.kind {
		case api.AcBreak:
			return
		case api.AcReturn:
			panic(l)
		}
		for _, t := range a.Post {
			m.term(t)
		}
	}
}

func (m *model) choose(a api.Act) {
	n, from := m.term(a.A[0]).Num, -1
	for k, c := range a.Cases {
		if !c.Default && c.Num == n && from < 0 {
			from = k
		}
	}
	for k, c := range a.Cases {
		if c.Default && from < 0 {
			from = k
		}
	}
	var acts []api.Act
	for k, c := range a.Cases {
		if from >= 0 && k >= from {
			acts = append(acts, c.Body...)
		}
	}
	if l := m.caught(acts); l.kind == api.AcContinue || l.kind == api.AcReturn {
		panic(l)
	}
}

// isTrue reports whether a value is neither 0 nor null.
func isTrue(v store.Value) bool { return v.Is && v.Ptr.Obj != 0 || !v.Is && v.Num != 0 }

// oneIf is 1 if something holds, else 0.
func oneIf(holds bool) store.Value {
	if holds {
		return store.Value{Num: 1}
	}
	return store.Value{}
}

func (m *model) term(t api.Term) store.Value {
	m.step()
	switch t.Kind {
	case api.TmAnd:
		return oneIf(isTrue(m.term(t.Kids[0])) && isTrue(m.term(t.Kids[1])))
	case api.TmOr:
		return oneIf(isTrue(m.term(t.Kids[0])) || isTrue(m.term(t.Kids[1])))
	case api.TmCond:
		if isTrue(m.term(t.Kids[0])) {
			return m.term(t.Kids[1])
		}
		return m.term(t.Kids[2])
	}
	var l []store.Value
	for _, kid := range t.Kids {
		l = append(l, m.term(kid))
	}
	switch t.Kind {
	case api.TmConst:
		return store.Value{Num: t.Num, Is: t.Ptr}
	case api.TmAddr:
		if t.Global {
			return store.Value{Ptr: m.globals[t.Var], Is: true}
		}
		return store.Value{Ptr: m.locals[t.Var], Is: true}
	case api.TmUnary:
		return function(t.Fn, l[0], store.Value{Is: l[0].Is})
	case api.TmBinary:
		return function(t.Fn, l[0], l[1])
	case api.TmCall:
		return m.call(t, l)
	case api.TmOut:
		m.Out = append(m.Out, l[0].Num)
	case api.TmIn:
		m.Ins++
		if m.Ins <= len(m.inputs) {
			return store.Value{Num: m.inputs[m.Ins-1]}
		}
	case api.TmCut:
		return store.Value{Num: l[0].Num % 256}
	default:
		return m.access(t, l)
	}
	return store.Value{}
}

// access is the value of a term that has to do with the memory.
func (m *model) access(t api.Term, l []store.Value) store.Value {
	at, cut := l[0].Ptr, func(v store.Value) store.Value { return v }
	if t.Size == 1 {
		cut = func(v store.Value) store.Value { return store.Value{Num: v.Num % 256} }
	}
	moved := func(p store.Ptr, n, size uint32) store.Value {
		by := int64(int32(n)) * int64(size)
		if t.Fn == api.FnSub {
			by = -by
		}
		return store.Value{Ptr: must(m.memory.Move(p, by)), Is: true}
	}
	switch t.Kind {
	case api.TmLoad:
		return must(m.memory.Load(at, t.Size, t.Ptr))
	case api.TmStore:
		stop(m.memory.Put(at, t.Size, l[1]))
		return cut(l[1])
	case api.TmField:
		return store.Value{Ptr: must(m.memory.Part(at, int(t.Num), t.Size)), Is: true}
	case api.TmIndex:
		return moved(at, l[1].Num, uint32(t.Size))
	}
	old := must(m.memory.Load(at, t.Size, t.Ptr))
	var v store.Value
	switch {
	case t.Kind == api.TmStep && t.Ptr:
		v = moved(old.Ptr, t.Num, 1)
	case t.Kind == api.TmStep:
		v.Num = old.Num + t.Num
	case t.Ptr:
		v = moved(old.Ptr, l[1].Num, t.Num)
	default:
		v.Num = must(check.Apply(t.Fn, old.Num, l[1].Num))
	}
	stop(m.memory.Put(at, t.Size, v))
	if t.Post {
		return old
	}
	return cut(v)
}

// function is a function of two values; of pointers it asks only whether they are null.
func function(fn int, a, b store.Value) store.Value {
	if !a.Is {
		return store.Value{Num: must(check.Apply(fn, a.Num, b.Num))}
	}
	bothNull := !isTrue(a) && !isTrue(b)
	return oneIf(bothNull != (fn == api.FnNe))
}
