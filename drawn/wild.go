package drawn

import (
	"slices"

	"rushlight/api"
	"rushlight/sketch"
)

// WildModule is module n of those that are valid, and may do anything.
func WildModule(n int) api.Module {
	k := &wildMaker{Dice: Dice(n)}
	k.module = sketch.WithGlobals(api.Module{}, 1+k.Roll(9), 4, 1+k.Roll(3))
	for n := range 1 + k.Roll(4) {
		p := api.Proc{Regs: 3 + k.Roll(6), Void: n > 0 && k.Roll(3) == 0, Objects: sketch.Slots(1+k.Roll(6), 1+k.Roll(40))}
		if n > 0 {
			p.Params = k.Roll(4)
		}
		k.module.Procs = append(k.module.Procs, p)
	}
	for n := range k.module.Procs {
		k.proc = &k.module.Procs[n]
		count := 1 + k.Roll(5)
		for range count {
			k.proc.Blocks = append(k.proc.Blocks, k.block(count))
		}
	}
	return k.module
}

// wildMaker makes such a module. Its procedures call each other.
type wildMaker struct {
	Dice
	module api.Module
	proc   *api.Proc // the one that is being made
}

// register is a register of the procedure.
func (k *wildMaker) register() int { return k.Roll(k.proc.Regs) }

// block is a block of a procedure of so many. Some of its instructions it has more than once.
func (k *wildMaker) block(count int) api.Block {
	var l []api.Ins
	for range k.Roll(9) {
		if len(l) > 0 && k.Roll(5) == 0 {
			again := l[k.Roll(len(l))]
			again.Args = slices.Clone(again.Args)
			l = append(l, again)
		}
		l = append(l, k.instructions()...)
	}
	to, other := k.Roll(count), k.Roll(count)
	switch k.Roll(4) {
	case 0:
		return sketch.Jump(to, l...)
	case 1, 2:
		return sketch.Branch(k.register(), to, other, l...)
	}
	if k.proc.Void {
		return sketch.Ret(api.None, l...)
	}
	return sketch.Ret(k.register(), l...)
}

// instructions is an instruction, perhaps behind one that makes what it needs. Some note what they overwrite.
func (k *wildMaker) instructions() []api.Ins {
	l := k.plain()
	if i := &l[len(l)-1]; k.Roll(12) == 0 && (i.D != api.None || i.Op == api.IrStore) {
		i.Log = true
	}
	return l
}

// plain is an instruction that notes nothing, perhaps behind one that makes what it needs.
func (k *wildMaker) plain() []api.Ins {
	d, a, b, fn := k.register(), k.register(), k.register(), 1+k.Roll(16)
	switch k.Roll(15) {
	case 0:
		return []api.Ins{sketch.Const(d, []uint32{0, 1, 3, 255, 1 << 31, 1<<32 - 1}[k.Roll(6)])}
	case 1:
		return []api.Ins{sketch.Copy(d, a)}
	case 2, 3:
		return []api.Ins{sketch.Bin(fn, d, a, b)}
	case 4:
		return []api.Ins{sketch.Un(api.FnNeg+k.Roll(3), d, a)}
	case 5, 6:
		return []api.Ins{k.place(a), sketch.Load(d, a, 4*k.Roll(3)+k.Roll(8)/7, 4)}
	case 7:
		return []api.Ins{k.place(a), sketch.Load(d, a, k.Roll(9), 1)}
	case 8, 9:
		return []api.Ins{k.place(a), sketch.Store(a, b, 4*k.Roll(4)-4+k.Roll(8)/7, 4)}
	case 10:
		return []api.Ins{k.place(a), sketch.Store(a, b, k.Roll(9)-4, 1)}
	case 11, 12:
		return []api.Ins{sketch.Out(a)}
	case 13:
		return []api.Ins{[]api.Ins{sketch.In(d), sketch.Mark()}[k.Roll(3)/2]}
	}
	return []api.Ins{k.call(d)}
}

// place is an IrFrame or IrGlobal, or a constant that lies in the memory or at its ends.
func (k *wildMaker) place(d int) api.Ins {
	switch k.Roll(9) {
	case 0:
		return sketch.Const(d, api.Base+uint32(65536*k.Roll(2)+4*k.Roll(4)-8*k.Roll(2)))
	case 1, 2, 3:
		return sketch.Frame(d, k.Roll(2), k.Roll(3)*4)
	}
	return sketch.Global(d, k.Roll(3), k.Roll(3)*4)
}

// call is a call of a procedure.
func (k *wildMaker) call(d int) api.Ins {
	n := k.Roll(len(k.module.Procs))
	i := sketch.Call(d, n)
	if k.module.Procs[n].Void {
		i.D = api.None
	}
	for range k.module.Procs[n].Params {
		i.Args = append(i.Args, k.register())
	}
	return i
}
