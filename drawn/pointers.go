package drawn

import (
	"rushlight/api"
	"rushlight/sketch"
)

// PointerModule is module n of those that are valid, and do much with addresses. Many of their registers are set once only, and some of their
// blocks are not reached.
func PointerModule(n int) api.Module {
	k := &pointerMaker{wildMaker{Dice: Dice(n)}}
	k.module = sketch.WithGlobals(api.Module{}, [][]int{nil, {4}, {8, 1}, {12, 8, 4}}[k.Roll(4)]...)
	for n := range 1 + k.Roll(3) {
		p := api.Proc{Void: n > 0 && k.Roll(2) == 0, Objects: sketch.Slots([][]int{nil, {8}, {4, 12}, {1, 4, 8, 4}}[k.Roll(4)]...)}
		if n > 0 {
			p.Params = k.Roll(4)
		}
		p.Regs = p.Params + 1 + k.Roll(20)
		k.module.Procs = append(k.module.Procs, p)
	}
	for n := range k.module.Procs {
		k.proc = &k.module.Procs[n]
		count, longest := 1+k.Roll(7), 1+k.Roll(9)
		for range count {
			k.proc.Blocks = append(k.proc.Blocks, k.block(count, longest))
		}
	}
	return k.module
}

// pointerMaker makes such a module.
type pointerMaker struct{ wildMaker }

// block is a block of a procedure of so many, with less than so many instructions.
func (k *pointerMaker) block(count, longest int) api.Block {
	var l []api.Ins
	for range k.Roll(longest) {
		i := k.instruction()
		i.Log = k.Roll(9) == 0 && (i.D != api.None || i.Op == api.IrStore)
		l = append(l, i)
	}
	to, other := k.next(count), k.next(count)
	switch k.Roll(5) {
	case 0, 1:
		return sketch.Jump(to, l...)
	case 2, 3:
		return sketch.Branch(k.register(), to, other, l...)
	}
	if k.proc.Void {
		return sketch.Ret(api.None, l...)
	}
	return sketch.Ret(k.register(), l...)
}

// next is a block to which the next one that is made leads; mostly one of those that stand behind it.
func (k *pointerMaker) next(count int) int {
	if k.Roll(4) == 0 {
		return k.Roll(count)
	}
	return min(count-1, len(k.proc.Blocks)+1+k.Roll(2))
}

// instruction is an instruction.
func (k *pointerMaker) instruction() api.Ins {
	d, a, b := k.register(), k.register(), k.register()
	switch kind := k.Roll(26); kind {
	case 0, 1, 2, 3:
		return k.object(d)
	case 4, 5, 6, 7:
		return k.global(d)
	case 8, 9:
		return sketch.Copy(d, a)
	case 10, 11, 12:
		return sketch.Bin([]int{api.FnAdd, api.FnAdd, api.FnSub, api.FnMul, api.FnGe}[k.Roll(5)], d, a, b)
	case 13:
		return sketch.Un(api.FnNeg+k.Roll(3), d, a)
	case 14, 15, 16:
		return sketch.Load(d, a, 4*k.Roll(4)-4, 4)
	case 17:
		return sketch.Load(d, a, k.Roll(9)-2, 4-3*k.Roll(2))
	case 18, 19, 20:
		return sketch.Store(a, b, 4*k.Roll(4)-4, 4)
	case 21:
		return sketch.Store(a, b, k.Roll(9)-2, 4-3*k.Roll(2))
	case 22:
		return sketch.Out(a)
	case 23:
		return []api.Ins{sketch.In(d), sketch.Const(d, 5)}[k.Roll(2)]
	case 24:
		return sketch.Mark()
	}
	return k.call(d)
}

// object is an address in an object, or in a global if there is no object.
func (k *pointerMaker) object(d int) api.Ins {
	if count := len(k.proc.Objects); count > 0 {
		return sketch.Frame(d, k.Roll(count), 4*k.Roll(3)-4*k.Roll(2))
	}
	return k.global(d)
}

// global is an address in a global, or a number if there is no global.
func (k *pointerMaker) global(d int) api.Ins {
	if count := len(k.module.Globals); count > 0 {
		return sketch.Global(d, k.Roll(count), 4*k.Roll(3)-4*k.Roll(2))
	}
	return sketch.Const(d, 3)
}
