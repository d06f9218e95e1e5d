package drawn

import (
	"slices"

	"rushlight/api"
	"rushlight/sketch"
)

// TameModule is module n of those that are valid and terminate: their accesses stay within the memory, though not within objects,
// their loops end, and no procedure calls itself. It may take them more steps than a run has.
func TameModule(n int) api.Module {
	k := &tameMaker{Dice: Dice(n), most: 10}
	k.module = sketch.WithGlobals(api.Module{}, 1+k.Roll(4), 24, 1+k.Roll(8))
	for n := range 1 + k.Roll(4) {
		p := api.Proc{Void: n > 0 && k.Roll(3) == 0, Objects: sketch.Slots(1+k.Roll(8), 24)}
		if n > 0 {
			p.Params = k.Roll(4)
		}
		k.module.Procs = append(k.module.Procs, p)
	}
	for n := range k.module.Procs {
		k.number, k.free = n, 3+k.Roll(5)
		k.procedure(2 + k.Roll(5))
	}
	return k.module
}

// tameMaker makes such a module.
type tameMaker struct {
	Dice
	module    api.Module
	number    int       // of the procedure that is being made
	free      int       // how many of its registers instructions may set; behind them are those that count rounds
	most      int       // less instructions than that are drawn for a block
	calling   bool      // many of them are calls
	code      []api.Ins // of the block that is being made
	addresses []int     // the registers that hold addresses there
}

// procedure makes the blocks of a procedure, so many.
func (k *tameMaker) procedure(count int) {
	p := &k.module.Procs[k.number]
	p.Regs = k.free + 3
	counter, one := k.free, k.free+1
	for n := range count {
		k.code, k.addresses = nil, nil
		if n == 0 {
			k.code = []api.Ins{sketch.Const(counter, uint32(2+k.Roll(6))), sketch.Const(one, 1)}
		}
		for range k.Roll(k.most) {
			k.add()
		}
		p.Blocks = append(p.Blocks, k.end(n, count))
	}
}

// end is the block of this number, with its end. It leads on, or back if there are rounds left.
func (k *tameMaker) end(n, count int) api.Block {
	if n == count-1 || k.Roll(8) == 0 {
		return k.ret()
	}
	on := n + 1 + k.Roll(count-n-1)
	switch k.Roll(4) {
	case 0:
		return sketch.Jump(on, k.code...)
	case 1:
		if n > 0 {
			counter, one, left := k.free, k.free+1, k.free+2
			k.code = append(k.code, sketch.Bin(api.FnSub, counter, counter, one), sketch.Bin(api.FnLt, left, one, counter))
			return sketch.Branch(left, 1+k.Roll(n), on, k.code...)
		}
	}
	return sketch.Branch(k.Roll(k.free), on, n+1, k.code...)
}

// ret is a block that returns. Main puts out first what lies in the globals.
func (k *tameMaker) ret() api.Block {
	if r := k.Roll(k.free); k.number == k.module.Main {
		for g := range k.module.Globals {
			k.code = append(k.code, sketch.Global(r, g, 0), sketch.Load(r, r, 0, 4), sketch.Out(r))
		}
	}
	if k.module.Procs[k.number].Void {
		return sketch.Ret(api.None, k.code...)
	}
	return sketch.Ret(k.Roll(k.free), k.code...)
}

// add adds an instruction, which may be one that was there already, and may note what it overwrites.
func (k *tameMaker) add() {
	i := k.instruction()
	if n := len(k.code); n > 0 && k.Roll(4) == 0 {
		i = k.code[k.Roll(n)]
		i.Args = slices.Clone(i.Args)
	}
	access := i.Op == api.IrLoad || i.Op == api.IrStore
	if access && !slices.Contains(k.addresses, i.A) || i.D >= k.free {
		return
	}
	isAddress := i.Op == api.IrFrame || i.Op == api.IrGlobal || i.Op == api.IrCopy && slices.Contains(k.addresses, i.A)
	k.addresses = slices.DeleteFunc(k.addresses, func(r int) bool { return r == i.D })
	if isAddress {
		k.addresses = append(k.addresses, i.D)
	}
	i.Log = k.Roll(12) == 0 && (i.D != api.None || i.Op == api.IrStore)
	k.code = append(k.code, i)
}

// instruction is an instruction.
func (k *tameMaker) instruction() api.Ins {
	d, a, b := k.Roll(k.free), k.Roll(k.free), k.Roll(k.free)
	if k.calling && k.Roll(3) == 0 {
		return k.rare(d)
	}
	switch k.Roll(20) {
	case 0, 1:
		return sketch.Const(d, []uint32{0, 1, 3, 255, 1 << 31, 1<<32 - 1}[k.Roll(6)])
	case 2:
		return sketch.Copy(d, a)
	case 3, 4, 5:
		return sketch.Bin(1+k.Roll(16), d, a, b)
	case 6:
		return sketch.Un(api.FnNeg+k.Roll(3), d, a)
	case 7:
		return sketch.Frame(d, k.Roll(2), k.Roll(2)*4)
	case 8:
		return sketch.Global(d, k.Roll(3), k.Roll(3)*4)
	case 9, 10, 11:
		return sketch.Load(d, k.address(), 4*k.Roll(3)-4, 4)
	case 12:
		return sketch.Load(d, k.address(), k.Roll(10)-4, 1)
	case 13, 14:
		return sketch.Store(k.address(), b, 4*k.Roll(3)-4, 4)
	case 15:
		return sketch.Store(k.address(), b, k.Roll(10)-4, 1)
	case 16, 17, 18:
		return sketch.Out(a)
	}
	return k.rare(d)
}

// address is a register that holds an address; one is made if there is none.
func (k *tameMaker) address() int {
	if len(k.addresses) == 0 {
		k.addresses = []int{k.Roll(k.free)}
		k.code = append(k.code, sketch.Frame(k.addresses[0], 1, 0))
	}
	return k.addresses[k.Roll(len(k.addresses))]
}

// rare is an input, a mark, or a call of a procedure that stands behind.
func (k *tameMaker) rare(d int) api.Ins {
	n := k.number + 1 + k.Roll(3)
	switch {
	case k.Roll(6) == 0:
		return sketch.Mark()
	case n >= len(k.module.Procs):
		return sketch.In(d)
	}
	i := sketch.Call(d, n)
	if k.module.Procs[n].Void {
		i.D = api.None
	}
	for range k.module.Procs[n].Params {
		i.Args = append(i.Args, k.Roll(k.free))
	}
	return i
}
