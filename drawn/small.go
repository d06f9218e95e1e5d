package drawn

import (
	"rushlight/api"
	"rushlight/sketch"
)

// CallModule is module n of those that are like tame ones, but whose main calls much, and most of whose other procedures have few instructions
// and neither calls nor objects.
func CallModule(n int) api.Module {
	k := &tameMaker{Dice: Dice(n)}
	k.module = sketch.WithGlobals(api.Module{}, 1+k.Roll(4), 24, 1+k.Roll(8))
	count := 3 + k.Roll(3)
	for n := range count {
		p := api.Proc{Void: n > 0 && k.Roll(3) == 0}
		if n > 0 {
			p.Params = k.Roll(4)
		}
		k.module.Procs = append(k.module.Procs, p)
	}
	leaves := 1 + k.Roll(2)
	for n := range count {
		k.number, k.free = n, 3+k.Roll(5)
		if n < leaves {
			k.calling, k.most = true, 10
			k.module.Procs[n].Objects = sketch.Slots(1+k.Roll(8), 24)
			k.procedure(2 + k.Roll(5))
		} else {
			k.calling, k.most = false, 2+k.Roll(5)
			k.procedure(1 + k.Roll(4))
			makeLeaf(&k.module.Procs[n])
		}
	}
	return k.module
}

// makeLeaf makes a procedure do without calls and objects.
func makeLeaf(p *api.Proc) {
	for _, b := range p.Blocks {
		for k := range b.Ins {
			switch i := &b.Ins[k]; {
			case i.Op == api.IrFrame:
				i.Op = api.IrGlobal
			case i.Op == api.IrCall && i.D == api.None:
				*i = sketch.Mark()
			case i.Op == api.IrCall:
				i.Op, i.Obj, i.Args = api.IrIn, 0, nil
			}
		}
	}
}
