package dead

import (
	"slices"

	"rushlight/api"
	"rushlight/ir"
)

// target is where a store stores. Between stores with equal targets, neither the register has been set nor may what was stored have been read.
type target struct {
	register  int
	set       int // how often the register was set ahead in the block
	off, size int
}

// overwritten is which stores of a block are followed by another one that makes them dead, ascending.
func overwritten(l []api.Ins) []int {
	var dead []int
	sets := map[int]int{}      // how often each register was set
	latest := map[target]int{} // stores that no instruction has read
	for k, i := range l {
		switch i.Op {
		case api.IrStore:
			t := target{i.A, sets[i.A], i.Off, i.Size}
			if earlier, is := latest[t]; is && !l[earlier].Log {
				dead = append(dead, earlier)
			}
			latest[t] = k
		case api.IrLoad, api.IrCall, api.IrMark:
			latest = map[target]int{}
		}
		if d := ir.Def(i); d != api.None {
			sets[d]++
		}
	}
	slices.Sort(dead)
	return dead
}
