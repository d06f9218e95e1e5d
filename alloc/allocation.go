package alloc

import (
	"cmp"
	"slices"

	"rushlight/api"
)

// allocation is what ranges are assigned, as far as they have been processed.
type allocation struct {
	regs  int           // how many of the machine's registers may be assigned
	held  [MaxRegs]span // by each of these, the range to which it was assigned last
	seats []api.Seat
	slots int
}

// process assigns a register of the machine or a slot to a range; a slot perhaps to another one, whose register it takes over.
func (k *allocation) process(s span) {
	held := k.held[:k.regs]
	if free := slices.IndexFunc(held, func(h span) bool { return !h.is || h.to < s.from }); free >= 0 {
		k.hold(free, s)
		return
	}
	last, at := s, api.None
	for n, h := range held {
		if endsBehind(h, last) {
			last, at = h, n
		}
	}
	if at != api.None {
		k.hold(at, s)
	}
	k.seats[last.register] = api.Seat{Slot: k.slots}
	k.slots++
}

// hold assigns a register of the machine to a range: the one with number n of those that may be assigned.
func (k *allocation) hold(n int, s span) {
	k.held[n] = s
	k.seats[s.register] = api.Seat{Reg: assignable[n]}
}

// endsBehind reports whether a range ends behind another one, or with it and is processed behind it: those that end together are processed
// in the order of their starts and registers.
func endsBehind(a, b span) bool {
	return cmp.Or(cmp.Compare(a.to, b.to), cmp.Compare(a.from, b.from), cmp.Compare(a.register, b.register)) > 0
}
