package wear

import (
	"iter"

	"rushlight/api"
	"rushlight/device"
	"rushlight/inst"
)

// run is a run of a machine, which is advanced as device.Run does it.
type run struct {
	*device.Machine
	code   []api.Inst
	size   int   // of the data
	fails  []int // those that are still to come
	failed int
}

// newRun is a run of a machine with an image.
func newRun(m *device.Machine, g api.Image, fails []int) *run {
	r := &run{Machine: m, size: len(g.Data), fails: fails}
	for _, w := range g.Code {
		i, _ := inst.Decode(w)
		r.code = append(r.code, i)
	}
	return r
}

// writes advances the machine to n instructions in all, and yields the offset of each write.
func (r *run) writes(n int) iter.Seq[int] {
	return func(yield func(at int) bool) {
		for r.State() == api.Running && r.Steps() < n {
			r.fail()
			at, is := r.target()
			if r.Step() != api.Faulted && is && !yield(at) {
				return
			}
		}
	}
}

// fail is a power failure, if one comes ahead of the next instruction.
func (r *run) fail() {
	for len(r.fails) > 0 && r.fails[0] < r.Steps() {
		r.fails = r.fails[1:]
	}
	if len(r.fails) > 0 && r.fails[0] == r.Steps() {
		r.fails = r.fails[1:]
		r.failed++
		r.Fail()
	}
}

// target is the offset at which the next instruction writes, if it is a store to the data.
func (r *run) target() (int, bool) {
	k := int(r.Pc() / wordSize)
	if k >= len(r.code) {
		return 0, false
	}
	switch i := r.code[k]; i.Op {
	case api.OpSb, api.OpSh, api.OpSw:
		at := int(r.Reg(i.Rs1)+uint32(i.Imm)) - api.Base
		return at, at >= 0 && at < r.size
	}
	return 0, false
}
