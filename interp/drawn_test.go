package interp_test

import (
	"slices"
	"testing"

	"rushlight/api"
	"rushlight/drawn"
	"rushlight/interp"
)

// extended reports whether one run may be another one with more fuel.
func extended(less, more api.Outcome) bool {
	if less.E != api.ErrFuel {
		return equal(less, more)
	}
	return less.Ins <= more.Ins && len(less.Out) <= len(more.Out) && slices.Equal(less.Out, more.Out[:len(less.Out)])
}

// Promises 12.1 and 12.2: drawn programs with drawn fuel, held against the model; and what follows.
func TestDrawnPrograms(t *testing.T) {
	seen, outs, ins := map[api.Errno]int{}, 0, 0
	for n := range 2500 {
		dice, s := drawn.Dice(n), drawn.Wild(n)
		u, inputs := unit(t, s), list(1, 300, 0, 2, -1)
		full := interp.Run(u, inputs, 5000)
		seen[full.E]++
		outs += len(full.Out)
		ins += full.Ins
		for _, fuel := range []int{5000, dice.Roll(30), dice.Roll(300), dice.Roll(3000)} {
			got := interp.Run(u, inputs, fuel)
			if want := modelRun(u, inputs, fuel); !equal(got, want) {
				t.Fatalf("%s with %d steps: %v, not %v", s, fuel, got, want)
			}
			if !extended(got, full) {
				t.Fatalf("%s with %d steps: %v, but with more %v", s, fuel, got, full)
			}
		}
		read := inputs[:min(full.Ins, len(inputs))]
		rest := list(slices.Repeat([]int{7}, 9)...)
		if got := interp.Run(u, slices.Concat(read, make([]uint32, full.Ins-len(read)), rest), 5000); !equal(got, full) {
			t.Fatalf("%s with other inputs behind those that are read: %v, not %v", s, got, full)
		}
	}
	for _, e := range []api.Errno{api.OK, api.ErrFuel, api.ErrUnset, api.ErrNil, api.ErrBound, api.ErrDead, api.ErrZero} {
		if seen[e] < 10 {
			t.Errorf("%v: %d times", e, seen[e])
		}
	}
	if outs < 4000 || ins < 4000 {
		t.Errorf("%d outputs, %d inputs", outs, ins)
	}
}
