package device_test

import (
	"math"
	"slices"
	"testing"

	"rushlight/api"
	"rushlight/device"
)

// clock is a machine that outputs 0, 1, 2 and so on, each after three more instructions, and begins anew from 0 after a failure.
func clock(t *testing.T) *device.Machine {
	t.Helper()
	return program(t, lui(2, api.Ports), sw(2, 5, api.PortOut), addi(5, 5, 1), jal(0, -8))
}

// counts is what a clock has output: where it is 0 again, the power failed.
func counts(m *device.Machine) []uint32 {
	var l []uint32
	for _, r := range m.Log() {
		l = append(l, r.Val)
	}
	return l
}

// Promise 3.2: Run goes on to n steps in all, and no further.
func TestRunSteps(t *testing.T) {
	m := clock(t)
	for _, x := range []struct{ n, want int }{{-1, 0}, {math.MinInt, 0}, {0, 0}, {1, 1}, {1, 1}, {0, 1}, {-5, 1}, {7, 7}, {3, 7}, {8, 8}, {100, 100}} {
		if s := m.Run(x.n, nil); s != api.Running || m.Steps() != x.want {
			t.Errorf("Run to %d: %d steps, not %d", x.n, m.Steps(), x.want)
		}
	}
}

// Promise 3.2: when the power fails. Without failures the log after 14 steps is 0, 1, 2, 3, 4: a record at steps 2, 5, 8, 11, 14.
func TestRunFails(t *testing.T) {
	for _, x := range []struct {
		name  string
		fails []int
		want  []uint32
		pc    uint32
	}{
		{"none", nil, []uint32{0, 1, 2, 3, 4}, 8},
		{"empty", []int{}, []uint32{0, 1, 2, 3, 4}, 8},
		{"at 0", []int{0}, []uint32{0, 1, 2, 3, 4}, 8},
		{"at 1", []int{1}, []uint32{0, 1, 2, 3}, 4},
		{"at 2", []int{2}, []uint32{0, 0, 1, 2, 3}, 12},
		{"two", []int{2, 6}, []uint32{0, 0, 0, 1, 2}, 8},
		{"each step", []int{0, 1, 2, 3, 4, 5, 6, 7, 8, 9, 10, 11, 12, 13}, nil, 4},
		{"not reached", []int{14}, []uint32{0, 1, 2, 3, 4}, 8},
		{"beyond", []int{15, math.MaxInt}, []uint32{0, 1, 2, 3, 4}, 8},
		{"twice the same", []int{2, 2, 6}, []uint32{0, 0, 0, 1, 2}, 8},
		{"three times the same", []int{2, 2, 2}, []uint32{0, 0, 1, 2, 3}, 12},
		{"negative ones ahead", []int{-3, math.MinInt, 2, 6}, []uint32{0, 0, 0, 1, 2}, 8},
		{"a lesser one behind is skipped", []int{6, 2}, []uint32{0, 1, 0, 1, 2}, 8},
		{"a lesser one between is skipped", []int{2, 1, 6}, []uint32{0, 0, 0, 1, 2}, 8},
		{"lesser ones after one that is beyond", []int{20, 2, 6}, []uint32{0, 1, 2, 3, 4}, 8},
	} {
		m := clock(t)
		s := m.Run(14, x.fails)
		if s != api.Running || m.Steps() != 14 || m.Pc() != x.pc || !slices.Equal(counts(m), x.want) {
			t.Errorf("%s: state %d, %d steps, pc %d, %v", x.name, s, m.Steps(), m.Pc(), counts(m))
		}
	}
}

// Promise 3.2: elements of fails that lie behind when Run begins are skipped, and the failure comes ahead of the instruction.
func TestRunLater(t *testing.T) {
	m := clock(t)
	m.Run(6, nil)
	m.Run(6, []int{6})
	if m.Pc() == 0 {
		t.Error("a failure without an instruction after it")
	}
	if m.Run(7, []int{0, 1, 5, 6}); m.Pc() != 4 || m.Reg(5) != 0 || m.Steps() != 7 {
		t.Errorf("failure at 6: %+v", standing(m))
	}
	n := clock(t)
	n.Run(6, nil)
	if n.Run(7, []int{0, 1, 5}); n.Reg(5) != 2 || n.Steps() != 7 {
		t.Errorf("failures behind: %+v", standing(n))
	}
}

// Promise 3.2: the state is told when the program ends on the way; failures after that have no effect.
func TestRunEnds(t *testing.T) {
	halts := []api.Inst{lui(2, api.Ports), addi(5, 0, 9), sw(2, 5, api.PortHalt)}
	m := program(t, halts...)
	if s := m.Run(2, []int{2}); s != api.Running {
		t.Errorf("before the end: %d", s)
	}
	if s := m.Run(100, []int{2, 4, 6, 9, 10}); s != api.Halted || m.Steps() != 9 || m.Exit() != 9 || m.Pc() != 12 || m.Reg(5) != 9 {
		t.Errorf("halted: %d, %+v", s, standing(m))
	}
	f := program(t, addi(5, 0, 9))
	if s := f.Run(100, []int{1, 2, 3}); s != api.Faulted || f.Steps() != 3+1 || f.Pc() != 4 {
		t.Errorf("faulted: %d, %+v", s, standing(f))
	}
}

// Promise 3.4: running to k and then to n is running to n, for lists of failures in order and in none.
func TestRunInParts(t *testing.T) {
	for _, fails := range [][]int{nil, {0}, {2}, {5, 9}, {5, 5, 9}, {5, 5, 5, 6, 6, 11}, {1, 2, 3, 4, 5, 6, 7}, {9, 5}, {9, 5, 12}, {7, 3, 3, 9, 1, 15}, {-1, 4, -1, 8, 30, 10}} {
		whole := clock(t)
		whole.Run(20, fails)
		for k := range 22 {
			m := clock(t)
			m.Run(k, fails)
			if m.Run(20, fails); k <= 20 && !same(m, whole) {
				t.Errorf("failures %v, parted at %d: %v, not %v", fails, k, counts(m), counts(whole))
			}
			for j := range k {
				m := clock(t)
				m.Run(j, fails)
				m.Run(k, fails)
				if m.Run(20, fails); k <= 20 && !same(m, whole) {
					t.Errorf("failures %v, parted at %d and %d: %v, not %v", fails, j, k, counts(m), counts(whole))
				}
			}
		}
	}
}

// Promises 3.1 and 3.2: Run without failures is Step again and again; with one it is Fail ahead of the step.
func TestRunIsSteps(t *testing.T) {
	for n := range 20 {
		a, b := clock(t), clock(t)
		a.Run(n, []int{4, 11})
		for k := range n {
			if k == 4 || k == 11 {
				b.Fail()
			}
			b.Step()
		}
		if !same(a, b) {
			t.Errorf("%d steps: %+v, not %+v", n, standing(a), standing(b))
		}
	}
}
