package bound_test

import (
	"encoding/binary"
	"testing"

	"rushlight/api"
	"rushlight/bound"
	"rushlight/compile"
	"rushlight/device"
	"rushlight/drawn"
	"rushlight/image"
	"rushlight/rts"
)

// compiled is the image of a drawn program with drawn options, and its bound; or false if it is too large.
func compiled(t *testing.T, n int) (api.Image, int, bool) {
	t.Helper()
	d := drawn.Dice(n)
	s := drawn.Tame(n)
	if n%3 == 0 {
		s = drawn.Wild(n)
	}
	o := api.Options{Data: 4096 + 4*d.Roll(15000), Regs: d.Roll(13), Notes: 2 + d.Roll(63), Plain: d.Roll(2) == 0}
	g, _, e := compile.Compile(s, o)
	if e != api.OK {
		return g, 0, false
	}
	b, e := bound.Bound(g)
	if e != api.OK {
		t.Fatalf("program %d with %v: %v", n, o, e)
	}
	return g, b, true
}

// loaded is a machine with an image.
func loaded(t *testing.T, g api.Image) *device.Machine {
	t.Helper()
	m, e := image.Load(g, []uint32{3, 0, 7})
	if e != api.OK {
		t.Fatalf("Load: %v", e)
	}
	return m
}

// epoch is the epoch of a machine.
func epoch(m *device.Machine) uint32 {
	return binary.LittleEndian.Uint32(m.Data()[rts.Selector-api.Base:])
}

// Promise 30.2: there is a bound for each compiled image, and within it after a failure the epoch is incremented, or the machine halts.
func TestWithin(t *testing.T) {
	failures := 0
	for n := range 150 {
		g, b, is := compiled(t, n)
		if !is {
			continue
		}
		d := drawn.Dice(n)
		m := loaded(t, g)
		for range 80 {
			m.Fail()
			was, from := epoch(m), m.Steps()
			m.Run(from+b, nil)
			if m.State() == api.Running && epoch(m) == was {
				t.Fatalf("program %d: nothing is done in %d instructions from %d on", n, b, from)
			}
			if m.State() != api.Running {
				break
			}
			failures++
			m.Run(m.Steps()+d.Roll(b), nil)
		}
	}
	if failures < 1500 {
		t.Errorf("%d failures", failures)
	}
}

// Promise 30.2, and P3 of the whole: with failures that are so far apart a program halts after at most so many instructions more.
func TestHalts(t *testing.T) {
	halts, most := 0, 0
	for n := range 200 {
		g, b, is := compiled(t, n)
		if !is {
			continue
		}
		m := loaded(t, g)
		if m.Run(200000, nil) != api.Halted {
			continue
		}
		steps, exit := m.Steps(), m.Exit()
		d := drawn.Dice(n)
		for _, more := range []int{1, 100, 1000} {
			var fails []int
			at := d.Roll(1000)
			for len(fails) < 2000 {
				fails = append(fails, at)
				at += b + d.Roll(more)
			}
			m := loaded(t, g)
			if m.Run(2000000, fails) != api.Halted || m.Exit() != exit {
				t.Fatalf("program %d: state %d, exit %d", n, m.State(), m.Exit())
			}
			f := 0
			for f < len(fails) && fails[f] < m.Steps() {
				f++
			}
			if m.Steps() > steps+f*b {
				t.Fatalf("program %d: %d instructions instead of %d, with %d failures and the bound %d", n, m.Steps(), steps, f, b)
			}
			halts++
			most = max(most, f)
		}
	}
	if halts < 150 || most < 20 {
		t.Errorf("%d halts, at most %d failures", halts, most)
	}
}

// Promise 30.2: failures that are not as far apart may hinder all progress.
func TestTooNear(t *testing.T) {
	g, _, _ := compile.Compile("int a[9]; int main() { int i; for (i = 0; i < 9; i++) a[i] += i; return a[8]; }", api.Options{Data: 4096, Regs: 12, Notes: 16})
	m := loaded(t, g)
	var fails []int
	for at := 20; at < 100000; at += 20 {
		fails = append(fails, at)
	}
	if m.Run(100000, fails) != api.Running || epoch(m) > 1 {
		t.Errorf("state %d, epoch %d", m.State(), epoch(m))
	}
}
