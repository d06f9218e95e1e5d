package play_test

import (
	"math"
	"reflect"
	"slices"
	"testing"

	"rushlight/api"
	"rushlight/asm"
	"rushlight/bound"
	"rushlight/compile"
	"rushlight/device"
	"rushlight/drawn"
	"rushlight/play"
	"rushlight/record"
)

// usual is options.
func usual() api.Options { return api.Options{Data: 4096, Regs: 12, Notes: 16} }

// counting outputs 0, 1, 2 and so on, and never ends.
const counting = "int n; int main() { for (;;) out(n++); }"

// compiled is the image of a text that Compile must accept.
func compiled(t *testing.T, s string) api.Image {
	t.Helper()
	g, at, e := compile.Compile(s, usual())
	if e != api.OK {
		t.Fatalf("%s: %v at %v", s, e, at)
	}
	return g
}

// assembled is an image with this code.
func assembled(t *testing.T, l ...api.Item) api.Image {
	t.Helper()
	words, _, e := asm.Assemble(l)
	if e != api.OK {
		t.Fatalf("Assemble: %v", e)
	}
	return api.Image{Code: words, Data: make([]byte, 4096)}
}

// The examples of the chapter.
func TestExamples(t *testing.T) {
	p, at, e := play.Text("int main() { out(1); out(2); return 3; }", usual(), nil, 900, 10000)
	o := play.Told(p)
	if e != api.OK || at != (api.Pos{}) || o.E != api.OK || o.Exit != 3 || !slices.Equal(o.Out, []uint32{1, 2}) {
		t.Errorf("%v at %v: %v", e, at, o)
	}
	p, _, e = play.Text("int n; int main() { int i; for (i = 0; i < 3; i++) { n += in(); out(n); } return n; }", usual(), []uint32{1, 2, 3}, 900, 50000)
	o = play.Told(p)
	if e != api.OK || o.E != api.OK || o.Exit != 6 || !slices.Equal(o.Out, []uint32{1, 3, 6}) || p.State != api.Halted || p.Steps > 50000 {
		t.Errorf("%v: %v, %v", e, o, p)
	}
}

// model is the play of an image as the chapters word it, step by step.
func model(t *testing.T, g api.Image, inputs []uint32, fails []int, n int) api.Play {
	t.Helper()
	m, e := device.New(g.Code, g.Data, inputs)
	if e != api.OK {
		t.Fatalf("New: %v", e)
	}
	count := 0
	for m.State() == api.Running && m.Steps() < n {
		for len(fails) > 0 && fails[0] < m.Steps() {
			fails = fails[1:]
		}
		if len(fails) > 0 && fails[0] == m.Steps() {
			m.Fail()
			count++
			fails = fails[1:]
		}
		m.Step()
	}
	return api.Play{State: m.State(), Exit: m.Exit(), Steps: m.Steps(), Log: m.Log(), Fails: count}
}

// same reports whether two plays are the same.
func same(a, b api.Play) bool {
	return a.State == b.State && a.Exit == b.Exit && a.Steps == b.Steps && a.Fails == b.Fails && slices.Equal(a.Log, b.Log)
}

// images are images that go on and on, that end, and that fault.
func images(t *testing.T) []api.Image {
	return []api.Image{
		compiled(t, counting),
		compiled(t, "int n; int main() { int i; for (i = 0; i < 3; i++) { n += in(); out(n); } return n; }"),
		compiled(t, "int main() { return 7; }"),
		assembled(t, asm.Inst(api.OpLw, 1, 0, 0, 0)), // faults at once
		assembled(t, asm.Inst(api.OpAddi, 1, 1, 0, 1), asm.Inst(api.OpAddi, 1, 1, 0, 1), asm.Inst(api.OpAddi, 1, 1, 0, 1)), // faults behind three
	}
}

// Promise 31.1: Run is device.Run, with the failures that there were; the list may be in any order, and have any numbers.
func TestRun(t *testing.T) {
	l := images(t)
	fails := 0
	for n := range 4000 {
		d := drawn.Dice(n)
		g := l[d.Roll(len(l))]
		var list []int
		at := d.Roll(40) - 5
		for range d.Roll(12) {
			at += d.Roll(300) - d.Roll(60) + d.Roll(2)*d.Roll(600)
			if d.Roll(6) == 0 {
				at = d.Roll(5)
			}
			list = append(list, at)
		}
		kept := slices.Clone(list)
		steps := d.Roll(3000)
		got, e := play.Run(g, []uint32{1, 2, 3}, list, steps)
		want := model(t, g, []uint32{1, 2, 3}, slices.DeleteFunc(slices.Clone(list), func(at int) bool { return at < 0 }), steps)
		if e != api.OK || !same(got, want) || !slices.Equal(list, kept) {
			t.Fatalf("%d steps, failures %v: %v, %v, not %v", steps, kept, e, got, want)
		}
		m, _ := device.New(g.Code, g.Data, []uint32{1, 2, 3})
		if m.Run(steps, list); m.State() != got.State || m.Steps() != got.Steps || m.Exit() != got.Exit || !slices.Equal(m.Log(), got.Log) {
			t.Fatalf("%d steps, failures %v: %v", steps, list, got)
		}
		fails += got.Fails
	}
	if fails < 3000 {
		t.Errorf("%d failures", fails)
	}
}

// Promise 31.1: which elements of a list are failures.
func TestFails(t *testing.T) {
	g := compiled(t, counting)
	for _, x := range []struct {
		fails []int
		n     int
		want  int
	}{
		{nil, 100, 0}, {[]int{}, 100, 0}, {[]int{0}, 100, 1}, {[]int{0}, 1, 1}, {[]int{0}, 0, 0}, {[]int{0}, -1, 0}, {[]int{99}, 100, 1}, {[]int{100}, 100, 0}, {[]int{101}, 100, 0},
		{[]int{-1, -100, math.MinInt}, 100, 0}, {[]int{-1, 5, -2, 7, -3}, 100, 2}, {[]int{5, 5, 5}, 100, 1}, {[]int{5, 3, 4, 6}, 100, 2}, {[]int{5, 3, 3, 3, 5, 6}, 100, 2},
		{[]int{200, 5, 6}, 100, 0}, {[]int{5, 200, 6, 7}, 100, 1}, {[]int{math.MaxInt, 5}, 100, 0}, {[]int{10, 11, 12, 13}, 100, 4}, {[]int{0, 1, 2, 0, 1, 2}, 100, 3},
	} {
		p, e := play.Run(g, nil, x.fails, x.n)
		if e != api.OK || p.Fails != x.want || p.Steps != max(0, x.n) {
			t.Errorf("%v: %v, %v", x, e, p)
		}
	}
	// What has halted or faulted has no failures any more, but one ahead of an instruction that faults there was.
	l := images(t)
	if p, e := play.Run(l[2], nil, []int{100000}, 200000); e != api.OK || p.State != api.Halted || p.Fails != 0 || p.Exit != 7 {
		t.Errorf("halted: %v, %v", e, p)
	}
	if p, e := play.Run(l[3], nil, []int{0, 1, 2}, 100); e != api.OK || p.State != api.Faulted || p.Fails != 1 || p.Steps != 0 {
		t.Errorf("faults at once: %v, %v", e, p)
	}
	if p, e := play.Run(l[4], nil, []int{2, 4, 9, 30}, 100); e != api.OK || p.State != api.Faulted || p.Fails != 2 || p.Steps != 7 {
		t.Errorf("faults behind three: %v, %v", e, p)
	}
}

// Promise 31.1: the number of instructions is clamped.
func TestSteps(t *testing.T) {
	endless := assembled(t, asm.Label(0), asm.Jump(0, 0))
	const most = play.MaxSteps
	for _, x := range []struct{ n, steps, fails, often int }{
		{math.MinInt, 0, 0, 0}, {-1, 0, 0, 0}, {0, 0, 0, 0}, {1, 1, 0, 0}, {999, 999, 1, 1},
		{most, most, 2, 2}, {most + 1, most, 2, 2}, {math.MaxInt, most, 2, 2},
	} {
		p, e := play.Run(endless, nil, []int{3, most - 1, most, most + 5}, x.n)
		if e != api.OK || p.Steps != x.steps || p.State != api.Running || p.Fails != x.fails {
			t.Errorf("%d: %v, %v", x.n, e, p)
		}
		p, e = play.Often(endless, nil, 3, most-4, x.n)
		if e != api.OK || p.Steps != x.steps || p.State != api.Running || p.Fails != x.often {
			t.Errorf("%d: Often: %v, %v", x.n, e, p)
		}
	}
}

// Promise 31.1: Often is Run with failures from the first one on, and its errors.
func TestOften(t *testing.T) {
	l := images(t)
	for n := range 1500 {
		d := drawn.Dice(n)
		g := l[d.Roll(len(l))]
		first, gap, steps := d.Roll(700), 1+d.Roll(700), d.Roll(4000)
		if d.Roll(5) == 0 {
			gap = 1 + d.Roll(3)
		}
		var fails []int
		for at := first; at < 5000; at += gap {
			fails = append(fails, at)
		}
		got, e := play.Often(g, []uint32{1, 2, 3}, first, gap, steps)
		if want := model(t, g, []uint32{1, 2, 3}, fails, steps); e != api.OK || !same(got, want) {
			t.Fatalf("from %d on every %d, %d steps: %v, %v, not %v", first, gap, steps, e, got, want)
		}
	}
	g := l[0]
	for _, x := range [][2]int{{-1, 5}, {5, 0}, {5, -1}, {-1, 0}, {math.MinInt, 1}, {0, math.MinInt}} {
		for _, g := range []api.Image{g, {}} {
			if p, e := play.Often(g, nil, x[0], x[1], 1000); e != api.ErrArg || !reflect.DeepEqual(p, api.Play{}) {
				t.Errorf("%v: %v, %v", x, e, p)
			}
		}
	}
	for _, x := range [][3]int{{0, math.MaxInt, 1}, {math.MaxInt, 1, 0}, {math.MaxInt, math.MaxInt, 0}, {500, math.MaxInt, 1}, {999, math.MaxInt - 998, 1}, {1000, 1, 0}, {0, 1, 1000}, {1, 1, 999}, {math.MaxInt - 1, 2, 0}} {
		if p, e := play.Often(g, nil, x[0], x[1], 1000); e != api.OK || p.Fails != x[2] || p.Steps != 1000 {
			t.Errorf("%v: %v, %d failures", x, e, p.Fails)
		}
	}
}

// Promise 31.1: device.New's error.
func TestImageErrors(t *testing.T) {
	for name, g := range map[string]api.Image{
		"nothing": {}, "no code": {Data: make([]byte, 4096)}, "no data": {Code: []uint32{19}}, "odd data": {Code: []uint32{19}, Data: make([]byte, 5)},
		"much code": {Code: make([]uint32, device.MaxCode+1), Data: make([]byte, 4)}, "much data": {Code: []uint32{19}, Data: make([]byte, device.MaxData+4)},
	} {
		if p, e := play.Run(g, nil, []int{5}, 100); e != api.ErrArg || !reflect.DeepEqual(p, api.Play{}) {
			t.Errorf("%s: %v, %v", name, e, p)
		}
		if p, e := play.Often(g, nil, 5, 5, 100); e != api.ErrArg || !reflect.DeepEqual(p, api.Play{}) {
			t.Errorf("%s: Often: %v, %v", name, e, p)
		}
	}
}

// Promise 31.2: Text is Often of the image, or Run without failures.
func TestText(t *testing.T) {
	inputs := []uint32{4, 5, 6}
	for n := range 25 {
		s := drawn.Wild(n)
		d := drawn.Dice(n)
		o := api.Options{Data: 4096 + 4*d.Roll(15000), Regs: d.Roll(13), Notes: 2 + d.Roll(63), Plain: d.Roll(2) == 0}
		g, at, e := compile.Compile(s, o)
		for _, gap := range []int{math.MinInt, -1, 0, 1, 200, 1000, math.MaxInt} {
			p, pAt, pE := play.Text(s, o, inputs, gap, 20000)
			if e != pE || at != pAt {
				t.Fatalf("%d: %v at %v", n, pE, pAt)
			}
			if e != api.OK {
				continue
			}
			want, _ := play.Run(g, inputs, nil, 20000)
			if gap > 0 {
				want, _ = play.Often(g, inputs, gap, gap, 20000)
			}
			if !same(p, want) {
				t.Fatalf("%d with a gap of %d: %v, not %v", n, gap, p, want)
			}
		}
	}
}

// Promise 31.2: compile.Compile's errors, at their positions.
func TestTextErrors(t *testing.T) {
	for s, o := range map[string]api.Options{
		"int main() { return 0; }":              {Data: 4096, Regs: 13, Notes: 16},
		"":                                      {},
		"int main() { return 0 }":               usual(),
		"int main() {\n return x; }":            usual(),
		"int a[1000]; int main() { return 0; }": usual(),
		"int main() { int a[600]; a[0]=1; return a[0]; }": usual(),
	} {
		_, at, e := compile.Compile(s, o)
		for _, gap := range []int{-1, 0, 900} {
			if p, pAt, pE := play.Text(s, o, nil, gap, 1000); e == api.OK || pE != e || pAt != at || !reflect.DeepEqual(p, api.Play{}) {
				t.Errorf("%s: %v at %v, not %v at %v", s, pE, pAt, e, at)
			}
		}
	}
}

// Rule R3: what a play is given stays as it is, and its log is its own.
func TestNothingIsShared(t *testing.T) {
	g, inputs, fails := compiled(t, counting), []uint32{1, 2}, []int{500, 100, 900}
	code, data := slices.Clone(g.Code), slices.Clone(g.Data)
	p, _ := play.Run(g, inputs, fails, 5000)
	kept := slices.Clone(p.Log)
	q, _ := play.Run(g, inputs, fails, 5000)
	clear(q.Log)
	if !slices.Equal(g.Code, code) || !slices.Equal(g.Data, data) || !slices.Equal(inputs, []uint32{1, 2}) || !slices.Equal(fails, []int{500, 100, 900}) || !slices.Equal(p.Log, kept) || len(kept) == 0 {
		t.Errorf("changed or shared")
	}
	values := play.Told(p).Out
	clear(values)
	if !slices.Equal(p.Log, kept) {
		t.Errorf("Told shares the log")
	}
}

// P1 to P3 of the whole: a play with failures as far apart as the bound ends, with the same outputs, after at most so many instructions more.
func TestProgress(t *testing.T) {
	g := compiled(t, "int a[5]; int f(int n) { a[n % 5] += n; return n ? f(n - 1) + a[n % 5] : in(); } int main() { int i; for (i = 0; i < 5; i++) { out(f(i)); a[i]++; } return a[3]; }")
	without, _ := play.Run(g, []uint32{3, 1, 4, 1, 5}, nil, 100000)
	gap, _ := bound.Bound(g)
	for first := range 300 {
		p, e := play.Often(g, []uint32{3, 1, 4, 1, 5}, first, gap, 100000)
		if e != api.OK || p.State != api.Halted || p.Exit != without.Exit || p.Steps > without.Steps+p.Fails*gap || p.Fails < 3 || !record.Whole(p.Log, record.Values(without.Log)) {
			t.Fatalf("%d: %v, not %v", first, p, without)
		}
	}
}
