package wear_test

import (
	"encoding/binary"
	"math"
	"reflect"
	"slices"
	"testing"

	"rushlight/api"
	"rushlight/asm"
	"rushlight/compile"
	"rushlight/device"
	"rushlight/drawn"
	"rushlight/inst"
	"rushlight/wear"
)

// usual is options.
func usual() api.Options { return api.Options{Data: 4096, Regs: 12, Notes: 16} }

// compiled is the image of a text that Compile must accept.
func compiled(t *testing.T, s string, o api.Options) api.Image {
	t.Helper()
	g, at, e := compile.Compile(s, o)
	if e != api.OK {
		t.Fatalf("%s: %v at %v", s, e, at)
	}
	return g
}

// assembled is an image with this code, whose globals have 8 bytes.
func assembled(t *testing.T, l ...api.Item) api.Image {
	t.Helper()
	words, _, e := asm.Assemble(l)
	if e != api.OK {
		t.Fatalf("Assemble: %v", e)
	}
	return api.Image{Code: words, Data: make([]byte, 4096), Limit: api.Base + 1160}
}

// counted is the tally of a run that Count must accept.
func counted(t *testing.T, g api.Image, inputs []uint32, fails []int, n int) wear.Tally {
	t.Helper()
	x, e := wear.Count(g, inputs, fails, n)
	if e != api.OK {
		t.Fatalf("Count: %v", e)
	}
	return x
}

// sum is the sum of numbers.
func sum(l []int) int {
	n := 0
	for _, k := range l {
		n += k
	}
	return n
}

// written is how many of some words were written.
func written(words []int) int {
	n := 0
	for _, k := range words {
		if k > 0 {
			n++
		}
	}
	return n
}

// The example of the chapter: one value is output, and nothing else.
func TestExample(t *testing.T) {
	x := counted(t, compiled(t, "int main() { out(5); return 0; }", usual()), nil, nil, 10000)
	if written(x.Words[1:3]) != 1 || x.Part[1] != 1 || written(x.Words[96:288]) != 3 || x.Part[3] != 3 || x.Part[4] != 0 || x.Part[6] != 0 {
		t.Errorf("%v", x)
	}
}

// Promise 34.1: the part of each offset, with limits where the globals may end.
func TestPart(t *testing.T) {
	for _, size := range []int{4096, 8192, 65536} {
		for _, limit := range []int{1152, 1156, 2000, size - 1024, size} {
			g := api.Image{Data: make([]byte, size), Limit: api.Base + limit}
			for at := -5; at < size+5; at++ {
				want := 6
				switch {
				case at >= 0 && at <= 3:
					want = 0
				case at >= 4 && at <= 11:
					want = 1
				case at >= 128 && at <= 383:
					want = 2
				case at >= 384 && at <= 1151:
					want = 3
				case at >= 1152 && at < limit:
					want = 4
				case at >= limit && at < size:
					want = 5
				}
				if got := wear.Part(g, at); got != want {
					t.Fatalf("%d of %d bytes, limit %d: %d, not %d", at, size, limit, got, want)
				}
			}
		}
	}
	g := api.Image{Data: make([]byte, 1000), Limit: api.Base + 2000}
	for at, want := range map[int]int{math.MinInt: 6, math.MaxInt: 6, api.Base: 6, api.Ports: 6, 999: 3, 1000: 6, 1500: 6, 383: 2, 127: 6, 12: 6, 0: 0, -1: 6} {
		if got := wear.Part(g, at); got != want || wear.Part(api.Image{}, at) != 6 {
			t.Errorf("%d: %d", at, got)
		}
	}
	for limit, want := range map[int]int{math.MinInt: 5, 0: 5, api.Base: 5, api.Base + 5000: 4, math.MaxInt: 4} {
		g := api.Image{Data: make([]byte, 4096), Limit: limit}
		if wear.Part(g, 1152) != want || wear.Part(g, 4095) != want || wear.Part(g, 5) != 1 || wear.Part(g, 50) != 6 {
			t.Errorf("limit %d: %d", limit, wear.Part(g, 1152))
		}
	}
}

// Promise 34.1: what is a write: stores of each size, but none to ports, and none that faults.
func TestWrites(t *testing.T) {
	store := func(op, off int) api.Item { return asm.Inst(op, 0, 5, 6, off) }
	g := assembled(t,
		asm.Const(5, api.Base), asm.Const(6, 77),
		store(api.OpSw, 0), store(api.OpSb, 5), store(api.OpSh, 6), store(api.OpSb, 7), store(api.OpSw, 12), store(api.OpSb, 130), store(api.OpSb, 131),
		store(api.OpSw, 1148), store(api.OpSw, 1152), store(api.OpSb, 1159), store(api.OpSh, 1160),
		asm.Inst(api.OpLw, 7, 5, 0, 0), asm.Inst(api.OpAddi, 5, 5, 0, 2044), asm.Inst(api.OpAddi, 5, 5, 0, 2044), store(api.OpSw, 4), store(api.OpSb, 7),
		asm.Const(5, api.Ports), store(api.OpSw, api.PortSeq), store(api.OpSw, api.PortOut), store(api.OpSw, api.PortIndex),
		asm.Const(5, api.Base+2), store(api.OpSh, 0), store(api.OpSw, 0), // which faults
	)
	x := counted(t, g, nil, []int{1, 5000}, 1000)
	want := wear.Tally{Part: [7]int{2, 3, 2, 1, 2, 3, 1}, Words: make([]int, 1024), Most: 3, Fails: 1}
	for at, n := range map[int]int{0: 2, 4: 3, 12: 1, 128: 2, 1148: 1, 1152: 1, 1156: 1, 1160: 1, 4092: 2} {
		want.Words[at/4] = n
	}
	want.Words[1] = 3
	m, _ := device.New(g.Code, g.Data, nil)
	m.Run(1000, []int{1})
	want.Steps = m.Steps()
	if !reflect.DeepEqual(x, want) || m.State() != api.Faulted {
		t.Errorf("%v", x)
		for k, n := range x.Words {
			if n != want.Words[k] {
				t.Errorf("word %d: %d, not %d", k, n, want.Words[k])
			}
		}
	}
	for _, op := range []api.Item{store(api.OpSw, 2), store(api.OpSh, 1), store(api.OpSw, -4), store(api.OpSb, -1)} {
		if x := counted(t, assembled(t, asm.Const(5, api.Base), op), nil, nil, 9); x.Steps != 1 || sum(x.Part[:]) > 0 || x.Most > 0 {
			t.Errorf("%v: %v", op, x)
		}
	}
	last := assembled(t, asm.Const(5, api.Base+4092), store(api.OpSb, 3), store(api.OpSb, 4))
	if x := counted(t, last, nil, nil, 99); x.Part != [7]int{5: 1} || x.Words[1023] != 1 || len(x.Words) != 1024 {
		t.Errorf("at the end: %v", x.Part)
	}
}

// model is the tally of a run as the chapters word it. What is written shows in the instruction and the registers ahead of it.
func model(g api.Image, inputs []uint32, fails []int, n int) wear.Tally {
	m, _ := device.New(g.Code, g.Data, inputs)
	t := wear.Tally{Words: make([]int, len(g.Data)/4)}
	for m.State() == api.Running && m.Steps() < n {
		for len(fails) > 0 && fails[0] < m.Steps() {
			fails = fails[1:]
		}
		if len(fails) > 0 && fails[0] == m.Steps() {
			m.Fail()
			t.Fails++
		}
		var i api.Inst
		if m.Pc()%4 == 0 && int(m.Pc()/4) < len(g.Code) {
			i, _ = inst.Decode(g.Code[m.Pc()/4])
		}
		at := int64(uint32(int64(m.Reg(i.Rs1))+int64(i.Imm))) - api.Base
		steps := m.Steps()
		m.Step()
		if inst.Form(i.Op) == 'S' && m.Steps() > steps && at >= 0 && at < int64(len(g.Data)) {
			t.Words[at/4]++
			t.Part[wear.Part(g, int(at))]++
		}
	}
	t.Steps, t.Most = m.Steps(), slices.Max(t.Words)
	return t
}

// Promises 34.1 and 34.3: drawn programs under drawn failures; each write belongs to one part and one word.
func TestCount(t *testing.T) {
	failed := 0
	for n := range 120 {
		d := drawn.Dice(n)
		s := drawn.Wild(n)
		if n%3 == 0 {
			s = "int n; int a[9]; int main() { for (;;) { a[n % 9] += in(); out(a[n++ % 9]); } }"
		}
		g, _, e := compile.Compile(s, api.Options{Data: 4096 + 4*d.Roll(15000), Regs: d.Roll(13), Notes: 2 + d.Roll(63)})
		if e != api.OK {
			continue
		}
		var fails []int
		at := -5
		for range d.Roll(40) {
			at += d.Roll(600) - d.Roll(60)
			fails = append(fails, at)
		}
		kept := slices.Clone(fails)
		steps := d.Roll(20000)
		x := counted(t, g, []uint32{1, 2, 3}, fails, steps)
		if want := model(g, []uint32{1, 2, 3}, fails, steps); !reflect.DeepEqual(x, want) || sum(x.Part[:]) != sum(x.Words) || !slices.Equal(fails, kept) {
			t.Fatalf("program %d: %v, not %v", n, x, want)
		}
		failed += x.Fails
	}
	if failed < 300 {
		t.Errorf("%d failures", failed)
	}
}

// Promise 34.1: the number of instructions, which is not clamped, the failures that there were, and device.New's error.
func TestRuns(t *testing.T) {
	g := compiled(t, "int n; int main() { for (;;) out(n++); }", usual())
	for _, x := range []struct {
		fails       []int
		n           int
		steps, want int
	}{
		{nil, 0, 0, 0}, {nil, -1, 0, 0}, {[]int{0}, math.MinInt, 0, 0}, {[]int{0}, 0, 0, 0}, {[]int{0}, 1, 1, 1}, {[]int{5, 5, 3, 6}, 100, 100, 2}, {[]int{-1, 7}, 100, 100, 1}, {[]int{100}, 100, 100, 0}, {[]int{200, 5}, 100, 100, 0},
	} {
		if got := counted(t, g, nil, x.fails, x.n); got.Steps != x.steps || got.Fails != x.want || len(got.Words) != 1024 {
			t.Errorf("%v: %d instructions, %d failures", x, got.Steps, got.Fails)
		}
	}
	if x := counted(t, compiled(t, "int main() { return 7; }", usual()), nil, []int{90, 100000}, math.MaxInt); x.Fails != 1 || x.Steps < 100 || x.Steps > 500 {
		t.Errorf("to the end: %v", x)
	}
	if x := counted(t, assembled(t, asm.Inst(api.OpLw, 1, 0, 0, 0)), nil, []int{0, 1}, 100); x.Fails != 1 || x.Steps != 0 || x.Most != 0 {
		t.Errorf("faults at once: %v", x)
	}
	long := assembled(t, asm.Const(5, api.Base+1152), asm.Label(0), asm.Inst(api.OpSw, 0, 5, 5, 0), asm.Jump(0, 0))
	if x := counted(t, long, nil, nil, 20100001); x.Steps != 20100001 || x.Most != 10050000 {
		t.Errorf("a long run: %d, %d", x.Steps, x.Most)
	}
	for name, g := range map[string]api.Image{
		"nothing": {}, "no code": {Data: make([]byte, 4096)}, "no data": {Code: []uint32{19}}, "odd data": {Code: []uint32{19}, Data: make([]byte, 5)},
		"much code": {Code: make([]uint32, device.MaxCode+1), Data: make([]byte, 4)}, "much data": {Code: []uint32{19}, Data: make([]byte, device.MaxData+4)},
	} {
		if x, e := wear.Count(g, nil, nil, 100); e != api.ErrArg || !reflect.DeepEqual(x, wear.Tally{}) {
			t.Errorf("%s: %v, %v", name, e, x)
		}
	}
}

// routine is the address of the mark routine of an image: where the first mark leads.
func routine(g api.Image) int {
	for n, w := range g.Code {
		if i, _ := inst.Decode(w); i.Op == api.OpJal && i.Rd == 5 {
			return 4*n + i.Imm
		}
	}
	return -1
}

// passed is how often a run of an image comes to the mark routine, and how often it makes a note: an addi of register 3 by 12.
func passed(g api.Image, inputs []uint32, n int) (marks, notes int) {
	m, _ := device.New(g.Code, g.Data, inputs)
	start := uint32(routine(g))
	for m.State() == api.Running && m.Steps() < n {
		if m.Pc() == start {
			marks++
		}
		if i, _ := inst.Decode(g.Code[m.Pc()/4]); i == (api.Inst{Op: api.OpAddi, Rd: 3, Rs1: 3, Imm: 12}) {
			notes++
		}
		m.Step()
	}
	return marks, notes
}

// Promise 34.3: of a compiled image without failures: the epoch once a mark, the checkpoints 27 times, and three writes a note.
func TestMarks(t *testing.T) {
	marks, notes := 0, 0
	for n := range 80 {
		d := drawn.Dice(n)
		g, _, e := compile.Compile(drawn.Tame(n), api.Options{Data: 65536, Regs: d.Roll(13), Notes: 2 + d.Roll(63), Plain: d.Roll(2) == 0})
		if e != api.OK {
			continue
		}
		x := counted(t, g, []uint32{1, 2, 3}, nil, 50000)
		m, _ := device.New(g.Code, g.Data, []uint32{1, 2, 3})
		if m.Run(50000, nil) == api.Running {
			continue // it may have ended amid a mark
		}
		k, l := passed(g, []uint32{1, 2, 3}, 50000)
		if x.Part[0] != k || x.Part[2] != 27*k || x.Part[3] != 3*l || x.Words[0] != k || x.Part[6] != 0 {
			t.Fatalf("program %d, %d marks, %d notes: %v", n, k, l, x.Part)
		}
		if epoch := binary.LittleEndian.Uint32(m.Data()); epoch != uint32(k) {
			t.Fatalf("program %d, %d marks: epoch %d", n, k, epoch)
		}
		marks, notes = marks+k, notes+l
	}
	if marks < 1000 || notes < 1000 {
		t.Errorf("%d marks, %d notes", marks, notes)
	}
}

// Promise 34.2: two tallies together.
func TestAdd(t *testing.T) {
	a := wear.Tally{Part: [7]int{1, 2, 3, 4, 5, 6, 7}, Words: []int{5, 0, 3, 1}, Most: 5, Steps: 100, Fails: 2}
	b := wear.Tally{Part: [7]int{10, 20, 30, 40, 50, 60, 70}, Words: []int{1, 4, 4}, Most: 4, Steps: 11, Fails: 30}
	want := wear.Tally{Part: [7]int{11, 22, 33, 44, 55, 66, 77}, Words: []int{6, 4, 7, 1}, Most: 7, Steps: 111, Fails: 32}
	for _, l := range [][2]wear.Tally{{a, b}, {b, a}} {
		if got := wear.Add(l[0], l[1]); !reflect.DeepEqual(got, want) {
			t.Errorf("%v", got)
		}
	}
	if !slices.Equal(a.Words, []int{5, 0, 3, 1}) || !slices.Equal(b.Words, []int{1, 4, 4}) {
		t.Errorf("changed: %v, %v", a, b)
	}
	same := wear.Add(a, wear.Tally{})
	if !reflect.DeepEqual(same, a) {
		t.Errorf("with nothing: %v", same)
	}
	same.Words[0] = 99
	if a.Words[0] != 5 {
		t.Errorf("shared")
	}
	if got := wear.Add(wear.Tally{}, wear.Tally{}); len(got.Words) != 0 || got.Most != 0 || got.Steps != 0 {
		t.Errorf("nothing: %v", got)
	}
	if got := wear.Add(wear.Tally{Words: []int{1, 2}, Most: 99}, wear.Tally{Most: 50}); got.Most != 2 {
		t.Errorf("Most is that of the sums: %v", got)
	}
	if got := wear.Add(wear.Tally{Words: []int{9, 0}, Most: 9}, wear.Tally{Words: []int{0, 8}, Most: 8}); got.Most != 9 {
		t.Errorf("Most of different words: %v", got)
	}
	// A run, cut in two.
	g := compiled(t, "int n; int main() { int i; for (i = 0; i < 9; i++) { n += in(); out(n); } return n; }", usual())
	first, whole := counted(t, g, nil, nil, 300), counted(t, g, nil, nil, 100000)
	rest := wear.Add(whole, wear.Tally{Words: make([]int, 10)})
	if !reflect.DeepEqual(rest, whole) || first.Steps != 300 || sum(first.Words) >= sum(whole.Words) {
		t.Errorf("%v, %v", first, whole)
	}
}

// Promise 34.2: the words that were written most often.
func TestHot(t *testing.T) {
	x := wear.Tally{Words: []int{0, 5, 3, 0, 5, 9, 1, 3, 0}}
	for k, want := range map[int][]int{
		math.MinInt: {}, -1: {}, 0: {}, 1: {5}, 2: {5, 1}, 3: {5, 1, 4}, 4: {5, 1, 4, 2}, 5: {5, 1, 4, 2, 7}, 6: {5, 1, 4, 2, 7, 6}, 7: {5, 1, 4, 2, 7, 6}, math.MaxInt: {5, 1, 4, 2, 7, 6},
	} {
		if got := wear.Hot(x, k); !slices.Equal(got, want) {
			t.Errorf("%d: %v", k, got)
		}
		if got := wear.Hot(wear.Tally{}, k); len(got) != 0 {
			t.Errorf("%d of nothing: %v", k, got)
		}
	}
	if !slices.Equal(x.Words, []int{0, 5, 3, 0, 5, 9, 1, 3, 0}) {
		t.Errorf("changed: %v", x)
	}
	for n := range 300 {
		d := drawn.Dice(n)
		var words []int
		for range d.Roll(400) {
			words = append(words, d.Roll(7)*d.Roll(2))
		}
		k := d.Roll(300)
		l := wear.Hot(wear.Tally{Words: words}, k)
		if len(l) != min(k, written(words)) {
			t.Fatalf("%d of %v: %v", k, words, l)
		}
		chosen := map[int]int{}
		for n, w := range l {
			if chosen[w]++; words[w] < 1 || chosen[w] > 1 || n > 0 && (words[w] > words[l[n-1]] || words[w] == words[l[n-1]] && w < l[n-1]) {
				t.Fatalf("%d of %v: %v", k, words, l)
			}
		}
		for w, count := range words {
			if chosen[w] == 0 && len(l) == k && k > 0 && (count > words[l[k-1]] || count == words[l[k-1]] && w < l[k-1]) {
				t.Fatalf("%d of %v: %v, not %d", k, words, l, w)
			}
		}
	}
}

// Rule R3: a run leaves the image as it is.
func TestNothingIsChanged(t *testing.T) {
	g, inputs, fails := compiled(t, "int n = 3; int main() { n += in(); return n; }", usual()), []uint32{4}, []int{99}
	code, data := slices.Clone(g.Code), slices.Clone(g.Data)
	a := counted(t, g, inputs, fails, 1000)
	b := counted(t, g, inputs, fails, 1000)
	clear(b.Words)
	if !slices.Equal(g.Code, code) || !slices.Equal(g.Data, data) || inputs[0] != 4 || fails[0] != 99 || a.Most == 0 || sum(a.Words) == 0 {
		t.Errorf("changed or shared")
	}
}
