package power_test

import (
	"math"
	"reflect"
	"slices"
	"testing"

	"rushlight/api"
	"rushlight/bound"
	"rushlight/compile"
	"rushlight/drawn"
	"rushlight/play"
	"rushlight/power"
	"rushlight/record"
)

// supply is a supply.
func supply(room, on int, ticks ...int) power.Supply {
	return power.Supply{Ticks: ticks, Room: room, On: on}
}

// compiled is the image of a text that Compile must accept.
func compiled(t *testing.T, s string) api.Image {
	t.Helper()
	g, at, e := compile.Compile(s, api.Options{Data: 4096, Regs: 12, Notes: 16})
	if e != api.OK {
		t.Fatalf("%s: %v at %v", s, e, at)
	}
	return g
}

// The example of the chapter: on at the third tick, off at the fourth one, and so on.
func TestExample(t *testing.T) {
	s := supply(5, 2, 1, 0)
	for time, want := range map[int]struct {
		executed int
		fails    []int
	}{0: {0, nil}, 2: {0, nil}, 3: {1, nil}, 4: {2, nil}, 5: {2, nil}, 6: {2, nil}, 7: {3, []int{2}}, 8: {4, []int{2}}, 10: {4, []int{2}}, 11: {5, []int{2, 4}}, 12: {6, []int{2, 4}}} {
		if fails, n, e := power.Fails(s, time); e != api.OK || n != want.executed || !slices.Equal(fails, want.fails) {
			t.Errorf("%d ticks: %v, %d, %v", time, fails, n, e)
		}
	}
}

// Promise 33.1: which supplies are valid, and that Fails and Play ask for that first.
func TestRight(t *testing.T) {
	const most = 1 << 20
	many := func(n int) []int { return make([]int, n) }
	g := compiled(t, "int main() { return 7; }")
	for _, x := range []struct {
		supply power.Supply
		want   bool
	}{
		{supply(1, 1, 0), true}, {supply(most, most, most), true}, {supply(most, 1, most, 0, most), true}, {supply(5, 5, many(4096)...), true}, {supply(5, 5, 0, 1, 2, 3), true},
		{power.Supply{}, false}, {supply(5, 2), false}, {supply(5, 5, many(4097)...), false}, {supply(5, 2, -1), false}, {supply(5, 2, 1, 2, -1), false}, {supply(5, 2, most+1), false}, {supply(5, 2, 1, most+1, 2), false},
		{supply(5, 0, 1), false}, {supply(5, -1, 1), false}, {supply(5, 6, 1), false}, {supply(0, 0, 1), false}, {supply(most+1, 1, 1), false}, {supply(most+1, most+1, 1), false}, {supply(-1, -1, 1), false},
		{supply(math.MaxInt, 1, 1), false}, {supply(5, math.MinInt, 1), false}, {supply(5, math.MaxInt, 1), false}, {supply(5, 2, math.MinInt), false}, {supply(5, 2, math.MaxInt), false},
	} {
		if power.Right(x.supply) != x.want {
			t.Errorf("%v: %v", x.supply, !x.want)
		}
		want := api.ErrArg
		if x.want {
			want = api.OK
		}
		fails, n, e := power.Fails(x.supply, 100)
		p, pE := power.Play(x.supply, g, nil, 100)
		_, noE := power.Play(x.supply, api.Image{}, nil, 100)
		if e != want || pE != want || noE != api.ErrArg {
			t.Errorf("%v: Fails: %v, Play: %v, %v", x.supply, e, pE, noE)
		}
		if e != api.OK && (len(fails) > 0 || n != 0 || !reflect.DeepEqual(p, api.Play{})) {
			t.Errorf("%v: %v, %d, %v", x.supply, fails, n, p)
		}
		if !x.want && power.Enough(x.supply, g) {
			t.Errorf("%v is enough", x.supply)
		}
	}
}

// Promise 33.1: which supplies are steady, valid or not.
func TestSteady(t *testing.T) {
	for _, x := range []struct {
		supply power.Supply
		want   bool
	}{
		{supply(5, 2, 1), true}, {supply(5, 2, 0, 0, 1), true}, {supply(5, 2, 1, 0), true}, {supply(5, 2, 1<<20), true}, {supply(0, 0, 5), true}, {supply(5, 2, math.MaxInt), true}, {supply(5, 2, -1, 1), true},
		{supply(5, 2, 0), false}, {supply(5, 2, 0, 0, 0), false}, {supply(5, 2), false}, {power.Supply{}, false}, {supply(5, 2, -1), false}, {supply(5, 2, math.MinInt, 0), false},
	} {
		if power.Steady(x.supply) != x.want {
			t.Errorf("%v: %v", x.supply, !x.want)
		}
	}
}

// model is Fails as the chapter words it.
func model(s power.Supply, time int) (fails []int, executed int) {
	buffer, on, was := 0, false, false
	for t := 0; t < time; t++ {
		buffer += s.Ticks[t%len(s.Ticks)]
		if buffer > s.Room {
			buffer = s.Room
		}
		if !on && buffer >= s.On {
			on = true
			if was {
				fails = append(fails, executed)
			}
		}
		if on {
			executed++
			was = true
			buffer--
			if buffer == 0 {
				on = false
			}
		}
	}
	return fails, executed
}

// drawnSupply is a supply that is valid.
func drawnSupply(d *drawn.Dice) power.Supply {
	var s power.Supply
	most := []int{2, 2, 5, 100, 1 << 20}[d.Roll(5)]
	for range 1 + d.Roll(12) {
		s.Ticks = append(s.Ticks, d.Roll(most)*d.Roll(2))
	}
	s.Room = 1 + d.Roll([]int{5, 60, 1000, 1 << 20}[d.Roll(4)])
	s.On = 1 + d.Roll(s.Room)
	return s
}

// Promises 33.1 and 33.3: drawn supplies. Failures ascend, with at least On instructions ahead of each, and more time only adds to them.
func TestFails(t *testing.T) {
	count := 0
	for n := range 3000 {
		d := drawn.Dice(n)
		s := drawnSupply(&d)
		kept := slices.Clone(s.Ticks)
		time := d.Roll(3000)
		fails, executed, e := power.Fails(s, time)
		want, wantN := model(s, time)
		if e != api.OK || !slices.Equal(fails, want) || executed != wantN || !slices.Equal(s.Ticks, kept) {
			t.Fatalf("%v, %d ticks: %v, %d, %v, not %v, %d", s, time, fails, executed, e, want, wantN)
		}
		last := 0
		for _, at := range fails {
			if at < last+s.On || at >= executed {
				t.Fatalf("%v: %v", s, fails)
			}
			last = at
		}
		more, moreN, _ := power.Fails(s, time+d.Roll(1000))
		if len(more) < len(fails) || !slices.Equal(more[:len(fails)], fails) || moreN < executed {
			t.Fatalf("%v, %d ticks: %v, but later %v", s, time, fails, more)
		}
		count += len(fails)
	}
	if count < 20000 {
		t.Errorf("%d failures", count)
	}
}

// Promise 33.1: supplies by hand, and the time that is looked at.
func TestTime(t *testing.T) {
	for _, x := range []struct {
		name     string
		supply   power.Supply
		time     int
		executed int
		fails    []int
	}{
		{"never enough", supply(5, 5, 0), 1000, 0, nil},
		{"always enough", supply(5, 5, 5), 1000, 1000, nil},
		{"one a tick", supply(1, 1, 1), 4, 4, []int{1, 2, 3}},
		{"two a tick, room for one", supply(1, 1, 2), 4, 4, []int{1, 2, 3}},
		{"one a tick, room for two", supply(2, 2, 1), 5, 4, nil},
		{"every other tick", supply(9, 1, 0, 1), 6, 3, []int{1, 2}},
		{"all at once", supply(3, 3, 9, 0, 0, 0), 9, 7, []int{3, 6}},
		{"all at once, more room", supply(5, 3, 9, 0, 0, 0), 9, 9, nil},
		{"no time", supply(5, 1, 1), 0, 0, nil},
		{"less than no time", supply(5, 1, 1), -5, 0, nil},
		{"far less than no time", supply(5, 1, 1), math.MinInt, 0, nil},
	} {
		if fails, n, e := power.Fails(x.supply, x.time); e != api.OK || n != x.executed || !slices.Equal(fails, x.fails) {
			t.Errorf("%s: %v, %d, %v", x.name, fails, n, e)
		}
	}
	for time, want := range map[int]int{power.MaxTime - 1: power.MaxTime - 1, power.MaxTime: power.MaxTime, power.MaxTime + 1: power.MaxTime, math.MaxInt: power.MaxTime} {
		if fails, n, e := power.Fails(supply(1, 1, 1), time); e != api.OK || n != want || len(fails) != want-1 || fails[len(fails)-1] != want-1 {
			t.Errorf("%d ticks: %d, %d, %v", time, len(fails), n, e)
		}
	}
}

// Promise 33.2: Enough.
func TestEnough(t *testing.T) {
	g := compiled(t, "int n; int main() { int i; for (i = 0; i < 3; i++) { n += in(); out(n); } return n; }")
	b, e := bound.Bound(g)
	if e != api.OK {
		t.Fatalf("Bound: %v", e)
	}
	for _, x := range []struct {
		supply power.Supply
		image  api.Image
		want   bool
	}{
		{supply(b, b, 1), g, true}, {supply(b+1, b, 0, 1), g, true}, {supply(1<<20, 1<<20, 1), g, true},
		{supply(b, b-1, 1), g, false}, {supply(1<<20, 1, 1), g, false}, {supply(b, b, 0), g, false}, {supply(b-1, b, 1), g, false}, {supply(b, b, 1, -1), g, false}, {supply(b, b), g, false},
		{supply(1<<20, 1<<20, 1), api.Image{}, false},
		{supply(1<<20, 1<<20, 1), api.Image{Code: g.Code[:20], Data: g.Data, Limit: g.Limit, Notes: g.Notes}, false},
		{supply(1<<20, 1<<20, 1), api.Image{Code: append(slices.Clone(g.Code), 0), Data: g.Data, Limit: g.Limit, Notes: g.Notes}, false},
		{supply(b, b, 1), api.Image{Code: g.Code, Data: g.Data, Limit: g.Limit, Notes: g.Notes + 1}, false},
		{supply(b+16, b+16, 1), api.Image{Code: g.Code, Data: g.Data, Limit: g.Limit, Notes: g.Notes + 1}, true},
	} {
		if power.Enough(x.supply, x.image) != x.want {
			t.Errorf("%v: %v", x.supply, !x.want)
		}
	}
}

// Promise 33.2: Play is play.Run with the failures and the number of instructions; its errors are those of Fails, and then those of Run.
func TestPlay(t *testing.T) {
	for n := range 300 {
		d := drawn.Dice(n)
		s, g := drawnSupply(&d), compiled(t, []string{"int n; int main() { for (;;) out(n++); }", "int n; int main() { int i; for (i = 0; i < 3; i++) { n += in(); out(n); } return n; }"}[n%2])
		time := d.Roll(20000)
		p, e := power.Play(s, g, []uint32{1, 2, 3}, time)
		fails, executed, _ := power.Fails(s, time)
		want, _ := play.Run(g, []uint32{1, 2, 3}, fails, executed)
		if e != api.OK || !reflect.DeepEqual(p, want) || p.State == api.Running && (p.Fails != len(fails) || p.Steps != executed) {
			t.Fatalf("%v, %d ticks: %v, %v, not %v", s, time, e, p, want)
		}
	}
	if p, e := power.Play(supply(5, 2, 1), api.Image{Data: make([]byte, 4)}, nil, 100); e != api.ErrArg || !reflect.DeepEqual(p, api.Play{}) {
		t.Errorf("no code: %v, %v", e, p)
	}
}

// Promise 33.3: with a supply that is enough, programs that terminate without failures do so, given enough time, with the same outputs.
func TestTerminates(t *testing.T) {
	terminated, failed := 0, 0
	for n := range 150 {
		d := drawn.Dice(n)
		o := api.Options{Data: 8192, Regs: d.Roll(13), Notes: 2 + d.Roll(63), Plain: d.Roll(2) == 0}
		g, _, e := compile.Compile(drawn.Tame(n), o)
		if e != api.OK {
			continue
		}
		inputs := []uint32{1, 2, 3}
		want, _ := play.Run(g, inputs, nil, 100000)
		b, _ := bound.Bound(g)
		s := drawnSupply(&d)
		s.On = b + d.Roll(100)
		s.Room = s.On + d.Roll(300)
		s.Ticks = append(s.Ticks, 1)
		if want.State != api.Halted || !power.Enough(s, g) {
			continue
		}
		p, e := power.Play(s, g, inputs, power.MaxTime)
		if e != api.OK || p.State != api.Halted || p.Exit != want.Exit || p.Steps > want.Steps+p.Fails*b || !record.Whole(p.Log, record.Values(want.Log)) {
			t.Fatalf("program %d with %v and %v: %v, %v, not %v", n, o, s, e, p, want)
		}
		terminated++
		failed += p.Fails
	}
	if terminated < 80 || failed < 200 {
		t.Errorf("%d terminated, with %d failures", terminated, failed)
	}
}

// Promise 33.3: with a supply that is steady but not enough, a program may never get on.
func TestNotEnough(t *testing.T) {
	g := compiled(t, "int n; int main() { int i; for (i = 0; i < 3; i++) { n += in(); out(n); } return n; }")
	if p, e := power.Play(supply(30, 30, 1, 0), g, nil, power.MaxTime); e != api.OK || p.State != api.Running || p.Steps < 1000000 || len(p.Log) > 0 {
		t.Errorf("%v: %v", e, p)
	}
}
