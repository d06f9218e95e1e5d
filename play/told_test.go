package play_test

import (
	"slices"
	"testing"

	"rushlight/api"
	"rushlight/check"
	"rushlight/compile"
	"rushlight/drawn"
	"rushlight/interp"
	"rushlight/play"
	"rushlight/tree"
)

// list is records with these numbers and values, in turn.
func list(l ...uint32) []api.Record {
	var records []api.Record
	for k := 0; k+1 < len(l); k += 2 {
		records = append(records, api.Record{Seq: l[k], Val: l[k+1]})
	}
	return records
}

// Promise 31.3: what a play tells.
func TestTold(t *testing.T) {
	replay, gap, other := list(0, 5, 1, 6, 0, 5, 1, 6, 2, 7), list(0, 5, 2, 6), list(0, 5, 0, 6)
	for name, x := range map[string]struct {
		play api.Play
		out  []uint32
		exit uint32
		e    api.Errno
	}{
		"nothing yet":              {api.Play{}, nil, 0, api.ErrFuel},
		"running":                  {api.Play{State: api.Running, Steps: 99, Log: replay, Fails: 3}, []uint32{5, 6, 7}, 0, api.ErrFuel},
		"running, with an exit":    {api.Play{State: api.Running, Exit: 3}, nil, 0, api.ErrFuel},
		"halted":                   {api.Play{State: api.Halted, Exit: 44, Steps: 9, Log: replay, Fails: 2}, []uint32{5, 6, 7}, 44, api.OK},
		"halted with 0":            {api.Play{State: api.Halted}, nil, 0, api.OK},
		"halted with 255":          {api.Play{State: api.Halted, Exit: 255}, nil, 255, api.OK},
		"halted with 256":          {api.Play{State: api.Halted, Exit: 256, Log: replay}, []uint32{5, 6, 7}, 0, api.ErrFull},
		"halted with 257":          {api.Play{State: api.Halted, Exit: 257, Log: replay}, []uint32{5, 6, 7}, 0, api.ErrFault},
		"halted with all ones":     {api.Play{State: api.Halted, Exit: 1<<32 - 1}, nil, 0, api.ErrFault},
		"faulted":                  {api.Play{State: api.Faulted, Log: replay}, []uint32{5, 6, 7}, 0, api.ErrFault},
		"faulted, with an exit":    {api.Play{State: api.Faulted, Exit: 3}, nil, 0, api.ErrFault},
		"another state":            {api.Play{State: 3}, nil, 0, api.ErrFault},
		"a negative state":         {api.Play{State: -1, Log: replay}, []uint32{5, 6, 7}, 0, api.ErrFault},
		"running, a gap":           {api.Play{State: api.Running, Log: gap}, []uint32{5, 6}, 0, api.ErrFault},
		"halted, a gap":            {api.Play{State: api.Halted, Exit: 3, Log: gap}, []uint32{5, 6}, 0, api.ErrFault},
		"full, a gap":              {api.Play{State: api.Halted, Exit: 256, Log: gap}, []uint32{5, 6}, 0, api.ErrFault},
		"halted, another value":    {api.Play{State: api.Halted, Exit: 3, Log: other}, []uint32{5}, 0, api.ErrFault},
		"halted, not from 0 on":    {api.Play{State: api.Halted, Log: list(1, 5)}, []uint32{5}, 0, api.ErrFault},
		"running, and no failures": {api.Play{State: api.Running, Log: list(0, 1)}, []uint32{1}, 0, api.ErrFuel},
	} {
		o := play.Told(x.play)
		if !slices.Equal(o.Out, x.out) || o.Exit != x.exit || o.E != x.e || o.Ins != 0 {
			t.Errorf("%s: %v", name, o)
		}
	}
}

// ended is a play with these outputs that ended like this.
func ended(e api.Errno, exit uint32, out ...uint32) api.Play {
	p := api.Play{State: api.Halted, Exit: exit}
	for k, v := range out {
		p.Log = append(p.Log, api.Record{Seq: uint32(k), Val: v}, api.Record{Val: out[0]})
	}
	switch e {
	case api.ErrFuel:
		p.State = api.Running
	case api.ErrFull:
		p.Exit = 256
	case api.ErrFault:
		p.State = api.Faulted
	}
	return p
}

// Promise 31.3: Agrees, by hand.
func TestAgrees(t *testing.T) {
	const ok, fuel, full, fault = api.OK, api.ErrFuel, api.ErrFull, api.ErrFault
	one, two, three, other := []uint32{1}, []uint32{1, 2}, []uint32{1, 2, 3}, []uint32{1, 9}
	for k, x := range []struct {
		wantE api.Errno
		want  []uint32
		gotE  api.Errno
		got   []uint32
		exit  uint32 // want's is 7
		is    bool
	}{
		{ok, two, ok, two, 7, true}, {ok, two, ok, two, 8, false}, {ok, two, ok, one, 7, false}, {ok, two, ok, three, 7, false}, {ok, two, ok, other, 7, false}, {ok, nil, ok, nil, 7, true},
		{ok, two, fuel, two, 7, true}, {ok, two, fuel, one, 7, true}, {ok, two, fuel, nil, 7, true}, {ok, two, fuel, three, 7, false}, {ok, two, fuel, other, 7, false},
		{ok, two, full, two, 7, true}, {ok, two, full, one, 7, true}, {ok, two, full, three, 7, false}, {ok, two, full, other, 7, false},
		{ok, two, fault, two, 7, false}, {ok, two, fault, nil, 7, false},
		{fuel, two, ok, two, 0, true}, {fuel, two, ok, three, 7, true}, {fuel, two, ok, one, 7, false}, {fuel, two, ok, other, 7, false}, {fuel, nil, ok, three, 7, true},
		{fuel, two, fuel, three, 7, true}, {fuel, two, fuel, two, 7, true}, {fuel, two, fuel, one, 7, true}, {fuel, two, fuel, nil, 7, true}, {fuel, two, fuel, other, 7, false},
		{fuel, two, full, three, 7, true}, {fuel, two, full, one, 7, true}, {fuel, two, full, other, 7, false},
		{fuel, two, fault, two, 7, false}, {fuel, nil, fault, nil, 7, false},
	} {
		want := api.Outcome{Out: x.want, Exit: 7, E: x.wantE, Ins: 5}
		if x.wantE != ok {
			want.Exit = 0
		}
		if play.Agrees(ended(x.gotE, x.exit, x.got...), want) != x.is {
			t.Errorf("%d: %v", k, x)
		}
	}
	for e := api.Errno(-1); e < 20; e++ {
		if e == ok || e == fuel {
			continue
		}
		for _, gotE := range []api.Errno{ok, fuel, full, fault} {
			if !play.Agrees(ended(gotE, 3, 4, 5, 6), api.Outcome{Out: two, E: e}) {
				t.Errorf("undefined, %v: %v does not agree", e, gotE)
			}
		}
	}
	if play.Agrees(api.Play{State: api.Halted, Exit: 7, Log: list(0, 1, 2, 2)}, api.Outcome{Out: two, Exit: 7}) {
		t.Errorf("a log that is not consistent agrees")
	}
}

// Promise 31.3, and P1 of the whole: plays of drawn programs agree with their runs, also those that are cut short; not so with what they do not do.
func TestDrawnAgree(t *testing.T) {
	ends, others := map[[2]api.Errno]int{}, 0
	for n := range 250 {
		s := drawn.Tame(n)
		if n%3 == 0 {
			s = drawn.Wild(n)
		}
		inputs := []uint32{uint32(n), 3, 0, 7}
		p, _, _ := tree.Read(s)
		u, _, _ := check.Check(p)
		d := drawn.Dice(n)
		o := api.Options{Data: 4096 + 4*d.Roll(3000)*d.Roll(2), Regs: d.Roll(13), Notes: 2 + d.Roll(63), Plain: d.Roll(2) == 0}
		g, _, e := compile.Compile(s, o)
		if full := interp.Run(u, inputs, 100000); e != api.OK || full.E != api.OK && full.E != api.ErrFuel { // what is undefined later on may show earlier
			continue
		}
		for range 4 {
			want := interp.Run(u, inputs, []int{20000, 20000, 10 + d.Roll(2000)}[d.Roll(3)])
			x, _ := play.Often(g, inputs, d.Roll(1000), 500+d.Roll(3000), []int{1000000, 1000000, d.Roll(10000)}[d.Roll(3)])
			if !play.Agrees(x, want) {
				t.Fatalf("program %d with %v: %v, not %v\n%s", n, o, play.Told(x), want, s)
			}
			ends[[2]api.Errno{want.E, play.Told(x).E}]++
			if want.E == api.OK && len(want.Out) > 0 {
				want.Out[d.Roll(len(want.Out))] ^= 1
				if x.State == api.Halted && x.Exit < 256 && play.Agrees(x, want) {
					t.Fatalf("program %d: agrees with anything", n)
				}
				others++
			}
		}
	}
	if ends[[2]api.Errno{api.OK, api.OK}] < 100 || ends[[2]api.Errno{api.OK, api.ErrFuel}] < 30 || ends[[2]api.Errno{api.ErrFuel, api.OK}] < 30 || ends[[2]api.Errno{api.ErrFuel, api.ErrFuel}] < 10 || ends[[2]api.Errno{api.OK, api.ErrFull}] < 5 || others < 50 {
		t.Errorf("%v, %d others", ends, others)
	}
}
