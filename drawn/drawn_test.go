package drawn_test

import (
	"reflect"
	"testing"

	"rushlight/api"
	"rushlight/check"
	"rushlight/drawn"
	"rushlight/ir"
	"rushlight/irrun"
	"rushlight/sketch"
	"rushlight/tree"
)

// All programs are such as check.Check accepts, and the same whenever they are made.
func TestPrograms(t *testing.T) {
	seen := map[string]struct{}{}
	for n := range 300 {
		for _, make := range []func(n int) string{drawn.Wild, drawn.Tame} {
			s := make(n)
			p, at, e := tree.Read(s)
			if e == api.OK {
				_, at, e = check.Check(p)
			}
			if e != api.OK || make(n) != s {
				t.Fatalf("%s: %v at %v", s, e, at)
			}
			seen[s] = struct{}{}
		}
	}
	if len(seen) < 590 {
		t.Errorf("%d different programs", len(seen))
	}
}

// Roll keeps to its range and reaches all of it.
func TestRoll(t *testing.T) {
	d, seen := drawn.Dice(1), map[int]int{}
	for range 1000 {
		seen[d.Roll(7)]++
	}
	for n := range 7 {
		if seen[n] < 50 {
			t.Errorf("%d: %d times", n, seen[n])
		}
	}
	if len(seen) != 7 || d.Roll(1) != 0 || d.Roll(0) != 0 || d.Roll(-5) != 0 {
		t.Errorf("beyond the range: %v", seen)
	}
}

// All modules are valid and the same whenever they are made; those that are tame terminate.
func TestModules(t *testing.T) {
	seen := map[string]struct{}{}
	for n := range 500 {
		for k, make := range []func(n int) api.Module{drawn.WildModule, drawn.TameModule, drawn.CallModule, drawn.PointerModule, drawn.Lowered} {
			m, text := make(n), ""
			for _, p := range m.Procs {
				text += ir.Text(p) + "\n"
			}
			if ir.Check(m) != api.OK || !reflect.DeepEqual(m, make(n)) {
				t.Fatalf("%d, %d: %v", k, n, m)
			}
			seen[text] = struct{}{}
		}
		for _, m := range []api.Module{drawn.TameModule(n), drawn.CallModule(n)} {
			if o := irrun.Run(m, []uint32{3}, irrun.MaxFuel); o.E != api.OK || len(o.Out) == 0 {
				t.Errorf("%d: %v", n, o)
			}
		}
	}
	if len(seen) < 2350 {
		t.Errorf("%d different modules", len(seen))
	}
}

// Unequal finds what is not valid and what behaves otherwise.
func TestUnequal(t *testing.T) {
	m := sketch.Main(sketch.Ret(0, sketch.Const(0, 7), sketch.Out(0)))
	for n, change := range []func(p *api.Proc){
		func(p *api.Proc) { p.Regs = 0 }, func(p *api.Proc) { p.Name = "x" }, func(p *api.Proc) { p.Void = true },
		func(p *api.Proc) { p.Blocks = []api.Block{sketch.Ret(0, sketch.Const(0, 8), sketch.Out(0))} },
		func(p *api.Proc) { p.Blocks = []api.Block{sketch.Ret(1, sketch.Const(0, 7), sketch.Out(0))} },
		func(p *api.Proc) {
			p.Blocks = []api.Block{sketch.Ret(0, sketch.Const(0, 7), sketch.Out(0), sketch.In(1))}
		},
		func(p *api.Proc) { p.Blocks = []api.Block{sketch.Jump(0)} },
	} {
		if drawn.Unequal(m, 100, func(p api.Proc) api.Proc { change(&p); return p }) == "" {
			t.Errorf("change %d does not show", n)
		}
	}
	if s := drawn.Unequal(m, 100, func(p api.Proc) api.Proc { p.Regs++; return p }); s != "" {
		t.Errorf("%s", s)
	}
}
