package compile_test

import (
	"math"
	"reflect"
	"testing"

	"rushlight/api"
	"rushlight/compile"
	"rushlight/dead"
	"rushlight/drawn"
	"rushlight/fold"
	"rushlight/inline"
	"rushlight/ir"
	"rushlight/irrun"
	"rushlight/procs"
	"rushlight/shape"
	. "rushlight/sketch"
)

// optimized is a module as the chapter words it, but with another number of rounds than four.
func optimized(m api.Module, rounds int) api.Module {
	m = inline.All(m)
	for n := range m.Procs {
		for range rounds {
			m.Procs[n] = shape.Tidy(dead.Dead(fold.Fold(m.Procs[n])))
		}
	}
	return m
}

// equal reports whether two modules are the same.
func equal(a, b api.Module) bool {
	if len(a.Procs) != len(b.Procs) || a.Main != b.Main || !reflect.DeepEqual(a.Globals, b.Globals) || !reflect.DeepEqual(a.Data, b.Data) {
		return false
	}
	for n, p := range a.Procs {
		if !procs.Equal(p, b.Procs[n]) {
			return false
		}
	}
	return true
}

// Promise 29.1: the optimized module of drawn ones. Some need all four rounds, and some are not done even then.
func TestBetter(t *testing.T) {
	modules := []api.Module{drawn.Lowered(2879), drawn.Lowered(2037), drawn.TameModule(2450), drawn.CallModule(2655), drawn.WildModule(1596)}
	for n := range 60 {
		modules = append(modules, drawn.Lowered(n), drawn.WildModule(n), drawn.TameModule(n), drawn.CallModule(n), drawn.PointerModule(n))
	}
	fewer, more := 0, 0
	for n, m := range modules {
		got := compile.Better(m)
		if want := optimized(m, 4); !equal(got, want) || ir.Check(got) != api.OK {
			t.Fatalf("module %d:\n%sbecame\n%snot\n%s", n, text(m), text(got), text(want))
		}
		if !equal(got, optimized(m, 3)) {
			fewer++
		}
		if !equal(got, optimized(m, 5)) {
			more++
		}
	}
	if fewer == 0 || more == 0 {
		t.Errorf("%d with three rounds, %d with five", fewer, more)
	}
}

// P6 of the whole: runs that terminated have the same outcome when their module is optimized.
func TestBetterSame(t *testing.T) {
	runs := 0
	for n := range 250 {
		for _, m := range []api.Module{drawn.TameModule(n), drawn.CallModule(n), drawn.WildModule(n)} {
			better := compile.Better(m)
			for _, inputs := range [][]uint32{nil, {1, 300, 1<<32 - 1}} {
				want := irrun.Run(m, inputs, 20000)
				if want.E != api.OK {
					continue
				}
				runs++
				if got := irrun.Run(better, inputs, 60000); !drawn.SameOutcome(got, want) {
					t.Fatalf("%d: %v, not %v:\n%sbecame\n%s", n, got, want, text(m), text(better))
				}
			}
		}
	}
	if runs < 600 {
		t.Errorf("%d runs", runs)
	}
}

// What the layers do together: a call is inlined, what it computes is known, and what is not needed is gone.
func TestTogether(t *testing.T) {
	m := module(t, "int f(int n){int x=n*2;int y=x+1;if(x>4)return y;return 0;}int main(){int a=f(5);out(a);return a-11;}", usual())
	p := m.Procs[m.Main]
	if len(p.Blocks) != 1 || len(p.Blocks[0].Ins) > 3 {
		t.Errorf("%s", ir.Text(p))
	}
}

// Rules R1 and R3: the module stays as it is, no answer shares anything with it, and what is not valid ends in no panic.
func TestBetterArguments(t *testing.T) {
	m, same := drawn.CallModule(3), drawn.CallModule(3)
	got := compile.Better(m)
	want := compile.Better(m)
	for n := range got.Procs {
		p := &got.Procs[n]
		for k := range p.Blocks {
			for _, i := range p.Blocks[k].Ins {
				clear(i.Args)
			}
			clear(p.Blocks[k].Ins)
		}
		clear(p.Blocks)
		clear(p.Objects)
	}
	for _, d := range got.Data {
		clear(d)
	}
	clear(got.Globals)
	if !reflect.DeepEqual(m, same) || !equal(compile.Better(m), want) {
		t.Errorf("changed or shared")
	}
	compile.Better(api.Module{})
	compile.Better(Main())
	compile.Better(Main(Ret(99)))
	odd := []int{-1, 0, 5, 9000, 1 << 20, 1 << 40, math.MaxInt, math.MinInt}
	for n := range 2000 {
		m, d := drawn.WildModule(n), drawn.Dice(n)
		p := &m.Procs[d.Roll(len(m.Procs))]
		b := &p.Blocks[d.Roll(len(p.Blocks))]
		some := odd[d.Roll(len(odd))]
		for _, at := range []*int{&p.Regs, &p.Params, &m.Main, &b.To, &b.Else, &b.A, &b.End} {
			if d.Roll(5) == 0 {
				*at = some
			}
		}
		if k := len(b.Ins); k > 0 {
			i := &b.Ins[d.Roll(k)]
			*[]*int{&i.Op, &i.D, &i.A, &i.B, &i.Fn, &i.Obj, &i.Off, &i.Size}[d.Roll(8)] = some
		}
		compile.Better(m)
	}
}
