package reads_test

import (
	"slices"
	"testing"

	"rushlight/api"
	"rushlight/reads"
	. "rushlight/sketch"
)

// tracker is a tracker for a module's main, of which register 5 is spilled.
func tracker(t *testing.T, m api.Module) *reads.Tracker {
	t.Helper()
	k, e := reads.New(m, 0, []bool{5: true})
	if e != api.OK {
		t.Fatalf("%v", e)
	}
	return k
}

// hazards is whether each of some instructions is a hazard, behind some reads.
func hazards(k *reads.Tracker, before reads.Set, l ...api.Ins) []bool {
	var is []bool
	for _, i := range l {
		is = append(is, k.Pass(before, i))
	}
	return is
}

// Pass tells hazards and follows reads; a mark and a call end them.
func TestPass(t *testing.T) {
	l := []api.Ins{Global(0, 0, 0), Load(1, 0, 0, 4), Store(0, 1, 0, 4), Copy(5, 5), Mark(), Store(0, 1, 0, 4), Const(5, 1), Out(5), Call(5, 0), Const(5, 1), Out(5), In(5)}
	k := tracker(t, WithGlobals(Main(Ret(9, l...)), 8))
	want := []bool{2: true, 3: true, 11: true}
	if is := hazards(k, k.None(), l...); !slices.Equal(is, want) {
		t.Errorf("%v", is)
	}
	for _, i := range l {
		if reads.IsBoundary(i) != (i.Op == api.IrMark || i.Op == api.IrCall) {
			t.Errorf("%v", i)
		}
	}
}

// A tracker is of use for the procedure with marks added.
func TestMarks(t *testing.T) {
	l := []api.Ins{Out(5), Const(5, 1), Const(5, 2)}
	k := tracker(t, Main(Jump(1, l...), Ret(5, l[2])))
	p := Main(Jump(1, l[0], l[1], Mark(), l[2]), Ret(5, l[2])).Procs[0]
	starts := k.Starts(p)
	if is := hazards(k, starts[0], p.Blocks[0].Ins...); len(starts) != 2 || !slices.Equal(is, []bool{false, true, false, false}) {
		t.Errorf("%v", is)
	}
	if is := hazards(k, starts[1], l[2]); !slices.Equal(is, []bool{false}) {
		t.Errorf("%v", is)
	}
}

// Join adds what is new; the end of a block reads too.
func TestJoin(t *testing.T) {
	k := tracker(t, Main(Branch(5, 0, 1), Ret(5)))
	s := k.None()
	if s.Join(nil) || s.Join(k.None()) || k.Pass(s, Const(5, 1)) {
		t.Errorf("of nothing")
	}
	for _, b := range []api.Block{Jump(0), Ret(None), Ret(4), Branch(6, 0, 1), {End: 9, A: 5}} {
		k.End(s, b)
	}
	if s.Join(k.None()) || k.Pass(s, Const(5, 1)) {
		t.Errorf("ends that do not read it")
	}
	for _, b := range []api.Block{Ret(5), Branch(5, 0, 1)} {
		s, other := k.None(), k.None()
		k.End(other, b)
		if !s.Join(other) || s.Join(other) || !k.Pass(s, Const(5, 1)) {
			t.Errorf("%v", b)
		}
	}
}

// There is no tracker where there is no procedure.
func TestNone(t *testing.T) {
	if k, e := reads.New(Main(Ret(0)), 1, nil); k != nil || e != api.ErrNone {
		t.Errorf("%v, %v", k, e)
	}
}
