package procs_test

import (
	"reflect"
	"slices"
	"testing"

	"rushlight/api"
	"rushlight/flow"
	"rushlight/procs"
	. "rushlight/sketch"
)

// sample is a procedure with something in all its parts.
func sample() api.Proc {
	return api.Proc{Name: "p", Params: 1, Regs: 4, Objects: Slots(4, 8), Blocks: []api.Block{
		Branch(1, 1, 0, Call(2, 0, 1, 0), Store(2, 1, 4, 4)), Ret(0),
	}}
}

// Clone is equal, and shares nothing.
func TestClone(t *testing.T) {
	p := sample()
	q := procs.Clone(p)
	if !reflect.DeepEqual(q, sample()) || !procs.Equal(p, q) {
		t.Fatalf("%v", q)
	}
	q.Objects[0].Size, q.Blocks[1].A, q.Blocks[0].Ins[1].A, q.Blocks[0].Ins[0].Args[1] = 9, 9, 9, 9
	if !reflect.DeepEqual(p, sample()) {
		t.Errorf("shared: %v", p)
	}
	if !reflect.DeepEqual(procs.Clone(api.Proc{}), api.Proc{}) {
		t.Errorf("of nothing: %v", procs.Clone(api.Proc{}))
	}
}

// Equal sees all fields.
func TestEqual(t *testing.T) {
	for n, change := range []func(p *api.Proc, b *api.Block, i *api.Ins){
		func(p *api.Proc, b *api.Block, i *api.Ins) { p.Name = "q" },
		func(p *api.Proc, b *api.Block, i *api.Ins) { p.Void = true },
		func(p *api.Proc, b *api.Block, i *api.Ins) { p.Params++ },
		func(p *api.Proc, b *api.Block, i *api.Ins) { p.Regs++ },
		func(p *api.Proc, b *api.Block, i *api.Ins) { p.Objects[1].Align = 4 },
		func(p *api.Proc, b *api.Block, i *api.Ins) { p.Objects = p.Objects[:1] },
		func(p *api.Proc, b *api.Block, i *api.Ins) { p.Blocks = p.Blocks[:1] },
		func(p *api.Proc, b *api.Block, i *api.Ins) { b.End++ },
		func(p *api.Proc, b *api.Block, i *api.Ins) { b.A++ },
		func(p *api.Proc, b *api.Block, i *api.Ins) { b.To++ },
		func(p *api.Proc, b *api.Block, i *api.Ins) { b.Else++ },
		func(p *api.Proc, b *api.Block, i *api.Ins) { b.Ins = b.Ins[:1] },
		func(p *api.Proc, b *api.Block, i *api.Ins) { i.Op++ },
		func(p *api.Proc, b *api.Block, i *api.Ins) { i.D++ },
		func(p *api.Proc, b *api.Block, i *api.Ins) { i.A++ },
		func(p *api.Proc, b *api.Block, i *api.Ins) { i.B++ },
		func(p *api.Proc, b *api.Block, i *api.Ins) { i.Fn++ },
		func(p *api.Proc, b *api.Block, i *api.Ins) { i.Obj++ },
		func(p *api.Proc, b *api.Block, i *api.Ins) { i.Off++ },
		func(p *api.Proc, b *api.Block, i *api.Ins) { i.Size++ },
		func(p *api.Proc, b *api.Block, i *api.Ins) { i.Num++ },
		func(p *api.Proc, b *api.Block, i *api.Ins) { i.Log = true },
		func(p *api.Proc, b *api.Block, i *api.Ins) { i.Args[1]++ },
		func(p *api.Proc, b *api.Block, i *api.Ins) { i.Args = nil },
	} {
		p := sample()
		change(&p, &p.Blocks[0], &p.Blocks[0].Ins[0])
		if procs.Equal(p, sample()) || procs.Equal(sample(), p) {
			t.Errorf("change %d is not seen", n)
		}
	}
	p := sample()
	p.Blocks[1].Ins, p.Blocks[0].Ins[1].Args = []api.Ins{}, []int{}
	if !procs.Equal(p, sample()) {
		t.Errorf("nil and empty differ")
	}
}

// Entered has all blocks reached, and no cycles but those of the blocks that lead on.
func TestEntered(t *testing.T) {
	p := api.Proc{Name: "p", Blocks: []api.Block{Ret(0), Jump(3, Out(1)), Branch(4, 1, 2), Jump(2)}}
	q := procs.Entered(p, func(n int) bool { return n != 2 })
	want := []api.Block{Branch(0, 4, 1), Branch(0, 5, 2), Branch(0, 6, 3), Jump(7), {End: api.EndRet, To: 4, Else: 4}, {End: api.EndJump, A: None, To: 7, Else: 4}, {End: api.EndRet}, {End: api.EndJump, A: None, To: 6, Else: 4}}
	if !procs.Equal(q, api.Proc{Name: "p", Blocks: want}) {
		t.Errorf("%v", q.Blocks)
	}
	if len(flow.Back(q)) > 0 || slices.Contains(flow.Reach(q), false) {
		t.Errorf("%v, %v", flow.Back(q), flow.Reach(q))
	}
	q = procs.Entered(p, func(n int) bool { return true })
	if l := flow.Back(q); !slices.Equal(l, [][2]int{{6, 5}, {6, 6}}) {
		t.Errorf("%v", l)
	}
	if len(p.Blocks) != 4 || len(p.Blocks[1].Ins) != 1 || p.Blocks[1].To != 3 {
		t.Errorf("changed: %v", p.Blocks)
	}
	if q := procs.Entered(api.Proc{}, nil); len(q.Blocks) > 0 {
		t.Errorf("of nothing: %v", q)
	}
}
