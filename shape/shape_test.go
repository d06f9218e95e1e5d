package shape_test

import (
	"math"
	"slices"
	"testing"

	"rushlight/api"
	"rushlight/ir"
	"rushlight/procs"
	"rushlight/shape"
	. "rushlight/sketch"
)

// proc is a procedure of these blocks, with registers from 0 to 9.
func proc(l ...api.Block) api.Proc {
	return api.Proc{Name: "p", Params: 2, Regs: 10, Objects: Slots(8), Blocks: l}
}

// blocks is blocks.
func blocks(l ...api.Block) []api.Block { return l }

// change is blocks, and what they become.
type change struct{ from, to []api.Block }

// hold holds a function against what it must make of procedures.
func hold(t *testing.T, f func(p api.Proc) api.Proc, changes map[string]change) {
	t.Helper()
	for name, x := range changes {
		from := proc(x.from...)
		kept := procs.Clone(from)
		if got := f(from); !procs.Equal(got, proc(x.to...)) {
			t.Errorf("%s:\n%s", name, ir.Text(got))
		}
		if !procs.Equal(from, kept) {
			t.Errorf("%s: changed", name)
		}
	}
}

// all is the functions of the package.
func all() map[string]func(p api.Proc) api.Proc {
	return map[string]func(p api.Proc) api.Proc{"Thread": shape.Thread, "Prune": shape.Prune, "Merge": shape.Merge, "Tidy": shape.Tidy}
}

// The example of the chapter.
func TestExample(t *testing.T) {
	hold(t, shape.Tidy, map[string]change{"": {
		blocks(Jump(1, Out(1)), Jump(2, Out(2)), Ret(3, Out(3))),
		blocks(Ret(3, Out(1), Out(2), Out(3))),
	}})
}

// Promise 19.1: what ends lead to.
func TestThread(t *testing.T) {
	hold(t, shape.Thread, map[string]change{
		"nothing":                           {nil, nil},
		"a return":                          {blocks(Ret(0)), blocks(Ret(0))},
		"a return without a register":       {blocks(Ret(None)), blocks(Ret(None))},
		"none is trivial":                   {blocks(Branch(0, 1, 2), Jump(2, Out(1)), Ret(0)), blocks(Branch(0, 1, 2), Jump(2, Out(1)), Ret(0))},
		"a jump":                            {blocks(Jump(1, Out(1)), Jump(2), Ret(0)), blocks(Jump(2, Out(1)), Jump(2), Ret(0))},
		"the trivial one itself":            {blocks(Jump(1), Jump(2), Jump(3), Ret(0)), blocks(Jump(3), Jump(3), Jump(3), Ret(0))},
		"a trivial one that is not reached": {blocks(Ret(0), Jump(2), Jump(3), Ret(1)), blocks(Ret(0), Jump(3), Jump(3), Ret(1))},
		"To":                                {blocks(Branch(1, 1, 2), Jump(3), Ret(0), Ret(1)), blocks(Branch(1, 3, 2), Jump(3), Ret(0), Ret(1))},
		"Else":                              {blocks(Branch(1, 1, 2), Ret(0), Jump(3), Ret(1)), blocks(Branch(1, 1, 3), Ret(0), Jump(3), Ret(1))},
		"To and Else":                       {blocks(Branch(1, 2, 1), Jump(4), Jump(3), Ret(0), Ret(1)), blocks(Branch(1, 3, 4), Jump(4), Jump(3), Ret(0), Ret(1))},
		"To and Else become equal":          {blocks(Branch(1, 2, 1, Out(1)), Jump(3), Jump(3), Ret(0)), blocks(Jump(3, Out(1)), Jump(3), Jump(3), Ret(0))},
		"one of them becomes the other":     {blocks(Branch(1, 2, 1, Out(1)), Jump(2), Ret(0)), blocks(Jump(2, Out(1)), Jump(2), Ret(0))},
		"To and Else are equal":             {blocks(Branch(1, 1, 1, Out(1)), Ret(0)), blocks(Jump(1, Out(1)), Ret(0))},
		"a branch to itself both ways":      {blocks(Branch(1, 0, 0)), blocks(Jump(0))},
		"what becomes trivial only then":    {blocks(Jump(1, Out(1)), Branch(0, 2, 2), Ret(0)), blocks(Jump(1, Out(1)), Jump(2), Ret(0))},
		"to itself":                         {blocks(Jump(1, Out(1)), Jump(1)), blocks(Jump(1, Out(1)), Jump(1))},
		"a chain to one that leads to itself": {blocks(Branch(0, 1, 3, Out(1)), Jump(2), Jump(3), Jump(3)),
			blocks(Jump(3, Out(1)), Jump(3), Jump(3), Jump(3))},
		"a cycle":                    {blocks(Branch(0, 3, 4, Out(1)), Jump(2), Jump(3), Jump(1), Ret(0)), blocks(Branch(0, 1, 4, Out(1)), Jump(1), Jump(1), Jump(1), Ret(0))},
		"a cycle with block 0":       {blocks(Jump(2), Jump(0), Jump(1)), blocks(Jump(0), Jump(0), Jump(0))},
		"a chain to a cycle":         {blocks(Jump(1), Jump(5), Jump(4), Ret(0), Jump(5), Jump(2)), blocks(Jump(2), Jump(2), Jump(2), Ret(0), Jump(2), Jump(2))},
		"two cycles":                 {blocks(Branch(0, 2, 4, Out(1)), Jump(2), Jump(1), Jump(4), Jump(3)), blocks(Branch(0, 1, 3, Out(1)), Jump(1), Jump(1), Jump(3), Jump(3))},
		"a chain with a lesser one":  {blocks(Jump(3, Out(0)), Jump(2), Jump(4), Jump(1), Jump(2)), blocks(Jump(2, Out(0)), Jump(2), Jump(2), Jump(2), Jump(2))},
		"a cycle of one that is not": {blocks(Jump(1), Jump(2, Mark()), Jump(1)), blocks(Jump(1), Jump(1, Mark()), Jump(1))},
	})
}

// Promise 19.2: what is reached.
func TestPrune(t *testing.T) {
	hold(t, shape.Prune, map[string]change{
		"nothing":             {nil, nil},
		"all":                 {blocks(Branch(3, 2, 1, Out(1)), Jump(2, Out(2)), Ret(0)), blocks(Branch(3, 2, 1, Out(1)), Jump(2, Out(2)), Ret(0))},
		"the last ones":       {blocks(Ret(None, Out(1)), Jump(0), Ret(None)), blocks(Ret(None, Out(1)))},
		"one between":         {blocks(Jump(2, Out(1)), Jump(2), Ret(4, Out(2))), blocks(Jump(1, Out(1)), Ret(4, Out(2)))},
		"every other one":     {blocks(Branch(1, 6, 2), Jump(2), Branch(2, 4, 0), Ret(1), Jump(6, Out(4)), Jump(4), Ret(3)), blocks(Branch(1, 3, 1), Branch(2, 2, 0), Jump(3, Out(4)), Ret(3))},
		"equal To and Else":   {blocks(Branch(1, 2, 2), Ret(0), Ret(1)), blocks(Branch(1, 1, 1), Ret(1))},
		"a cycle apart":       {blocks(Jump(3, Out(1)), Jump(2), Jump(1), Jump(3)), blocks(Jump(1, Out(1)), Jump(1))},
		"the order stays":     {blocks(Jump(4), Ret(0), Jump(3, Out(2)), Ret(3), Branch(0, 3, 2, Out(4))), blocks(Jump(3), Jump(2, Out(2)), Ret(3), Branch(0, 2, 1, Out(4)))},
		"trivial ones remain": {blocks(Jump(2), Ret(0), Jump(3), Ret(0)), blocks(Jump(1), Jump(2), Ret(0))},
	})
}

// Promise 19.3: what absorbs what.
func TestMerge(t *testing.T) {
	hold(t, shape.Merge, map[string]change{
		"nothing":              {nil, nil},
		"two":                  {blocks(Jump(1, Out(1)), Ret(2, Out(2))), blocks(Ret(2, Out(1), Out(2)), Ret(2, Out(2)))},
		"a branch's end":       {blocks(Jump(1, Out(1)), Branch(5, 2, 0, Out(2)), Ret(3)), blocks(Branch(5, 2, 0, Out(1), Out(2)), Branch(5, 2, 0, Out(2)), Ret(3))},
		"three":                {blocks(Jump(1, Out(1)), Jump(2, Out(2)), Ret(3, Out(3))), blocks(Ret(3, Out(1), Out(2), Out(3)), Jump(2, Out(2)), Ret(3, Out(3)))},
		"three, backward":      {blocks(Jump(2, Out(0)), Ret(1, Out(1)), Jump(1, Out(2))), blocks(Ret(1, Out(0), Out(2), Out(1)), Ret(1, Out(1)), Jump(1, Out(2)))},
		"a later absorber":     {blocks(Branch(0, 3, 4), Jump(2, Out(1)), Ret(2, Out(2)), Jump(1, Out(3)), Ret(4)), blocks(Branch(0, 3, 4), Ret(2, Out(1), Out(2)), Ret(2, Out(2)), Ret(2, Out(3), Out(1), Out(2)), Ret(4))},
		"without instructions": {blocks(Jump(1), Jump(2), Ret(2, Out(2))), blocks(Ret(2, Out(2)), Jump(2), Ret(2, Out(2)))},
		"a branch absorbs not": {blocks(Branch(0, 1, 1), Ret(0)), blocks(Branch(0, 1, 1), Ret(0))},
		"a return absorbs not": {blocks(Ret(0), Ret(1)), blocks(Ret(0), Ret(1))},
		"itself":               {blocks(Branch(0, 1, 2), Jump(1, Out(1)), Jump(2)), blocks(Branch(0, 1, 2), Jump(1, Out(1)), Jump(2))},
		"block 0":              {blocks(Branch(0, 1, 2), Jump(0, Out(1)), Ret(0)), blocks(Branch(0, 1, 2), Jump(0, Out(1)), Ret(0))},
		"a loop of two":        {blocks(Jump(1, Out(1)), Jump(0, Out(2))), blocks(Jump(0, Out(1), Out(2)), Jump(0, Out(2)))},
		"a loop behind":        {blocks(Jump(2, Out(0)), Jump(2, Out(1)), Jump(1, Out(2))), blocks(Jump(2, Out(0)), Jump(2, Out(1)), Jump(2, Out(2), Out(1)))},
		"two lead to it": {blocks(Branch(0, 1, 2), Jump(3, Out(1)), Jump(3, Out(2)), Ret(0, Out(3))),
			blocks(Branch(0, 1, 2), Jump(3, Out(1)), Jump(3, Out(2)), Ret(0, Out(3)))},
		"one of two is not reached": {blocks(Jump(2, Out(0)), Jump(2, Out(1)), Ret(0, Out(2))), blocks(Ret(0, Out(0), Out(2)), Jump(2, Out(1)), Ret(0, Out(2)))},
		"the other is a branch":     {blocks(Branch(0, 1, 2), Jump(2, Out(1)), Ret(0)), blocks(Branch(0, 1, 2), Jump(2, Out(1)), Ret(0))},
		"it leads to itself":        {blocks(Jump(1, Out(0)), Jump(1, Out(1))), blocks(Jump(1, Out(0)), Jump(1, Out(1)))},
		"it leads to itself too":    {blocks(Jump(1, Out(0)), Branch(0, 1, 2), Ret(0)), blocks(Jump(1, Out(0)), Branch(0, 1, 2), Ret(0))},
		"one that is not reached":   {blocks(Ret(0), Jump(2, Out(1)), Ret(0)), blocks(Ret(0), Jump(2, Out(1)), Ret(0))},
		"a diamond within a chain": {blocks(Jump(1, Out(0)), Branch(0, 2, 3, Out(1)), Jump(4, Out(2)), Jump(4, Out(3)), Jump(5, Out(4)), Ret(0, Out(5))),
			blocks(Branch(0, 2, 3, Out(0), Out(1)), Branch(0, 2, 3, Out(1)), Jump(4, Out(2)), Jump(4, Out(3)), Ret(0, Out(4), Out(5)), Ret(0, Out(5)))},
		"a cycle of trivial ones": {blocks(Jump(1), Jump(2), Jump(1)), blocks(Jump(1), Jump(1), Jump(1))},
		"all fields": {blocks(Jump(1, Log(Const(1, 7))), Ret(None, Store(1, 2, 3, 4), Call(5, 6, 7, 8), Bin(9, 1, 2, 3))),
			blocks(Ret(None, Log(Const(1, 7)), Store(1, 2, 3, 4), Call(5, 6, 7, 8), Bin(9, 1, 2, 3)), Ret(None, Store(1, 2, 3, 4), Call(5, 6, 7, 8), Bin(9, 1, 2, 3)))},
	})
}

// Promise 19.4: all of it.
func TestTidy(t *testing.T) {
	hold(t, shape.Tidy, map[string]change{
		"nothing":                       {nil, nil},
		"a return":                      {blocks(Ret(0, Out(1))), blocks(Ret(0, Out(1)))},
		"empty ways":                    {blocks(Branch(0, 1, 2, Out(0)), Jump(3), Jump(3), Ret(1, Out(3))), blocks(Ret(1, Out(0), Out(3)))},
		"a loop":                        {blocks(Jump(1, Out(0)), Branch(0, 2, 4), Jump(3, Out(2)), Jump(1, Out(3)), Ret(0)), blocks(Jump(1, Out(0)), Branch(0, 2, 3), Jump(1, Out(2), Out(3)), Ret(0))},
		"an empty loop":                 {blocks(Jump(1), Jump(2), Jump(0)), blocks(Jump(0))},
		"an empty loop behind":          {blocks(Jump(1, Out(0)), Jump(2), Jump(1)), blocks(Jump(1, Out(0)), Jump(1))},
		"what becomes trivial":          {blocks(Branch(0, 1, 3, Out(0)), Branch(0, 2, 3), Jump(3), Jump(4, Out(3)), Ret(0)), blocks(Ret(0, Out(0), Out(3)))},
		"what becomes so in the end":    {blocks(Branch(0, 1, 2), Branch(0, 3, 3), Jump(3, Out(2)), Ret(0)), blocks(Branch(0, 1, 2), Jump(3), Jump(3, Out(2)), Ret(0))},
		"a branch that is none":         {blocks(Branch(1, 0, 0, Out(1))), blocks(Jump(0, Out(1)))},
		"what is not reached is not so": {blocks(Ret(0), Jump(1)), blocks(Ret(0))},
		"a pred that is not reached":    {blocks(Jump(2, Out(0)), Jump(2), Ret(0, Out(2))), blocks(Ret(0, Out(0), Out(2)))},
	})
}

// Promise 19.5: as much as a procedure has at most. Each block absorbs one of a lower number, so that were all kept there would be far too much.
func TestLargest(t *testing.T) {
	p := proc()
	for n := range ir.MaxBlocks {
		b := Jump(n-1, Out(1), Out(2), Out(3), Out(4), Out(5))
		switch n {
		case 0:
			b.To = ir.MaxBlocks - 1
		case 1:
			b = Ret(0, b.Ins...)
		}
		p.Blocks = append(p.Blocks, b)
	}
	m := api.Module{Procs: []api.Proc{p}}
	m.Procs[0].Params = 0
	for name, f := range all() {
		q := f(m.Procs[0])
		if e := ir.Check(api.Module{Procs: []api.Proc{q}}); e != api.OK {
			t.Errorf("%s: %v", name, e)
		}
		want := map[string]int{"Thread": 5, "Prune": 5, "Merge": ir.MaxIns, "Tidy": ir.MaxIns}[name]
		if got := len(q.Blocks[0].Ins); got != want {
			t.Errorf("%s: %d instructions, not %d", name, got, want)
		}
		if count := len(q.Blocks); name != "Tidy" && count != ir.MaxBlocks || name == "Tidy" && count != 1 {
			t.Errorf("%s: %d blocks", name, count)
		}
	}
}

// Promise 19.3: absorbed blocks keep their instructions as long as a procedure may have them, and block 0 has all in any case.
func TestKept(t *testing.T) {
	for _, x := range []struct{ first, second, kept int }{{1, ir.MaxIns/2 - 1, ir.MaxIns/2 - 1}, {0, ir.MaxIns / 2, ir.MaxIns / 2}, {1, ir.MaxIns / 2, 0}, {0, ir.MaxIns, 0}} {
		p := proc(Jump(1), Ret(0))
		for range x.first {
			p.Blocks[0].Ins = append(p.Blocks[0].Ins, Out(1))
		}
		for range x.second {
			p.Blocks[1].Ins = append(p.Blocks[1].Ins, Out(2))
		}
		q := shape.Merge(p)
		if len(q.Blocks) != 2 || len(q.Blocks[0].Ins) != x.first+x.second || len(q.Blocks[1].Ins) != x.kept || q.Blocks[0].End != api.EndRet {
			t.Errorf("%v: %d, %d", x, len(q.Blocks[0].Ins), len(q.Blocks[1].Ins))
		}
	}
}

// Promise 19.4 and rule R1: rounds of which each makes one more block trivial.
func TestManyRounds(t *testing.T) {
	const count = 1000
	p := proc(Branch(0, 1, 2, Out(0)))
	for n := 1; n < count-2; n++ {
		p.Blocks = append(p.Blocks, Branch(0, n+1, count-1))
	}
	p.Blocks = append(p.Blocks, Jump(count-1), Ret(0, Out(1)))
	if q := shape.Tidy(p); !procs.Equal(q, proc(Ret(0, Out(0), Out(1)))) {
		t.Errorf("%d blocks", len(q.Blocks))
	}
}

// Rule R1: procedures that are not valid, of which nothing is promised but that a call ends.
func TestNotValid(t *testing.T) {
	for _, to := range []int{-1, 2, math.MaxInt, math.MinInt} {
		for _, end := range []int{0, api.EndJump, api.EndBranch, api.EndRet, 4, -1} {
			for name, f := range all() {
				if q := f(proc(api.Block{End: end, A: to, To: to, Else: to}, Jump(to))); len(q.Blocks) < 1 || len(q.Blocks) > 2 {
					t.Errorf("%s: %v", name, q)
				}
				f(proc(Branch(0, 1, to), Branch(to, to, 0)))
				f(api.Proc{Params: to, Regs: to})
			}
		}
	}
}

// Rule R3: nothing is written behind the instructions of a block that is handed in, where there may be room.
func TestRoom(t *testing.T) {
	for name, f := range all() {
		room := make([]api.Ins, 9)
		p := proc(Jump(1, Out(1)), Ret(0, Out(2)))
		p.Blocks[0].Ins = append(room[:0], p.Blocks[0].Ins...)
		if f(p); room[1].Op != 0 {
			t.Errorf("%s: %v", name, room)
		}
	}
}

// Rule R3: an answer shares nothing with what was handed in, nor do two of its lists.
func TestSharing(t *testing.T) {
	make := func() api.Proc {
		return proc(Jump(1, Call(1, 0, 5, 6)), Jump(2, Call(2, 0, 7, 8)), Branch(0, 3, 4, Call(3, 0, 5)), Ret(0, Out(1)), Ret(0, Out(2)))
	}
	for name, f := range all() {
		p := make()
		q := f(p)
		was := procs.Clone(q)
		q.Objects[0].Size = 99
		for n := range q.Blocks {
			for k := range q.Blocks[n].Ins {
				q.Blocks[n].Ins[k].Num = 99
				clear(q.Blocks[n].Ins[k].Args)
			}
			_ = append(q.Blocks[n].Ins, Mark())
		}
		if !procs.Equal(p, make()) {
			t.Errorf("%s: the procedure was changed", name)
		}
		if !procs.Equal(f(p), was) {
			t.Errorf("%s: another answer", name)
		}
		q = f(p)
		for n := range q.Blocks {
			for k := range q.Blocks[n].Ins {
				i := q.Blocks[n].Ins[k]
				q.Blocks[n].Ins[k] = Mark()
				for j := range i.Args {
					i.Args[j] = -5
				}
			}
			if slices.ContainsFunc(q.Blocks[n:], func(b api.Block) bool {
				return slices.ContainsFunc(b.Ins, func(i api.Ins) bool { return slices.Contains(i.Args, -5) })
			}) {
				t.Errorf("%s: two lists share something", name)
			}
		}
	}
}
