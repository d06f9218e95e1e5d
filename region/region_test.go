package region_test

import (
	"math"
	"slices"
	"testing"

	"rushlight/api"
	"rushlight/ir"
	"rushlight/procs"
	"rushlight/region"
	. "rushlight/sketch"
)

// module is a module of a main with 10 registers and these blocks, and of procedures that may be called: number 1 has a parameter, number 2 is Void.
// It has two globals.
func module(l ...api.Block) api.Module {
	m := WithGlobals(Main(l...), 40, 40)
	m.Procs[0].Objects = Slots(8)
	m.Procs = append(m.Procs, api.Proc{Params: 1, Regs: 1, Blocks: []api.Block{Ret(0)}}, api.Proc{Void: true, Blocks: []api.Block{Ret(None)}})
	return m
}

// main is the main of such a module, which is valid.
func main(t *testing.T, l ...api.Block) api.Proc {
	t.Helper()
	m := module(l...)
	if e := ir.Check(m); e != api.OK {
		t.Fatalf("not valid: %s", ir.Text(m.Procs[0]))
	}
	return m.Procs[0]
}

// blocks is blocks.
func blocks(l ...api.Block) []api.Block { return l }

// store is a store to a word of global 0, the address of which register 0 is, and load a load of it.
func store(n int) api.Ins { return Store(0, 9, 4*n, 4) }
func load(n int) api.Ins  { return Load(8, 0, 4*n, 4) }

// noted is instructions with Log.
func noted(l ...api.Ins) []api.Ins {
	var noted []api.Ins
	for _, i := range l {
		noted = append(noted, Log(i))
	}
	return noted
}

// The example of the chapter.
func TestExample(t *testing.T) {
	ins := []api.Ins{Global(0, 0, 0), load(0), store(0)}
	p, e := region.Plan(module(Ret(9, ins...)), 0, nil, 64)
	if e != api.OK || !slices.EqualFunc(p.Blocks, blocks(Ret(9, Mark(), ins[0], ins[1], Log(ins[2]))), same) {
		t.Errorf("%v: %s", e, ir.Text(p))
	}
	if n, e := region.Most(p); n != 1 || e != api.OK {
		t.Errorf("Most: %d, %v", n, e)
	}
}

// same reports whether two blocks are the same.
func same(a, b api.Block) bool {
	return procs.Equal(api.Proc{Blocks: blocks(a)}, api.Proc{Blocks: blocks(b)})
}

// Promise 23.1: where the base marks are.
func TestBase(t *testing.T) {
	call, void := Call(1, 1, 2), Call(None, 2)
	for name, x := range map[string]struct{ from, to []api.Block }{
		"the start":                        {blocks(Ret(0, Const(0, 1))), blocks(Ret(0, Mark(), Const(0, 1)))},
		"no instructions":                  {blocks(Ret(0)), blocks(Ret(0, Mark()))},
		"a mark at the start":              {blocks(Ret(0, Mark(), Const(0, 1))), blocks(Ret(0, Mark(), Const(0, 1)))},
		"marks at the start":               {blocks(Ret(0, Mark(), Mark(), Mark())), blocks(Ret(0, Mark()))},
		"a mark elsewhere":                 {blocks(Ret(0, Const(0, 1), Mark(), Mark(), Const(1, 1), Mark())), blocks(Ret(0, Mark(), Const(0, 1), Mark(), Const(1, 1), Mark()))},
		"a call":                           {blocks(Ret(0, Const(2, 1), call, Const(0, 1))), blocks(Ret(0, Mark(), Const(2, 1), Mark(), call, Mark(), Const(0, 1)))},
		"a call at the start":              {blocks(Ret(0, void)), blocks(Ret(0, Mark(), void, Mark()))},
		"calls":                            {blocks(Ret(0, void, call, void)), blocks(Ret(0, Mark(), void, Mark(), call, Mark(), void, Mark()))},
		"a call with marks":                {blocks(Ret(0, Mark(), void, Mark(), Mark(), call)), blocks(Ret(0, Mark(), void, Mark(), call, Mark()))},
		"an output":                        {blocks(Ret(0, Const(2, 1), Out(2), Const(0, 1))), blocks(Ret(0, Mark(), Const(2, 1), Out(2), Mark(), Const(0, 1)))},
		"outputs":                          {blocks(Ret(0, Out(2), Out(2))), blocks(Ret(0, Mark(), Out(2), Mark(), Out(2), Mark()))},
		"an output with a mark":            {blocks(Ret(0, Out(2), Mark(), Out(2))), blocks(Ret(0, Mark(), Out(2), Mark(), Out(2), Mark()))},
		"an input":                         {blocks(Ret(0, In(0), Const(1, 1))), blocks(Ret(0, Mark(), In(0), Mark(), Const(1, 1)))},
		"an output and a call":             {blocks(Ret(0, Out(2), void)), blocks(Ret(0, Mark(), Out(2), Mark(), void, Mark()))},
		"a load and a store":               {blocks(Ret(9, Global(0, 0, 0), load(0), store(0))), blocks(Ret(9, Mark(), Global(0, 0, 0), load(0), store(0)))},
		"a block that is led to forward":   {blocks(Jump(1), Ret(0)), blocks(Jump(1, Mark()), Ret(0))},
		"a loop":                           {blocks(Jump(1), Branch(9, 2, 3), Jump(1), Ret(0)), blocks(Jump(1, Mark()), Branch(9, 2, 3, Mark()), Jump(1), Ret(0))},
		"a loop of one block":              {blocks(Jump(1), Branch(9, 1, 2, Out(9)), Ret(0)), blocks(Jump(1, Mark()), Branch(9, 1, 2, Mark(), Out(9), Mark()), Ret(0))},
		"a loop to the start":              {blocks(Branch(9, 0, 1), Ret(0)), blocks(Branch(9, 0, 1, Mark()), Ret(0))},
		"a loop entered twice":             {blocks(Branch(9, 2, 1), Branch(9, 2, 3), Branch(9, 1, 3), Ret(0)), blocks(Branch(9, 2, 1, Mark()), Branch(9, 2, 3), Branch(9, 1, 3, Mark()), Ret(0))},
		"backward, but no back edge":       {blocks(Jump(2), Ret(0), Jump(1)), blocks(Jump(2, Mark()), Ret(0), Jump(1))},
		"a loop that is not reached":       {blocks(Ret(0), Jump(1), Jump(0)), blocks(Ret(0, Mark()), Jump(1), Jump(0))},
		"calls that are not reached":       {blocks(Ret(0), Ret(0, void, Out(0), In(0), Mark(), Mark())), blocks(Ret(0, Mark()), Ret(0, Mark(), void, Mark(), Out(0), Mark(), In(0), Mark()))},
		"marks at the ends of blocks stay": {blocks(Jump(1, Mark()), Branch(9, 1, 2, Mark(), Mark()), Ret(0, Mark())), blocks(Jump(1, Mark()), Branch(9, 1, 2, Mark()), Ret(0, Mark()))},
		"Log stays":                        {blocks(Ret(0, noted(store(0), In(1), call)...)), blocks(Ret(0, Mark(), Log(store(0)), Log(In(1)), Mark(), Log(call), Mark()))},
	} {
		p := main(t, x.from...)
		kept := procs.Clone(p)
		q := region.Base(p)
		if want := main(t, x.to...); !procs.Equal(q, want) || !procs.Equal(p, kept) {
			t.Errorf("%s:\n%s", name, ir.Text(q))
		}
		if again := region.Base(q); !procs.Equal(again, q) {
			t.Errorf("%s, again:\n%s", name, ir.Text(again))
		}
	}
	if p := region.Base(api.Proc{}); len(p.Blocks) > 0 {
		t.Errorf("of nothing: %v", p)
	}
}

// Promise 23.1: Bare.
func TestBare(t *testing.T) {
	p := main(t, Jump(1, Mark(), Log(Const(0, 1)), Mark(), Mark(), store(0), Log(store(1)), Mark()), Ret(9, Mark()), Ret(9, Log(Call(1, 1, 2)), Out(2)))
	kept := procs.Clone(p)
	q := region.Bare(p)
	if want := main(t, Jump(1, Const(0, 1), store(0), store(1)), Ret(9), Ret(9, Call(1, 1, 2), Out(2))); !procs.Equal(q, want) || !procs.Equal(p, kept) {
		t.Errorf("%s", ir.Text(q))
	}
	if p := region.Bare(api.Proc{}); len(p.Blocks) > 0 {
		t.Errorf("of nothing: %v", p)
	}
}

// Promise 23.1: how many notes a region has at most.
func TestMost(t *testing.T) {
	note, two := Log(store(0)), Log(In(1))
	for name, x := range map[string]struct {
		blocks []api.Block
		want   int
		e      api.Errno
	}{
		"nothing":                             {blocks(Ret(0)), 0, api.OK},
		"a note":                              {blocks(Ret(0, note)), 1, api.OK},
		"no note":                             {blocks(Ret(0, store(0), Const(1, 1))), 0, api.OK},
		"an output":                           {blocks(Ret(0, Out(1))), 1, api.OK},
		"an input":                            {blocks(Ret(0, In(1))), 1, api.OK},
		"an input with Log":                   {blocks(Ret(0, two)), 2, api.OK},
		"a register with Log":                 {blocks(Ret(0, Log(Const(0, 1)))), 1, api.OK},
		"a sum":                               {blocks(Ret(0, note, Out(1), two, note)), 5, api.OK},
		"marks":                               {blocks(Ret(0, note, note, Mark(), note, note, note, Mark(), note)), 3, api.OK},
		"calls":                               {blocks(Ret(0, note, note, Call(1, 1, 2), note)), 2, api.OK},
		"a call with Log, behind it":          {blocks(Ret(0, note, note, Log(Call(1, 1, 2)), note, note)), 3, api.OK},
		"a call with Log alone":               {blocks(Ret(0, Log(Call(1, 1, 2)), Mark(), Out(1))), 1, api.OK},
		"blocks":                              {blocks(Jump(1, note, note), Ret(0, note)), 3, api.OK},
		"a mark between blocks":               {blocks(Jump(1, note, note), Ret(0, Mark(), note)), 2, api.OK},
		"a mark at the end":                   {blocks(Jump(1, note, note, Mark()), Ret(0, note, Mark())), 2, api.OK},
		"the longer of two ways":              {blocks(Branch(9, 1, 2, note), Jump(3, note), Jump(3, note, note), Ret(0, note)), 4, api.OK},
		"a shorter one without a mark":        {blocks(Branch(9, 1, 2, note), Jump(3, note), Jump(3, note, note, Mark()), Ret(0, note)), 3, api.OK},
		"a branch past a block":               {blocks(Branch(9, 1, 2, note), Jump(2, note), Ret(0, note)), 3, api.OK},
		"what is not reached":                 {blocks(Ret(0, note), Ret(0, note, note)), 1, api.OK},
		"what is not reached leads on":        {blocks(Jump(1, note), Ret(0, note), Jump(1, note, note)), 2, api.OK},
		"a cycle":                             {blocks(Jump(1), Jump(1)), 0, api.ErrRule},
		"a cycle with the start":              {blocks(Jump(0)), 0, api.ErrRule},
		"a cycle of notes":                    {blocks(Jump(1, note), Jump(0, note)), 0, api.ErrRule},
		"a cycle with a call":                 {blocks(Jump(1, note), Jump(0, note, Call(None, 2))), 2, api.OK},
		"a cycle with a mark":                 {blocks(Jump(1, note, note), Jump(0, note, Mark(), note)), 4, api.OK},
		"a cycle with a mark, over its end":   {blocks(Branch(9, 1, 3), Branch(9, 2, 3, note, Mark()), Jump(1, note, note), Ret(0)), 3, api.OK},
		"over the ends of nested cycles":      {blocks(Jump(1), Branch(9, 2, 5, note, note, note, Mark()), Branch(9, 3, 4, note), Jump(2, note, Mark(), note, note), Jump(1, note, note), Ret(0)), 8, api.OK},
		"a cycle past the mark":               {blocks(Jump(1), Branch(9, 2, 3), Jump(1, Mark()), Branch(9, 1, 4), Ret(0)), 0, api.ErrRule},
		"a cycle that is not reached":         {blocks(Ret(0), Jump(1, note)), 0, api.OK},
		"a cycle that is not, and leads on":   {blocks(Ret(0, note), Branch(9, 1, 0, note)), 1, api.OK},
		"two ways are no cycle":               {blocks(Branch(9, 1, 2), Jump(2), Ret(0)), 0, api.OK},
		"a branch to one block is no cycle":   {blocks(Branch(9, 1, 1), Ret(0)), 0, api.OK},
		"a return to the start is no cycle":   {blocks(Jump(1, note), Ret(0, note)), 2, api.OK},
		"an output in a cycle is no boundary": {blocks(Jump(1), Branch(9, 1, 2, Out(1)), Ret(0)), 0, api.ErrRule},
	} {
		if n, e := region.Most(main(t, x.blocks...)); n != x.want || e != x.e {
			t.Errorf("%s: %d, %v", name, n, e)
		}
	}
	if n, e := region.Most(api.Proc{}); n != 0 || e != api.OK {
		t.Errorf("of nothing: %d, %v", n, e)
	}
}

// Promise 23.2: plans. Register 0 is the address of global 0, 5 to 7 are spilled.
func TestPlan(t *testing.T) {
	g, spilled := Global(0, 0, 0), []bool{5: true, 6: true, 7: true}
	for name, x := range map[string]struct {
		notes    int
		from, to []api.Block
	}{
		"no notes":                         {1, blocks(Ret(9, g, store(0), load(0))), blocks(Ret(9, Mark(), g, store(0), load(0)))},
		"one note":                         {1, blocks(Ret(9, g, load(0), store(0))), blocks(Ret(9, Mark(), g, load(0), Log(store(0))))},
		"Log that need not be":             {1, blocks(Ret(9, noted(g, store(0), Const(1, 1))...)), blocks(Ret(9, Mark(), g, store(0), Const(1, 1)))},
		"one too many, which is no hazard": {1, blocks(Ret(9, g, load(0), load(1), store(0), store(1))), blocks(Ret(9, Mark(), g, load(0), load(1), Log(store(0)), Mark(), store(1)))},
		"one too many, and others behind":  {1, blocks(Ret(9, g, load(0), load(1), load(2), store(0), store(1), store(2))), blocks(Ret(9, Mark(), g, load(0), load(1), load(2), Log(store(0)), Mark(), store(1), store(2)))},
		"as many as there may be":          {2, blocks(Ret(9, g, load(0), load(1), store(0), store(1))), blocks(Ret(9, Mark(), g, load(0), load(1), Log(store(0)), Log(store(1))))},
		"one too many of three":            {2, blocks(Ret(9, g, load(0), load(1), load(2), store(0), store(1), store(2))), blocks(Ret(9, Mark(), g, load(0), load(1), load(2), Log(store(0)), Log(store(1)), Mark(), store(2)))},
		"hazards of themselves":            {2, blocks(Ret(9, Copy(5, 5), Copy(6, 6), Copy(7, 7), Un(api.FnNeg, 5, 5), Copy(6, 6))), blocks(Ret(9, Mark(), Log(Copy(5, 5)), Log(Copy(6, 6)), Mark(), Log(Copy(7, 7)), Log(Un(api.FnNeg, 5, 5)), Mark(), Log(Copy(6, 6))))},
		"an output":                        {1, blocks(Ret(9, Copy(5, 5), Out(9), Copy(5, 5), In(1))), blocks(Ret(9, Mark(), Log(Copy(5, 5)), Mark(), Out(9), Mark(), Log(Copy(5, 5)), Mark(), In(1), Mark()))},
		"an output that fits":              {2, blocks(Ret(9, Copy(5, 5), Out(9), Copy(5, 5), In(1))), blocks(Ret(9, Mark(), Log(Copy(5, 5)), Out(9), Mark(), Log(Copy(5, 5)), In(1), Mark()))},
		"an input with two notes":          {2, blocks(Ret(9, Copy(1, 5), In(5))), blocks(Ret(9, Mark(), Copy(1, 5), Log(In(5)), Mark()))},
		"an input with one too many":       {1, blocks(Ret(9, Copy(1, 5), In(5))), blocks(Ret(9, Mark(), Copy(1, 5), Mark(), In(5), Mark()))},
		"an input behind another note":     {2, blocks(Ret(9, Copy(6, 6), Copy(1, 5), In(5))), blocks(Ret(9, Mark(), Log(Copy(6, 6)), Copy(1, 5), Mark(), In(5), Mark()))},
		"an answer":                        {1, blocks(Ret(9, Copy(6, 6), Copy(1, 5), Log(Call(5, 1, 5)))), blocks(Ret(9, Mark(), Log(Copy(6, 6)), Copy(1, 5), Mark(), Call(5, 1, 5), Mark()))},
		"blocks":                           {2, blocks(Jump(1, Copy(5, 5), Copy(6, 6)), Ret(9, Const(1, 1), Copy(7, 7), Copy(5, 5))), blocks(Jump(1, Mark(), Log(Copy(5, 5)), Log(Copy(6, 6))), Ret(9, Const(1, 1), Mark(), Log(Copy(7, 7)), Log(Copy(5, 5))))},
		"hazards over blocks":              {1, blocks(Jump(1, Copy(1, 5), Copy(6, 6)), Ret(9, In(5))), blocks(Jump(1, Mark(), Copy(1, 5), Log(Copy(6, 6))), Ret(9, Mark(), In(5), Mark()))},
		"the longer of two ways": {2, blocks(Branch(9, 1, 2), Jump(3, Copy(5, 5)), Jump(3, Copy(6, 6), Copy(6, 6)), Ret(9, Copy(7, 7), Copy(7, 7))),
			blocks(Branch(9, 1, 2, Mark()), Jump(3, Log(Copy(5, 5))), Jump(3, Log(Copy(6, 6)), Log(Copy(6, 6))), Ret(9, Mark(), Log(Copy(7, 7)), Log(Copy(7, 7))))},
		"a mark on one of two ways": {2, blocks(Branch(9, 1, 2), Jump(3, Copy(5, 5), Mark()), Jump(3, Copy(6, 6)), Ret(9, Copy(7, 7), Copy(7, 7))),
			blocks(Branch(9, 1, 2, Mark()), Jump(3, Log(Copy(5, 5)), Mark()), Jump(3, Log(Copy(6, 6))), Ret(9, Log(Copy(7, 7)), Mark(), Log(Copy(7, 7))))},
		"the order is not that of the numbers": {1, blocks(Jump(2, Copy(5, 5)), Ret(9, Copy(6, 6)), Jump(1, Copy(7, 7))), blocks(Jump(2, Mark(), Log(Copy(5, 5))), Ret(9, Mark(), Log(Copy(6, 6))), Jump(1, Mark(), Log(Copy(7, 7))))},
		"a mark where it comes first in the order": {2, blocks(Jump(2, Copy(5, 5)), Ret(9, Copy(6, 6)), Jump(1, Copy(7, 7), Copy(5, 5))),
			blocks(Jump(2, Mark(), Log(Copy(5, 5))), Ret(9, Log(Copy(6, 6))), Jump(1, Log(Copy(7, 7)), Mark(), Log(Copy(5, 5))))},
		"a loop": {2, blocks(Jump(1, Copy(5, 5)), Branch(9, 1, 2, Copy(6, 6), Copy(7, 7)), Ret(9, Copy(5, 5))),
			blocks(Jump(1, Mark(), Log(Copy(5, 5))), Branch(9, 1, 2, Mark(), Log(Copy(6, 6)), Log(Copy(7, 7))), Ret(9, Mark(), Log(Copy(5, 5))))},
		"a register read at the end of a loop": {2, blocks(Branch(5, 0, 1, Const(5, 1)), Ret(9, Const(5, 1))), blocks(Branch(5, 0, 1, Mark(), Const(5, 1)), Ret(9, Log(Const(5, 1))))},
		"what is not reached": {1, blocks(Ret(9), Ret(9, Copy(5, 5), Copy(5, 5), Log(Const(1, 1)), Out(1))),
			blocks(Ret(9, Mark()), Ret(9, Log(Copy(5, 5)), Log(Copy(5, 5)), Const(1, 1), Out(1), Mark()))},
		"what is not reached reads": {1, blocks(Jump(1, Copy(6, 6)), Ret(9, Const(5, 1)), Jump(1, Copy(1, 5))),
			blocks(Jump(1, Mark(), Log(Copy(6, 6))), Ret(9, Mark(), Const(5, 1)), Jump(1, Copy(1, 5)))},
		"what is not reached has no notes for others": {1, blocks(Jump(1), Ret(9, Copy(6, 6)), Jump(1, Copy(5, 5))),
			blocks(Jump(1, Mark()), Ret(9, Log(Copy(6, 6))), Jump(1, Log(Copy(5, 5))))},
		"what is not reached, in a loop": {2, blocks(Jump(1), Ret(9, Const(5, 1)), Jump(3, Const(5, 1)), Branch(5, 2, 1)),
			blocks(Jump(1, Mark()), Ret(9, Log(Const(5, 1))), Jump(3, Log(Const(5, 1))), Branch(5, 2, 1))},
		"marks that stand already": {1, blocks(Ret(9, Mark(), Copy(5, 5), Mark(), Mark(), Copy(5, 5))), blocks(Ret(9, Mark(), Log(Copy(5, 5)), Mark(), Log(Copy(5, 5))))},
	} {
		main(t, x.from...)
		m := module(x.from...)
		p, e := region.Plan(m, 0, spilled, x.notes)
		if want := main(t, x.to...); e != api.OK || !procs.Equal(p, want) {
			t.Errorf("%s: %v\n%s", name, e, ir.Text(p))
		}
		if !procs.Equal(m.Procs[0], module(x.from...).Procs[0]) {
			t.Errorf("%s: changed", name)
		}
		m.Procs[0] = p
		if !region.Valid(m, 0, spilled, x.notes) {
			t.Errorf("%s: not valid", name)
		}
		if again, _ := region.Plan(m, 0, spilled, x.notes); !procs.Equal(again, p) {
			t.Errorf("%s, again:\n%s", name, ir.Text(again))
		}
	}
}

// Promise 23.2: what Plan refuses.
func TestPlanRefuses(t *testing.T) {
	m := module(Ret(0))
	for _, n := range []int{-1, 0, 2, 3, math.MaxInt, math.MinInt} {
		for notes, right := range map[int]bool{math.MinInt: false, -1: false, 0: false, 1: true, 2: true, 64: true, 65: false, math.MaxInt: false} {
			want := api.OK
			if n < 0 || n > 2 {
				want = api.ErrNone
			} else if !right {
				want = api.ErrArg
			}
			p, e := region.Plan(m, n, nil, notes)
			if e != want || (len(p.Blocks) > 0) != (e == api.OK) || e != api.OK && !procs.Equal(p, api.Proc{}) {
				t.Errorf("procedure %d with %d notes: %v", n, notes, e)
			}
		}
	}
	if _, e := region.Plan(api.Module{}, 0, nil, 1); e != api.ErrNone {
		t.Errorf("without procedures: %v", e)
	}
	if region.MaxNotes != 64 {
		t.Errorf("MaxNotes: %d", region.MaxNotes)
	}
}

// Promise 23.3: what is valid, with two notes. Register 0 is the address of global 0, 5 is spilled.
func TestValid(t *testing.T) {
	g, spilled := Global(0, 0, 0), []bool{5: true}
	for name, x := range map[string]struct {
		blocks []api.Block
		want   bool
	}{
		"the least":                         {blocks(Ret(9, Mark())), true},
		"no mark at the start":              {blocks(Ret(9)), false},
		"a mark too late":                   {blocks(Ret(9, Const(1, 1), Mark())), false},
		"marks twice":                       {blocks(Ret(9, Mark(), Mark(), Out(1), Mark(), Mark())), true},
		"a call":                            {blocks(Ret(9, Mark(), Call(None, 2), Mark())), true},
		"no mark behind a call":             {blocks(Ret(9, Mark(), Call(None, 2), Const(1, 1), Mark())), false},
		"no mark behind a call at the end":  {blocks(Ret(9, Mark(), Call(None, 2))), false},
		"no mark ahead of a call":           {blocks(Ret(9, Mark(), Const(1, 1), Call(None, 2), Mark())), false},
		"no mark at the block of a call":    {blocks(Jump(1, Mark()), Ret(9, Call(None, 2), Mark())), false},
		"no mark between calls":             {blocks(Ret(9, Mark(), Call(None, 2), Call(None, 2), Mark())), false},
		"one mark between calls":            {blocks(Ret(9, Mark(), Call(None, 2), Mark(), Call(None, 2), Mark())), true},
		"no mark behind an output":          {blocks(Ret(9, Mark(), Out(1), Const(1, 1))), false},
		"no mark behind an input":           {blocks(Ret(9, Mark(), In(1))), false},
		"no mark there, but in the next":    {blocks(Jump(1, Mark(), In(1)), Ret(9, Mark())), false},
		"a mark there":                      {blocks(Ret(9, Mark(), In(1), Mark(), Out(1), Mark())), true},
		"no mark in a loop":                 {blocks(Jump(1, Mark()), Branch(9, 1, 2), Ret(9)), false},
		"a mark in a loop":                  {blocks(Jump(1, Mark()), Branch(9, 1, 2, Mark()), Ret(9)), true},
		"a mark at the end of a loop":       {blocks(Jump(1, Mark()), Branch(9, 1, 2, Const(1, 1), Mark()), Ret(9)), false},
		"no mark in what is not reached":    {blocks(Ret(9, Mark()), Jump(1)), true},
		"no mark behind an output, there":   {blocks(Ret(9, Mark()), Ret(9, Out(1))), false},
		"a hazard with Log":                 {blocks(Ret(9, Mark(), g, load(0), Log(store(0)))), true},
		"a hazard without":                  {blocks(Ret(9, Mark(), g, load(0), store(0))), false},
		"a hazard without, not reached":     {blocks(Ret(9, Mark()), Ret(9, Copy(5, 5))), false},
		"a hazard with, not reached":        {blocks(Ret(9, Mark()), Ret(9, Log(Copy(5, 5)))), true},
		"a register without Log":            {blocks(Ret(9, Mark(), Copy(5, 5))), false},
		"a register with Log":               {blocks(Ret(9, Mark(), Log(Copy(5, 5)))), true},
		"one of two hazards without":        {blocks(Ret(9, Mark(), Log(Copy(5, 5)), Copy(5, 5))), false},
		"a register that is not spilled":    {blocks(Ret(9, Mark(), Copy(4, 4))), true},
		"Log without a hazard":              {blocks(Ret(9, Mark(), Log(Copy(4, 4)), Log(store(0)))), true},
		"too many notes":                    {blocks(Ret(9, Mark(), Log(Copy(4, 4)), Log(store(0)), Log(store(1)))), false},
		"too many notes with an output":     {blocks(Ret(9, Mark(), Log(Copy(4, 4)), Log(store(0)), Out(1), Mark())), false},
		"as many with an output":            {blocks(Ret(9, Mark(), Log(store(0)), Out(1), Mark())), true},
		"a mark between notes":              {blocks(Ret(9, Mark(), Log(Copy(4, 4)), Log(store(0)), Mark(), Log(store(1)))), true},
		"too many notes, over blocks":       {blocks(Jump(1, Mark(), Log(Copy(4, 4)), Log(store(0))), Ret(9, Log(store(1)))), false},
		"too many notes, not reached":       {blocks(Ret(9, Mark()), Ret(9, Log(Copy(4, 4)), Log(store(0)), Log(store(1)))), true},
		"a note more than a call has there": {blocks(Ret(9, Mark(), Log(Call(4, 1, 4)), Mark(), Log(store(0)), Log(store(1)))), true},
		"a cycle past all marks":            {blocks(Jump(2, Mark()), Jump(1), Branch(9, 1, 0)), false},
	} {
		main(t, x.blocks...)
		if got := region.Valid(module(x.blocks...), 0, spilled, 2); got != x.want {
			t.Errorf("%s: %v", name, got)
		}
	}
}

// Promise 23.3: numbers of notes, and procedures that do not exist.
func TestValidNumbers(t *testing.T) {
	m := module(Ret(9, Mark(), Log(Const(1, 1)), Log(Const(1, 1)), Log(Const(1, 1))))
	for notes, want := range map[int]bool{math.MinInt: false, -1: false, 0: false, 2: false, 3: true, 64: true, 65: true, math.MaxInt: true} {
		if region.Valid(m, 0, nil, notes) != want {
			t.Errorf("with %d notes: %v", notes, !want)
		}
	}
	if m := module(Ret(9, Mark())); !region.Valid(m, 0, nil, 0) || region.Valid(m, 0, nil, -1) {
		t.Errorf("without notes")
	}
	for _, n := range []int{-1, 3, math.MaxInt, math.MinInt} {
		if region.Valid(m, n, nil, 3) {
			t.Errorf("procedure %d", n)
		}
	}
	if region.Valid(api.Module{}, 0, nil, 3) {
		t.Errorf("without procedures")
	}
}

// Rule R3: results share nothing with arguments.
func TestShared(t *testing.T) {
	made := func() api.Module { return module(Ret(9, Call(1, 1, 2), Copy(5, 5)), Ret(9, Call(1, 1, 2))) }
	for name, f := range map[string]func(m api.Module) api.Proc{
		"Base": func(m api.Module) api.Proc { return region.Base(m.Procs[0]) },
		"Bare": func(m api.Module) api.Proc { return region.Bare(m.Procs[0]) },
		"Plan": func(m api.Module) api.Proc {
			p, _ := region.Plan(m, 0, []bool{5: true}, 1)
			return p
		},
	} {
		m := made()
		p := f(m)
		p.Objects[0].Size = 99
		for _, b := range p.Blocks {
			for k := range b.Ins {
				clear(b.Ins[k].Args)
				b.Ins[k].A = 7
			}
		}
		if !procs.Equal(m.Procs[0], made().Procs[0]) {
			t.Errorf("%s: %s", name, ir.Text(m.Procs[0]))
		}
	}
}

// Rule R1: what is not valid makes no panic.
func TestInvalid(t *testing.T) {
	odd := []int{math.MinInt, -1, 0, 1, 9, 700, math.MaxInt}
	for _, x := range odd {
		for _, y := range odd {
			for op := range api.IrMark + 2 {
				i := api.Ins{Op: op, D: x, A: y, B: x, Fn: api.FnAdd, Obj: y, Off: x, Size: 4, Args: odd, Log: true}
				l := blocks(api.Block{Ins: []api.Ins{i, i}, End: api.EndBranch, A: y, To: x, Else: y}, api.Block{Ins: []api.Ins{i}, End: x, A: x, To: y})
				p := api.Proc{Params: x, Regs: min(y, 1<<40), Objects: Slots(4), Blocks: l}
				m := api.Module{Procs: []api.Proc{p}}
				region.Base(p)
				region.Bare(p)
				region.Most(p)
				region.Plan(m, 0, make([]bool, 10), 1)
				region.Valid(m, 0, []bool{true, true}, 1)
			}
		}
	}
}
