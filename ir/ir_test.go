package ir_test

import (
	"math"
	"slices"
	"strings"
	"testing"

	"rushlight/api"
	"rushlight/ir"
)

const none = api.None

// instructions holds one of each operation, in order; they are valid in procedure 0 of sample.
func instructions() []api.Ins {
	return []api.Ins{
		{Op: api.IrConst, D: 1, A: none, B: none, Num: 7},
		{Op: api.IrCopy, D: 1, A: 2, B: none},
		{Op: api.IrBin, D: 1, A: 2, B: 3, Fn: api.FnSub},
		{Op: api.IrUn, D: 1, A: 2, B: none, Fn: api.FnNot},
		{Op: api.IrLoad, D: 1, A: 2, B: none, Off: -8, Size: 4},
		{Op: api.IrStore, D: none, A: 2, B: 3, Off: 5, Size: 1},
		{Op: api.IrFrame, D: 1, A: none, B: none, Obj: 1, Off: 4},
		{Op: api.IrGlobal, D: 1, A: none, B: none, Obj: 2, Off: 4},
		{Op: api.IrCall, D: 1, A: none, B: none, Obj: 1, Args: []int{2, 3}},
		{Op: api.IrOut, D: none, A: 2, B: none},
		{Op: api.IrIn, D: 1, A: none, B: none},
		{Op: api.IrMark, D: none, A: none, B: none},
		{Op: api.IrCall, D: none, A: none, B: none, Obj: 2, Args: []int{3}}, // of a void procedure
	}
}

// sample is a valid module. Its procedure 0, main, has 4 registers, 2 objects, and a block for each kind of end.
func sample() api.Module {
	slot := func(size int) api.Slot { return api.Slot{Size: size, Align: 4} }
	back := func(r int) api.Block { return api.Block{End: api.EndRet, A: r} }
	main := api.Proc{Name: "main", Regs: 4, Objects: []api.Slot{slot(8), slot(4)}, Blocks: []api.Block{
		{Ins: instructions(), End: api.EndJump, A: none, To: 2},
		{End: api.EndBranch, A: 3, To: 2, Else: 1},
		back(0),
	}}
	return api.Module{
		Globals: []api.Slot{slot(1), {Size: 2, Align: 1}, slot(12)},
		Data:    [][]byte{make([]byte, 1), {1, 2}, make([]byte, 12)},
		Procs: []api.Proc{
			main,
			{Name: "f", Params: 2, Regs: 2, Blocks: []api.Block{back(1)}},
			{Name: "v", Void: true, Params: 1, Regs: 1, Blocks: []api.Block{back(none)}},
		},
	}
}

// changed is the errors of sample, changed, and of its procedure 0.
func changed(change func(m *api.Module, p *api.Proc)) (module, proc api.Errno) {
	m := sample()
	change(&m, &m.Procs[0])
	return ir.Check(m), ir.Proc(m, 0)
}

// repeated is n times the same thing.
func repeated[T any](n int, x T) []T { return slices.Repeat([]T{x}, n) }

// blocks is n blocks that end with a return, with so many instructions together.
func blocks(n, ins int) []api.Block {
	l := repeated(n, api.Block{End: api.EndRet})
	l[n/2].Ins = repeated(ins, api.Ins{Op: api.IrMark, D: none, A: none, B: none})
	return l
}

// Promise 13.1: what concerns the module as a whole.
func TestModules(t *testing.T) {
	for name, x := range map[string]struct {
		change func(m *api.Module, p *api.Proc)
		want   api.Errno
	}{
		"nothing":              {func(m *api.Module, p *api.Proc) {}, api.OK},
		"no data":              {func(m *api.Module, p *api.Proc) { m.Data = nil }, api.ErrForm},
		"less data":            {func(m *api.Module, p *api.Proc) { m.Data = m.Data[:2] }, api.ErrForm},
		"more data":            {func(m *api.Module, p *api.Proc) { m.Data = append(m.Data, nil) }, api.ErrForm},
		"a byte less":          {func(m *api.Module, p *api.Proc) { m.Data[2] = make([]byte, 11) }, api.ErrForm},
		"a byte more":          {func(m *api.Module, p *api.Proc) { m.Data[0] = make([]byte, 2) }, api.ErrForm},
		"a global of 0":        {func(m *api.Module, p *api.Proc) { m.Globals[0].Size, m.Data[0] = 0, nil }, api.ErrForm},
		"a global of -1":       {func(m *api.Module, p *api.Proc) { m.Globals[0].Size, m.Data[0] = -1, nil }, api.ErrForm},
		"a global of 32768":    {func(m *api.Module, p *api.Proc) { m.Globals[0].Size, m.Data[0] = 32768, make([]byte, 32768) }, api.OK},
		"a global of 32769":    {func(m *api.Module, p *api.Proc) { m.Globals[0].Size, m.Data[0] = 32769, make([]byte, 32769) }, api.ErrForm},
		"a global's alignment": {func(m *api.Module, p *api.Proc) { m.Globals[0].Align = 2 }, api.ErrForm},
		"no alignment":         {func(m *api.Module, p *api.Proc) { m.Globals[0].Align = 0 }, api.ErrForm},
		"200 globals": {func(m *api.Module, p *api.Proc) {
			m.Globals, m.Data = repeated(200, m.Globals[2]), repeated(200, m.Data[2])
		}, api.OK},
		"201 globals": {func(m *api.Module, p *api.Proc) {
			m.Globals, m.Data = repeated(201, m.Globals[2]), repeated(201, m.Data[2])
		}, api.ErrForm},
		"200 procedures":         {func(m *api.Module, p *api.Proc) { m.Procs = append(m.Procs, repeated(197, m.Procs[1])...) }, api.OK},
		"201 procedures":         {func(m *api.Module, p *api.Proc) { m.Procs = append(m.Procs, repeated(198, m.Procs[1])...) }, api.ErrForm},
		"main -1":                {func(m *api.Module, p *api.Proc) { m.Main = -1 }, api.ErrForm},
		"main 3":                 {func(m *api.Module, p *api.Proc) { m.Main = 3 }, api.ErrForm},
		"main with parameters":   {func(m *api.Module, p *api.Proc) { m.Main = 1 }, api.ErrForm},
		"a void main":            {func(m *api.Module, p *api.Proc) { m.Main, m.Procs[2].Params = 2, 0; p.Blocks[0].Ins = nil }, api.ErrForm},
		"main 1":                 {func(m *api.Module, p *api.Proc) { m.Main, m.Procs[1].Params = 1, 0; p.Blocks[0].Ins = nil }, api.OK},
		"another procedure":      {func(m *api.Module, p *api.Proc) { m.Procs[2].Blocks[0].A = 0 }, api.ErrForm},
		"a name":                 {func(m *api.Module, p *api.Proc) { p.Name, m.Globals[1].Name, m.Globals[1].Cell = "", "\n", -5 }, api.OK},
		"lists of nothing":       {func(m *api.Module, p *api.Proc) { m.Globals, m.Data, p.Blocks[0].Ins = nil, [][]byte{}, []api.Ins{} }, api.OK},
		"a call of what is void": {func(m *api.Module, p *api.Proc) { m.Procs[1].Void, m.Procs[1].Blocks[0].A = true, none }, api.ErrForm},
	} {
		if got, _ := changed(x.change); got != x.want {
			t.Errorf("%s: %v", name, got)
		}
	}
	if e := ir.Check(api.Module{}); e != api.ErrForm {
		t.Errorf("no procedure: %v", e)
	}
}

// Promise 13.1: what concerns a procedure as a whole.
func TestProcedures(t *testing.T) {
	for name, x := range map[string]struct {
		change func(m *api.Module, p *api.Proc)
		want   api.Errno
	}{
		"-1 parameters":  {func(m *api.Module, p *api.Proc) { p.Params = -1 }, api.ErrForm},
		"7 parameters":   {func(m *api.Module, p *api.Proc) { m.Main, p.Params, p.Regs = 0, 7, 8 }, api.ErrForm},
		"less registers": {func(m *api.Module, p *api.Proc) { p.Params, p.Regs, p.Blocks = 2, 1, blocks(1, 0) }, api.ErrForm},
		"-1 registers": {func(m *api.Module, p *api.Proc) {
			p.Regs, p.Void, p.Blocks = -1, true, blocks(1, 0)
			p.Blocks[0].A = none
		}, api.ErrForm},
		"a register too few":  {func(m *api.Module, p *api.Proc) { p.Regs = 3 }, api.ErrForm},
		"8000 registers":      {func(m *api.Module, p *api.Proc) { p.Regs, p.Blocks[2].A = 8000, 7999 }, api.OK},
		"8001 registers":      {func(m *api.Module, p *api.Proc) { p.Regs = 8001 }, api.ErrForm},
		"400 objects":         {func(m *api.Module, p *api.Proc) { p.Objects = repeated(400, p.Objects[0]) }, api.OK},
		"401 objects":         {func(m *api.Module, p *api.Proc) { p.Objects = repeated(401, p.Objects[0]) }, api.ErrForm},
		"an object of 0":      {func(m *api.Module, p *api.Proc) { p.Objects[1].Size = 0 }, api.ErrForm},
		"an object of 32768":  {func(m *api.Module, p *api.Proc) { p.Objects[1].Size = 32768 }, api.OK},
		"an object of 32769":  {func(m *api.Module, p *api.Proc) { p.Objects[1].Size = 32769 }, api.ErrForm},
		"an alignment of 1":   {func(m *api.Module, p *api.Proc) { p.Objects[1].Align = 1 }, api.OK},
		"an alignment of 8":   {func(m *api.Module, p *api.Proc) { p.Objects[1].Align = 8 }, api.ErrForm},
		"no block":            {func(m *api.Module, p *api.Proc) { p.Blocks = nil }, api.ErrForm},
		"4000 blocks":         {func(m *api.Module, p *api.Proc) { p.Blocks = blocks(4000, 0) }, api.OK},
		"4001 blocks":         {func(m *api.Module, p *api.Proc) { p.Blocks = blocks(4001, 0) }, api.ErrForm},
		"20000 instructions":  {func(m *api.Module, p *api.Proc) { p.Blocks = blocks(3, 20000) }, api.OK},
		"20001 instructions":  {func(m *api.Module, p *api.Proc) { p.Blocks = blocks(3, 20001) }, api.ErrForm},
		"20001 in all blocks": {func(m *api.Module, p *api.Proc) { p.Blocks = append(blocks(2, 10000), blocks(2, 10001)...) }, api.ErrForm},
		"no end":              {func(m *api.Module, p *api.Proc) { p.Blocks[1].End = 0 }, api.ErrForm},
		"an unknown end":      {func(m *api.Module, p *api.Proc) { p.Blocks[1].End = 4 }, api.ErrForm},
		"a jump to 3":         {func(m *api.Module, p *api.Proc) { p.Blocks[0].To = 3 }, api.ErrForm},
		"a jump to -1":        {func(m *api.Module, p *api.Proc) { p.Blocks[0].To = -1 }, api.ErrForm},
		"a jump to itself":    {func(m *api.Module, p *api.Proc) { p.Blocks[0].To = 0 }, api.OK},
		"a branch to 3":       {func(m *api.Module, p *api.Proc) { p.Blocks[1].To = 3 }, api.ErrForm},
		"or to 3":             {func(m *api.Module, p *api.Proc) { p.Blocks[1].Else = 3 }, api.ErrForm},
		"or to -1":            {func(m *api.Module, p *api.Proc) { p.Blocks[1].Else = -1 }, api.ErrForm},
		"or to the same":      {func(m *api.Module, p *api.Proc) { p.Blocks[1].Else = 2 }, api.OK},
		"a branch by none":    {func(m *api.Module, p *api.Proc) { p.Blocks[1].A = none }, api.ErrForm},
		"a branch by 4":       {func(m *api.Module, p *api.Proc) { p.Blocks[1].A = 4 }, api.ErrForm},
		"a return of none":    {func(m *api.Module, p *api.Proc) { p.Blocks[2].A = none }, api.ErrForm},
		"a return of 4":       {func(m *api.Module, p *api.Proc) { p.Blocks[2].A = 4 }, api.ErrForm},
		"an unreachable one":  {func(m *api.Module, p *api.Proc) { p.Blocks = append(p.Blocks, api.Block{}) }, api.ErrForm},
	} {
		module, proc := changed(x.change)
		if module != x.want || proc != x.want {
			t.Errorf("%s: %v, %v", name, module, proc)
		}
	}
}

// Promise 13.1: the fields that block ends use, and those that they do not.
func TestEnds(t *testing.T) {
	numbers := []int{math.MinInt, -2, -1, 0, 1, 2, 3, math.MaxInt}
	// what may stand in A, To and Else of an end, in a procedure with two registers and three blocks
	registers, targets, nothing, zero := []int{0, 1}, []int{0, 1, 2}, []int{none}, []int{0}
	for name, x := range map[string]struct {
		end          int
		void         bool
		a, to, other []int
	}{
		"a jump":                  {api.EndJump, false, nothing, targets, zero},
		"a jump where it is void": {api.EndJump, true, nothing, targets, zero},
		"a branch":                {api.EndBranch, false, registers, targets, targets},
		"a branch if it is void":  {api.EndBranch, true, registers, targets, targets},
		"a return":                {api.EndRet, false, registers, zero, zero},
		"a return of nothing":     {api.EndRet, true, nothing, zero, zero},
		"no end":                  {0, false, nil, nil, nil},
		"an end before the first": {-1, false, nil, nil, nil},
		"an end after the last":   {api.EndRet + 1, true, nil, nil, nil},
	} {
		for n := range 8 * 8 * 8 {
			b := api.Block{End: x.end, A: numbers[n%8], To: numbers[n/8%8], Else: numbers[n/64]}
			want := api.ErrForm
			if slices.Contains(x.a, b.A) && slices.Contains(x.to, b.To) && slices.Contains(x.other, b.Else) {
				want = api.OK
			}
			if m := endingIn(b, x.void); ir.Check(m) != want || ir.Proc(m, 1) != want {
				t.Errorf("%s: %v: %v, %v", name, b, ir.Check(m), ir.Proc(m, 1))
			}
		}
	}
}

// endingIn is a module whose procedure 1, void or not, has two registers and three blocks, the last of them this one.
func endingIn(b api.Block, void bool) api.Module {
	back := api.Block{End: api.EndRet}
	if void {
		back.A = none
	}
	return api.Module{Procs: []api.Proc{
		{Regs: 1, Blocks: []api.Block{{End: api.EndRet}}},
		{Regs: 2, Void: void, Blocks: []api.Block{back, back, b}},
	}}
}

// Promise 13.1: Proc looks at one procedure only.
func TestProc(t *testing.T) {
	m := sample()
	for n, want := range map[int]api.Errno{0: api.OK, 1: api.OK, 2: api.OK, 3: api.ErrNone, -1: api.ErrNone, math.MaxInt: api.ErrNone, math.MinInt: api.ErrNone} {
		if got := ir.Proc(m, n); got != want {
			t.Errorf("%d: %v", n, got)
		}
	}
	if e := ir.Proc(api.Module{}, 0); e != api.ErrNone {
		t.Errorf("of none: %v", e)
	}
	m.Main, m.Data, m.Procs[2].Blocks[0].A = 9, nil, 0
	for n, want := range []api.Errno{api.OK, api.OK, api.ErrForm} {
		if got := ir.Proc(m, n); got != want {
			t.Errorf("%d: %v", n, got)
		}
	}
}

// Promise 13.1: the fields that instructions use, and those that they do not.
func TestFields(t *testing.T) {
	// of each operation, the letters of the fields that it uses
	used := []string{"dn", "da", "dabf", "daf", "daos", "abos", "dxo", "dxo", "dxg", "a", "d", "", "xg"}
	logs := []bool{true, true, true, true, true, true, true, true, true, false, true, false, false}
	wrong := map[string]func(i *api.Ins){
		"d": func(i *api.Ins) { i.D = other(i.D) }, "a": func(i *api.Ins) { i.A = other(i.A) }, "b": func(i *api.Ins) { i.B = other(i.B) },
		"f": func(i *api.Ins) { i.Fn = api.FnZero + 1 }, "x": func(i *api.Ins) { i.Obj = 3 },
		"o": func(i *api.Ins) { i.Off += 32800 }, "s": func(i *api.Ins) { i.Size += 2 }, "g": func(i *api.Ins) { i.Args = append(i.Args[:len(i.Args):len(i.Args)], 0) },
	}
	for k, i := range instructions() {
		if e := inMain(i); e != api.OK {
			t.Errorf("%v: %v", i, e)
		}
		for letter, change := range wrong {
			x := i
			change(&x)
			if e := inMain(x); e != api.ErrForm {
				t.Errorf("%v, which uses %s, with another %s: %v", x, used[k], letter, e)
			}
		}
		x := i
		x.Num = 1 << 31
		if e := inMain(x); (e == api.OK) != (i.Op == api.IrConst) {
			t.Errorf("%v: %v", x, e)
		}
		x = i
		x.Log = true
		if e := inMain(x); (e == api.OK) != logs[k] {
			t.Errorf("%v: %v", x, e)
		}
	}
	for _, op := range []int{0, -1, api.IrMark + 1, math.MaxInt, math.MinInt} {
		if e := inMain(api.Ins{Op: op, D: none, A: none, B: none}); e != api.ErrForm {
			t.Errorf("operation %d: %v", op, e)
		}
	}
}

// other is what must not stand where a register, or none, does.
func other(r int) int {
	if r == none {
		return 0
	}
	return none
}

// inMain is the error of sample's procedure 0 with only this instruction.
func inMain(i api.Ins) api.Errno {
	module, proc := changed(func(m *api.Module, p *api.Proc) { p.Blocks[0].Ins = []api.Ins{i} })
	if module != proc {
		return 99
	}
	return proc
}

// Promise 13.1: what may stand in the fields.
func TestFieldValues(t *testing.T) {
	try := func(k int, change func(i *api.Ins), want bool) {
		t.Helper()
		i := instructions()[k]
		change(&i)
		if e := inMain(i); e != api.OK && e != api.ErrForm || (e == api.OK) != want {
			t.Errorf("%v: %v", i, e)
		}
	}
	for r, want := range map[int]bool{-2: false, none: false, 0: true, 3: true, 4: false, math.MaxInt: false, math.MinInt: false} {
		try(2, func(i *api.Ins) { i.D = r }, want)
		try(2, func(i *api.Ins) { i.A = r }, want)
		try(2, func(i *api.Ins) { i.B = r }, want)
		try(5, func(i *api.Ins) { i.B = r }, want)
		try(8, func(i *api.Ins) { i.D = r }, want)
		try(8, func(i *api.Ins) { i.Args = []int{r, 0} }, want)
		try(8, func(i *api.Ins) { i.Args = []int{0, r} }, want)
		try(12, func(i *api.Ins) { i.D = r }, r == none)
		try(9, func(i *api.Ins) { i.D = r }, r == none)
	}
	for fn := -1; fn <= api.FnZero+2; fn++ {
		try(2, func(i *api.Ins) { i.Fn = fn }, fn >= api.FnAdd && fn <= api.FnGe)
		try(3, func(i *api.Ins) { i.Fn = fn }, fn == api.FnNeg || fn == api.FnNot || fn == api.FnZero)
		try(1, func(i *api.Ins) { i.Fn = fn }, fn == 0)
	}
	for size := -1; size <= 8; size++ {
		try(4, func(i *api.Ins) { i.Size = size }, size == 1 || size == 4)
		try(5, func(i *api.Ins) { i.Size = size }, size == 1 || size == 4)
		try(6, func(i *api.Ins) { i.Size = size }, size == 0)
	}
	for _, off := range []int{-32769, -32768, -1, 0, 32768, 32769, math.MaxInt, math.MinInt} {
		for _, k := range []int{4, 5, 6, 7} {
			try(k, func(i *api.Ins) { i.Off = off }, off >= -32768 && off <= 32768)
		}
		try(9, func(i *api.Ins) { i.Off = off }, off == 0)
	}
	for n := -1; n <= 4; n++ {
		try(6, func(i *api.Ins) { i.Obj = n }, n >= 0 && n < 2)
		try(7, func(i *api.Ins) { i.Obj = n }, n >= 0 && n < 3)
		try(8, func(i *api.Ins) { i.Obj = n }, n == 1)
		try(12, func(i *api.Ins) { i.Obj = n }, n == 2)
		try(10, func(i *api.Ins) { i.Obj = n }, n == 0)
		try(8, func(i *api.Ins) { i.Args = make([]int, max(0, n)) }, n == 2)
		try(11, func(i *api.Ins) { i.Args = make([]int, max(0, n)) }, n <= 0)
	}
	try(8, func(i *api.Ins) { i.Obj, i.Args = 0, nil }, true) // main may be called
}

// Promise 13.2: Def, Uses and Pure.
func TestDefUses(t *testing.T) {
	uses := [][]int{nil, {2}, {2, 3}, {2}, {2}, {2, 3}, nil, nil, {2, 3}, {2}, nil, nil, {3}}
	for k, i := range instructions() {
		if want := []int{1, 1, 1, 1, 1, none, 1, 1, 1, none, 1, none, none}[k]; ir.Def(i) != want {
			t.Errorf("Def of %v: %d", i, ir.Def(i))
		}
		if !slices.Equal(ir.Uses(i), uses[k]) {
			t.Errorf("Uses of %v: %v", i, ir.Uses(i))
		}
		if want := k < 5 || k == 6 || k == 7; ir.Pure(i) != want {
			t.Errorf("Pure of %v: %v", i, ir.Pure(i))
		}
	}
	full := api.Ins{D: 5, A: 6, B: 7, Args: []int{8, none, 6}}
	for op := -1; op <= api.IrMark+1; op++ {
		full.Op = op
		wantDef, wantUses := none, []int(nil)
		switch op {
		case api.IrConst, api.IrFrame, api.IrGlobal, api.IrIn:
			wantDef = 5
		case api.IrCopy, api.IrUn, api.IrLoad:
			wantDef, wantUses = 5, []int{6}
		case api.IrBin:
			wantDef, wantUses = 5, []int{6, 7}
		case api.IrCall:
			wantDef, wantUses = 5, []int{8, 6}
		case api.IrStore:
			wantUses = []int{6, 7}
		case api.IrOut:
			wantUses = []int{6}
		}
		if d, u := ir.Def(full), ir.Uses(full); d != wantDef || !slices.Equal(u, wantUses) {
			t.Errorf("operation %d: %d, %v", op, d, u)
		}
	}
	same := api.Ins{Op: api.IrBin, D: 1, A: 4, B: 4}
	if l := ir.Uses(same); !slices.Equal(l, []int{4, 4}) {
		t.Errorf("twice the same: %v", l)
	}
	same.A = none
	if l := ir.Uses(same); !slices.Equal(l, []int{4}) {
		t.Errorf("without A: %v", l)
	}
	clear(ir.Uses(full)) // rule R3
	call := api.Ins{Op: api.IrCall, Args: []int{8, 9}}
	clear(ir.Uses(call))
	if !slices.Equal(call.Args, []int{8, 9}) {
		t.Errorf("Uses shares the arguments")
	}
}

// Promise 13.2: Outs and Size.
func TestOutsSize(t *testing.T) {
	for _, x := range []struct {
		b    api.Block
		want []int
	}{
		{api.Block{End: api.EndJump, To: 3, Else: 4}, []int{3}}, {api.Block{End: api.EndJump}, []int{0}},
		{api.Block{End: api.EndBranch, To: 3, Else: 1}, []int{3, 1}}, {api.Block{End: api.EndBranch, To: 1, Else: 3}, []int{1, 3}}, {api.Block{End: api.EndBranch, To: 3, Else: 3}, []int{3}},
		{api.Block{End: api.EndRet, To: 3, Else: 1}, nil}, {api.Block{}, nil}, {api.Block{End: 4, To: 1}, nil}, {api.Block{End: -1, To: 1}, nil},
	} {
		if got := ir.Outs(x.b); !slices.Equal(got, x.want) {
			t.Errorf("%v: %v", x.b, got)
		}
	}
	for n, p := range []api.Proc{{}, {Blocks: blocks(1, 0)}, {Blocks: blocks(1, 1)}, {Blocks: make([]api.Block, 3)}, {Blocks: append(blocks(1, 2), blocks(1, 1)...)}} {
		if got := ir.Size(p); got != []int{0, 1, 2, 3, 5}[n] {
			t.Errorf("%d: %d", n, got)
		}
	}
	if n := ir.Size(sample().Procs[0]); n != 13+3 {
		t.Errorf("of the sample: %d", n)
	}
}

// Promise 13.3, and the example of the chapter.
func TestText(t *testing.T) {
	p := api.Proc{Regs: 1, Blocks: []api.Block{{Ins: instructions()[:1], End: api.EndRet}}}
	p.Blocks[0].Ins[0].D = 0
	if s := ir.Text(p); s != "b0:\n 1 0 -1 -1 0 0 0 0 7\n end 3 0 0 0\n" {
		t.Errorf("the example: %q", s)
	}
	if e := ir.Check(api.Module{Procs: []api.Proc{p}}); e != api.OK {
		t.Errorf("the example: %v", e)
	}
	main := sample().Procs[0]
	main.Blocks[0].Ins[0].Num = math.MaxUint32
	main.Blocks[0].Ins[5].Log = true
	main.Blocks[0].Ins[8].Log = true
	want := []string{"b0:", " 1 1 -1 -1 0 0 0 0 4294967295", " 2 1 2 -1 0 0 0 0 0", " 3 1 2 3 2 0 0 0 0", " 4 1 2 -1 18 0 0 0 0", " 5 1 2 -1 0 0 -8 4 0", " 6 -1 2 3 0 0 5 1 0 log", " 7 1 -1 -1 0 1 4 0 0", " 8 1 -1 -1 0 2 4 0 0", " 9 1 -1 -1 0 1 0 0 0 2 3 log", " 10 -1 2 -1 0 0 0 0 0", " 11 1 -1 -1 0 0 0 0 0", " 12 -1 -1 -1 0 0 0 0 0", " 9 -1 -1 -1 0 2 0 0 0 3", " end 1 -1 2 0", "b1:", " end 2 3 2 1", "b2:", " end 3 0 0 0", ""}
	if s := ir.Text(main); s != strings.Join(want, "\n") {
		t.Errorf("of the sample: %q", s)
	}
	if s := ir.Text(api.Proc{}); s != "" {
		t.Errorf("of nothing: %q", s)
	}
	odd := api.Proc{Blocks: []api.Block{{Ins: []api.Ins{{Op: -3, D: math.MinInt, Fn: 4, Obj: 5, Off: 6, Size: 7, Num: 8, Args: []int{-9}, Log: true}}, End: -1, A: 2, To: 3, Else: math.MaxInt}}}
	if s := ir.Text(odd); s != "b0:\n -3 -9223372036854775808 0 0 4 5 6 7 8 -9 log\n end -1 2 3 9223372036854775807\n" {
		t.Errorf("of what is not valid: %q", s)
	}
}
