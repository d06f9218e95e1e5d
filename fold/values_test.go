package fold_test

import (
	"slices"
	"testing"

	"rushlight/api"
	"rushlight/drawn"
	"rushlight/fold"
	"rushlight/ir"
	"rushlight/irrun"
	"rushlight/procs"
	. "rushlight/sketch"
)

// list is instructions.
func list(l ...api.Ins) []api.Ins { return l }

// Promise 17.3: what becomes of the instructions of a block.
func TestValues(t *testing.T) {
	const add, sub, lt, gt = api.FnAdd, api.FnSub, api.FnLt, api.FnGt
	for name, x := range map[string]struct{ was, want []api.Ins }{
		"computed twice":                   {list(Bin(sub, 2, 0, 1), Bin(sub, 3, 0, 1)), list(Bin(sub, 2, 0, 1), Copy(3, 2))},
		"by one operand":                   {list(Un(api.FnNot, 2, 0), Un(api.FnNeg, 3, 0), Un(api.FnNot, 4, 0)), list(Un(api.FnNot, 2, 0), Un(api.FnNeg, 3, 0), Copy(4, 2))},
		"another function":                 {list(Bin(sub, 2, 0, 1), Bin(add, 3, 0, 1)), list(Bin(sub, 2, 0, 1), Bin(add, 3, 0, 1))},
		"operands the other way round":     {list(Bin(sub, 2, 0, 1), Bin(sub, 3, 1, 0)), list(Bin(sub, 2, 0, 1), Bin(sub, 3, 1, 0))},
		"where that is the same":           {list(Bin(add, 2, 0, 1), Bin(add, 3, 1, 0), Bin(lt, 4, 0, 1), Bin(gt, 5, 1, 0)), list(Bin(add, 2, 0, 1), Copy(3, 2), Bin(lt, 4, 0, 1), Copy(5, 4))},
		"an operand has changed":           {list(Bin(sub, 2, 0, 1), In(1), Bin(sub, 3, 0, 1)), list(Bin(sub, 2, 0, 1), In(1), Bin(sub, 3, 0, 1))},
		"an operand is back":               {list(Bin(sub, 2, 0, 1), Copy(4, 1), In(1), Copy(1, 4), Bin(sub, 3, 0, 1)), list(Bin(sub, 2, 0, 1), Copy(4, 1), In(1), Copy(1, 4), Copy(3, 2))},
		"an operand is overwritten":        {list(Bin(sub, 0, 0, 1), Bin(sub, 3, 0, 1)), list(Bin(sub, 0, 0, 1), Bin(sub, 3, 0, 1))},
		"the register is overwritten":      {list(Bin(sub, 2, 0, 1), In(2), Bin(sub, 3, 0, 1), Bin(sub, 4, 0, 1)), list(Bin(sub, 2, 0, 1), In(2), Bin(sub, 3, 0, 1), Copy(4, 3))},
		"one of two is overwritten":        {list(Bin(sub, 2, 0, 1), Copy(5, 2), In(2), Bin(sub, 3, 0, 1)), list(Bin(sub, 2, 0, 1), Copy(5, 2), In(2), Copy(3, 5))},
		"into the same register":           {list(Bin(sub, 2, 0, 1), Bin(sub, 2, 0, 1)), list(Bin(sub, 2, 0, 1), Copy(2, 2))},
		"by way of copies":                 {list(Copy(4, 0), Copy(5, 4), Bin(sub, 2, 0, 1), Bin(sub, 3, 5, 1)), list(Copy(4, 0), Copy(5, 0), Bin(sub, 2, 0, 1), Copy(3, 2))},
		"addresses":                        {list(Frame(2, 0, 4), Frame(3, 0, 4), Global(4, 0, 4), Global(5, 0, 4)), list(Frame(2, 0, 4), Copy(3, 2), Global(4, 0, 4), Copy(5, 4))},
		"other addresses":                  {list(Frame(2, 0, 4), Frame(3, 0, 0), Frame(4, 1, 4), Global(5, 0, 4), Global(6, 1, 4), Global(7, 0, 8)), list(Frame(2, 0, 4), Frame(3, 0, 0), Frame(4, 1, 4), Global(5, 0, 4), Global(6, 1, 4), Global(7, 0, 8))},
		"reads through copies":             {list(Copy(2, 0), Out(2), Store(1, 2, 0, 4), Store(2, 1, 0, 1), Call(3, 1, 2, 1, 2), Load(4, 2, 0, 1)), list(Copy(2, 0), Out(0), Store(1, 0, 0, 4), Store(0, 1, 0, 1), Call(3, 1, 0, 1, 0), Load(4, 0, 0, 1))},
		"reads from the first still there": {list(In(2), Copy(3, 2), Copy(4, 3), In(2), Out(4), Out(3), Out(2)), list(In(2), Copy(3, 2), Copy(4, 2), In(2), Out(3), Out(3), Out(2))},
		"one that came back is not first":  {list(In(2), Copy(3, 2), In(2), Copy(2, 3), Out(2)), list(In(2), Copy(3, 2), In(2), Copy(2, 3), Out(3))},
		"a copy of itself":                 {list(Copy(0, 0), Copy(2, 0), Copy(0, 2), Out(0)), list(Copy(0, 0), Copy(2, 0), Copy(0, 0), Out(0))},
		"constants":                        {list(Const(2, 6), Const(3, 7), Bin(api.FnMul, 4, 2, 3), Un(api.FnZero, 5, 4), Copy(6, 4), Bin(add, 7, 4, 0)), list(Const(2, 6), Const(3, 7), Const(4, 42), Const(5, 0), Const(6, 42), Bin(add, 7, 4, 0))},
		"the same constant":                {list(Const(2, 6), Const(3, 6), Bin(sub, 4, 0, 3), Bin(sub, 5, 0, 2)), list(Const(2, 6), Const(3, 6), Bin(sub, 4, 0, 2), Copy(5, 4))},
		"constants of other blocks":        {list(Bin(add, 2, 8, 8)), list(Bin(add, 2, 8, 8))},
		"inputs and calls":                 {list(In(2), In(3), Call(4, 1, 0), Call(5, 1, 0), Bin(sub, 6, 2, 4), Bin(sub, 7, 3, 5)), list(In(2), In(3), Call(4, 1, 0), Call(5, 1, 0), Bin(sub, 6, 2, 4), Bin(sub, 7, 3, 5))},
		"registers across a call":          {list(Bin(sub, 2, 0, 1), Call(0, 1, 0), Mark(), Copy(3, 2), Out(3)), list(Bin(sub, 2, 0, 1), Call(0, 1, 0), Mark(), Copy(3, 2), Out(2))},
		"Log":                              {list(Log(Bin(sub, 2, 0, 1)), Log(Copy(3, 2)), Log(Store(0, 3, 0, 1)), Log(Const(4, 1))), list(Log(Bin(sub, 2, 0, 1)), Log(Copy(3, 2)), Log(Store(0, 2, 0, 1)), Log(Const(4, 1)))},
		"Log, of what becomes another":     {list(Bin(sub, 2, 0, 1), Log(Bin(sub, 3, 0, 1)), Const(4, 1), Log(Copy(5, 4))), list(Bin(sub, 2, 0, 1), Copy(3, 2), Const(4, 1), Const(5, 1))},
	} {
		check(t, name, x.was, x.want)
	}
}

// Promise 17.3: a function of operands is the same value as another one if, and only if, both yield the same.
func TestFunctions(t *testing.T) {
	samples := Words(0, 1, 2, 3, 7, 31, 33, -1, -2, -7, 1<<31-1, -1<<31)
	for first := api.FnAdd; first <= api.FnGe; first++ {
		for second := api.FnAdd; second <= api.FnGe; second++ {
			for a := range 2 {
				same := true
				for _, x := range samples {
					for _, y := range samples {
						operands := []uint32{x, y}
						same = same && irrun.Fn(first, x, y) == irrun.Fn(second, operands[a], operands[1-a])
					}
				}
				was, want := list(Bin(first, 2, 0, 1), Bin(second, 3, a, 1-a)), list(Bin(first, 2, 0, 1), Copy(3, 2))
				if !same {
					want = was
				}
				check(t, "two functions", was, want)
			}
		}
	}
}

// Promise 17.3: loads of what was loaded or stored in the block.
func TestLoads(t *testing.T) {
	for name, x := range map[string]struct{ was, want []api.Ins }{
		"loaded twice":                        {list(Load(2, 0, 4, 4), Load(3, 0, 4, 4), Load(4, 0, 5, 1), Load(5, 0, 5, 1)), list(Load(2, 0, 4, 4), Copy(3, 2), Load(4, 0, 5, 1), Copy(5, 4))},
		"elsewhere":                           {list(Load(2, 0, 4, 4), Load(3, 1, 4, 4), Load(4, 0, 8, 4), Load(5, 0, 4, 1)), list(Load(2, 0, 4, 4), Load(3, 1, 4, 4), Load(4, 0, 8, 4), Load(5, 0, 4, 1))},
		"stored":                              {list(Store(0, 1, 4, 4), Load(2, 0, 4, 4), Out(2)), list(Store(0, 1, 4, 4), Copy(2, 1), Out(1))},
		"stored with Log":                     {list(Log(Store(0, 1, 4, 4)), Load(2, 0, 4, 4)), list(Log(Store(0, 1, 4, 4)), Copy(2, 1))},
		"a byte of what was stored":           {list(Store(0, 1, 4, 4), Load(2, 0, 4, 1)), list(Store(0, 1, 4, 4), Load(2, 0, 4, 1))},
		"a byte was stored":                   {list(Store(0, 1, 4, 1), Load(2, 0, 4, 1), Load(3, 0, 4, 4)), list(Store(0, 1, 4, 1), Load(2, 0, 4, 1), Load(3, 0, 4, 4))},
		"a constant was stored":               {list(Const(2, 5), Store(0, 2, 4, 4), Load(3, 0, 4, 4), Bin(api.FnAdd, 4, 3, 2)), list(Const(2, 5), Store(0, 2, 4, 4), Const(3, 5), Const(4, 10))},
		"what was stored is overwritten":      {list(Store(0, 1, 4, 4), In(1), Load(2, 0, 4, 4), Load(3, 0, 4, 4)), list(Store(0, 1, 4, 4), In(1), Load(2, 0, 4, 4), Copy(3, 2))},
		"the address is overwritten":          {list(Store(0, 1, 4, 4), In(0), Load(2, 0, 4, 4)), list(Store(0, 1, 4, 4), In(0), Load(2, 0, 4, 4))},
		"the address is loaded":               {list(Load(0, 0, 0, 4), Load(0, 0, 0, 4)), list(Load(0, 0, 0, 4), Load(0, 0, 0, 4))},
		"through a copy of the address":       {list(Copy(3, 0), Store(0, 1, 4, 4), In(0), Load(2, 3, 4, 4)), list(Copy(3, 0), Store(0, 1, 4, 4), In(0), Copy(2, 1))},
		"stored twice":                        {list(Store(0, 0, 4, 4), Store(0, 1, 4, 4), Load(2, 0, 4, 4)), list(Store(0, 0, 4, 4), Store(0, 1, 4, 4), Copy(2, 1))},
		"stored to what may be the same":      {list(Load(2, 0, 4, 4), Store(1, 1, 0, 4), Load(3, 0, 4, 4)), list(Load(2, 0, 4, 4), Store(1, 1, 0, 4), Load(3, 0, 4, 4))},
		"a byte to what may be the same":      {list(Store(0, 1, 4, 4), Store(1, 0, 0, 1), Load(3, 0, 4, 4)), list(Store(0, 1, 4, 4), Store(1, 0, 0, 1), Load(3, 0, 4, 4))},
		"stored beside it":                    {list(Store(0, 1, 4, 4), Store(0, 0, 8, 4), Store(0, 0, 3, 1), Store(0, 0, 0, 4), Load(3, 0, 4, 4)), list(Store(0, 1, 4, 4), Store(0, 0, 8, 4), Store(0, 0, 3, 1), Store(0, 0, 0, 4), Copy(3, 1))},
		"stored to its first byte":            {list(Store(0, 1, 4, 4), Store(0, 0, 4, 1), Load(3, 0, 4, 4)), list(Store(0, 1, 4, 4), Store(0, 0, 4, 1), Load(3, 0, 4, 4))},
		"stored to its last byte":             {list(Load(2, 0, 4, 4), Store(0, 0, 7, 1), Load(3, 0, 4, 4)), list(Load(2, 0, 4, 4), Store(0, 0, 7, 1), Load(3, 0, 4, 4))},
		"stored over a byte":                  {list(Load(2, 0, 6, 1), Store(0, 0, 4, 4), Load(3, 0, 6, 1)), list(Load(2, 0, 6, 1), Store(0, 0, 4, 4), Load(3, 0, 6, 1))},
		"stored beside a byte":                {list(Load(2, 0, 3, 1), Store(0, 0, 4, 4), Load(3, 0, 3, 1)), list(Load(2, 0, 3, 1), Store(0, 0, 4, 4), Copy(3, 2))},
		"a call":                              {list(Load(2, 0, 4, 4), Call(None, 1, 0), Load(3, 0, 4, 4)), list(Load(2, 0, 4, 4), Call(None, 1, 0), Load(3, 0, 4, 4))},
		"outputs, inputs and marks":           {list(Store(0, 1, 4, 4), Out(1), In(5), Mark(), Load(3, 0, 4, 4)), list(Store(0, 1, 4, 4), Out(1), In(5), Mark(), Copy(3, 1))},
		"the same object":                     {list(Frame(2, 0, 0), Frame(3, 0, 4), Store(2, 1, 0, 4), Store(3, 0, 0, 4), Load(4, 2, 0, 4), Load(5, 2, 4, 4)), list(Frame(2, 0, 0), Frame(3, 0, 4), Store(2, 1, 0, 4), Store(3, 0, 0, 4), Copy(4, 1), Copy(5, 0))},
		"another object":                      {list(Frame(2, 0, 0), Frame(3, 1, 0), Store(2, 1, 4, 4), Store(3, 0, 0, 4), Load(4, 2, 4, 4)), list(Frame(2, 0, 0), Frame(3, 1, 0), Store(2, 1, 4, 4), Store(3, 0, 0, 4), Copy(4, 1))},
		"beyond an object is another one":     {list(Frame(2, 0, 0), Frame(3, 1, 0), Store(2, 1, 8, 4), Store(3, 0, 0, 1), Load(4, 2, 8, 4)), list(Frame(2, 0, 0), Frame(3, 1, 0), Store(2, 1, 8, 4), Store(3, 0, 0, 1), Load(4, 2, 8, 4))},
		"the same global":                     {list(Global(2, 1, 0), Global(3, 1, 4), Store(2, 1, 0, 4), Store(3, 0, 0, 4), Load(4, 2, 0, 4)), list(Global(2, 1, 0), Global(3, 1, 4), Store(2, 1, 0, 4), Store(3, 0, 0, 4), Copy(4, 1))},
		"the first words of globals":          {list(Global(2, 1, 0), Global(3, 0, 0), Global(4, 7, 0), Store(2, 1, 0, 4), Store(3, 0, 0, 4), Store(4, 0, 0, 4), Load(5, 2, 0, 4)), list(Global(2, 1, 0), Global(3, 0, 0), Global(4, 7, 0), Store(2, 1, 0, 4), Store(3, 0, 0, 4), Store(4, 0, 0, 4), Copy(5, 1))},
		"another global, far behind":          {list(Global(2, 1, 0), Global(3, 2, 40), Load(4, 2, 0, 4), Store(3, 0, 0, 4), Load(5, 2, 0, 4)), list(Global(2, 1, 0), Global(3, 2, 40), Load(4, 2, 0, 4), Store(3, 0, 0, 4), Copy(5, 4))},
		"a global that may be so long":        {list(Global(2, 1, 4), Global(3, 2, 0), Load(4, 2, 0, 4), Store(3, 0, 0, 4), Load(5, 2, 0, 4)), list(Global(2, 1, 4), Global(3, 2, 0), Load(4, 2, 0, 4), Store(3, 0, 0, 4), Load(5, 2, 0, 4))},
		"ahead of a global may be another":    {list(Global(2, 1, 0), Global(3, 2, -4), Load(4, 2, 0, 4), Store(3, 0, 0, 4), Load(5, 2, 0, 4)), list(Global(2, 1, 0), Global(3, 2, -4), Load(4, 2, 0, 4), Store(3, 0, 0, 4), Load(5, 2, 0, 4))},
		"objects and globals may meet":        {list(Frame(2, 0, 0), Global(3, 0, 0), Load(4, 2, 0, 4), Store(3, 0, 0, 4), Load(5, 2, 0, 4)), list(Frame(2, 0, 0), Global(3, 0, 0), Load(4, 2, 0, 4), Store(3, 0, 0, 4), Load(5, 2, 0, 4))},
		"objects and later globals too":       {list(Frame(2, 0, 0), Global(3, 1, 40), Load(4, 2, 0, 4), Store(3, 0, 0, 4), Load(5, 2, 0, 4)), list(Frame(2, 0, 0), Global(3, 1, 40), Load(4, 2, 0, 4), Store(3, 0, 0, 4), Load(5, 2, 0, 4))},
		"a global and an unknown address":     {list(Global(3, 200, 40), Load(4, 1, 0, 4), Store(3, 0, 0, 4), Load(5, 1, 0, 4)), list(Global(3, 200, 40), Load(4, 1, 0, 4), Store(3, 0, 0, 4), Load(5, 1, 0, 4))},
		"an address that is not known":        {list(Frame(2, 0, 0), Load(4, 2, 0, 4), Store(1, 0, 0, 4), Load(5, 2, 0, 4)), list(Frame(2, 0, 0), Load(4, 2, 0, 4), Store(1, 0, 0, 4), Load(5, 2, 0, 4))},
		"addresses that are numbers may meet": {list(Const(2, api.Base), Const(3, api.Base+4), Load(4, 2, 4, 4), Store(3, 0, 0, 4), Load(5, 2, 4, 4)), list(Const(2, api.Base), Const(3, api.Base+4), Load(4, 2, 4, 4), Store(3, 0, 0, 4), Load(5, 2, 4, 4))},
	} {
		check(t, name, x.was, x.want)
	}
}

// check reports as a fault a block whose instructions do not become these ones, or do not stay them.
func check(t *testing.T, name string, was, want []api.Ins) {
	t.Helper()
	got, again := fold.Values(proc(Ret(0, was...))), fold.Values(proc(Ret(0, want...)))
	got.Blocks[0].A, again.Blocks[0].A = 0, 0
	if !procs.Equal(got, proc(Ret(0, want...))) {
		t.Errorf("%s: %s", name, ir.Text(got))
	}
	if !procs.Equal(again, proc(Ret(0, want...))) {
		t.Errorf("%s: another time: %s", name, ir.Text(again))
	}
}

// Promise 17.3: what becomes of the ends of blocks. Each block is processed by itself.
func TestValuesEnds(t *testing.T) {
	p := proc(
		Branch(3, 1, 2, Const(2, 0), Copy(3, 2)),
		Branch(2, 0, 2, Copy(2, 0)),
		Branch(2, 3, 0, Const(2, 9)),
		Branch(2, 4, 4, Bin(api.FnAdd, 4, 2, 3)),
		Jump(5, Copy(7, 0), In(0)),
		Ret(7),
		Ret(6, Copy(7, 0), Copy(6, 7)),
	)
	want := proc(
		Jump(2, Const(2, 0), Const(3, 0)),
		Branch(0, 0, 2, Copy(2, 0)),
		Jump(3, Const(2, 9)),
		Branch(2, 4, 4, Bin(api.FnAdd, 4, 2, 3)),
		Jump(5, Copy(7, 0), In(0)),
		Ret(7),
		Ret(0, Copy(7, 0), Copy(6, 0)),
	)
	if got := fold.Values(p); !procs.Equal(got, want) {
		t.Errorf("%s", ir.Text(got))
	}
	void := api.Proc{Void: true, Regs: 1, Blocks: []api.Block{Ret(None, Const(0, 1))}}
	if got := fold.Values(void); !procs.Equal(got, void) {
		t.Errorf("%s", ir.Text(got))
	}
}

// between reports whether none of the instructions from behind one to ahead of another one sets any of some registers.
func between(l []api.Ins, from, to int, registers ...int) bool {
	return !slices.ContainsFunc(l[from+1:to], func(i api.Ins) bool { return slices.Contains(registers, ir.Def(i)) })
}

// silent reports whether none of the instructions from behind one to ahead of another one may write to memory.
func silent(l []api.Ins, from, to int) bool {
	return !slices.ContainsFunc(l[from+1:to], func(i api.Ins) bool { return i.Op == api.IrStore || i.Op == api.IrCall })
}

// redundant reports whether of two instructions, the second one computes what a register has from the first one, or reads a register that is a copy by it.
func redundant(l []api.Ins, from, to int) bool {
	i, j := l[from], l[to]
	switch {
	case i.Op == api.IrStore:
		return i.Size == 4 && j.Op == api.IrLoad && j.A == i.A && j.Off == i.Off && j.Size == 4 && silent(l, from, to) && between(l, from, to, i.A, i.B)
	case i.Op == api.IrCopy && i.D != i.A && slices.Contains(ir.Uses(j), i.D):
		return between(l, from, to, i.D, i.A)
	case !ir.Pure(i) || i.Op == api.IrConst || i.Op == api.IrCopy || i.D == i.A || i.D == i.B:
		return false
	}
	same := i.Op == j.Op && i.A == j.A && i.B == j.B && i.Fn == j.Fn && i.Obj == j.Obj && i.Off == j.Off && i.Size == j.Size
	return same && between(l, from, to, i.D, i.A, i.B) && (i.Op != api.IrLoad || silent(l, from, to))
}

// follows reports whether an instruction may become another one.
func follows(i, j api.Ins) bool {
	if i.D != j.D {
		return false
	}
	if ir.Pure(i) && (j.Op == api.IrCopy || j.Op == api.IrConst) {
		return true
	}
	return i.Op == j.Op && i.Fn == j.Fn && i.Obj == j.Obj && i.Off == j.Off && i.Size == j.Size && i.Num == j.Num && i.Log == j.Log && len(i.Args) == len(j.Args)
}

// fault tells what in a procedure is not as promise 17.3 says of what becomes of another one.
func fault(p, q api.Proc) string {
	if q.Regs != p.Regs || !slices.Equal(q.Objects, p.Objects) || len(q.Blocks) != len(p.Blocks) {
		return "another outline"
	}
	for n, b := range p.Blocks {
		l, c := q.Blocks[n].Ins, q.Blocks[n]
		if !slices.EqualFunc(b.Ins, l, follows) {
			return "other instructions"
		}
		jumps := b.End == api.EndBranch && c.End == api.EndJump && (c.To == b.To || c.To == b.Else)
		if !jumps && (c.End != b.End || c.To != b.To || c.Else != b.Else) {
			return "another end"
		}
		known := map[int]uint32{}
		for to, j := range l {
			for from := range to {
				if redundant(l, from, to) {
					return "twice: " + ir.Text(api.Proc{Blocks: []api.Block{Ret(0, l[from], j)}})
				}
			}
			after(known, j)
			if _, is := known[j.D]; is && j.Op != api.IrConst {
				return "a number"
			}
		}
		if _, is := known[c.A]; is && c.End == api.EndBranch {
			return "a branch"
		}
	}
	return ""
}

// Promise 17.3: drawn procedures, held against what it says.
func TestDrawnValues(t *testing.T) {
	changes := map[int]int{}
	for n := range 6000 {
		m := []func(n int) api.Module{drawn.WildModule, drawn.TameModule}[n%2](n)
		for _, p := range m.Procs {
			q := fold.Values(p)
			if s := fault(p, q); s != "" {
				t.Fatalf("%s\n%sbecame\n%s", s, ir.Text(p), ir.Text(q))
			}
			for k, b := range p.Blocks {
				for at, i := range b.Ins {
					if j := q.Blocks[k].Ins[at]; i.Op != j.Op {
						changes[i.Op*100+j.Op]++
					}
				}
			}
		}
	}
	for _, op := range []int{api.IrBin, api.IrUn, api.IrLoad, api.IrFrame, api.IrGlobal} {
		if changes[op*100+api.IrCopy] < 50 || op < api.IrFrame && changes[op*100+api.IrConst] < 20 {
			t.Errorf("%d: %v", op, changes)
		}
	}
}

// Promise 17.4: Fold, held against the repetition of Known and Values.
func TestFold(t *testing.T) {
	most := 0
	for n := range 3000 {
		m := []func(n int) api.Module{drawn.WildModule, drawn.TameModule}[n%2](n)
		for _, p := range m.Procs {
			q, rounds := p, 0
			for r := fold.Values(fold.Known(p)); rounds < 8 && !procs.Equal(q, r); r = fold.Values(fold.Known(q)) {
				q = r
				rounds++
			}
			if got := fold.Fold(p); !procs.Equal(got, q) {
				t.Fatalf("%sbecame\n%snot\n%s", ir.Text(p), ir.Text(got), ir.Text(q))
			}
			most = max(most, rounds)
		}
	}
	if most < 2 {
		t.Errorf("at most %d rounds", most)
	}
}

// Promise 17.4: at most 8 times. Each time, one more branch is known, since another one is no longer.
func TestFoldEnds(t *testing.T) {
	const branches = 12
	var p api.Proc
	p.Regs = branches + 2
	p.Blocks = append(p.Blocks, Jump(1, Const(0, 1)))
	for n := range branches {
		at := len(p.Blocks)
		p.Blocks = append(p.Blocks, Branch(n, at+1, at+2), Jump(at+3, Const(n+1, 1)), Jump(at+3, Const(n+1, 2)))
	}
	p.Blocks = append(p.Blocks, Ret(branches))
	q := fold.Fold(p)
	for n := range branches {
		want := api.EndBranch
		if n < 8 {
			want = api.EndJump
		}
		if got := q.Blocks[1+3*n].End; got != want {
			t.Errorf("branch %d: %d", n, got)
		}
	}
	if procs.Equal(fold.Fold(q), q) {
		t.Errorf("nothing is left to do")
	}
}

// Promise 17.5: equivalence, as far as runs of drawn modules and programs show.
func TestEquivalent(t *testing.T) {
	for n := range 6000 {
		m := drawn.TameModule(n)
		if n%3 == 0 {
			m = drawn.WildModule(n)
		}
		for _, change := range []func(p api.Proc) api.Proc{fold.Known, fold.Values, fold.Fold} {
			if s := drawn.Unequal(m, 2000, change); s != "" {
				t.Fatal(s)
			}
		}
	}
	for n := range 500 {
		if s := drawn.Unequal(drawn.Lowered(n), 100000, fold.Fold); s != "" {
			t.Fatal(s)
		}
	}
}

// Promise 17.5: in modules with other globals, the shortest ones that there are.
func TestShortGlobals(t *testing.T) {
	for n := range 3000 {
		m := drawn.TameModule(n)
		for g := range m.Globals {
			m.Globals[g].Size, m.Data[g] = 1, m.Data[g][:1]
		}
		if s := drawn.Unequal(m, 2000, fold.Values); s != "" {
			t.Fatal(s)
		}
	}
}

// Promises 17.1 to 17.4: as much as a procedure has at most, in one block and in many.
func TestLargest(t *testing.T) {
	var l []api.Ins
	for n := range ir.MaxIns / 4 {
		l = append(l, Const(1, uint32(n)), Frame(2, n%2, n/2*4%32768), Store(2, 1, 0, 4), Load(3+n%5000, 2, -4*(n%9), 4))
	}
	p := api.Proc{Regs: ir.MaxRegs, Objects: Slots(32768, 32768), Blocks: []api.Block{Ret(1, l...)}}
	if q := fold.Fold(p); q.Blocks[0].Ins[3].Op != api.IrConst || len(q.Blocks[0].Ins) != ir.MaxIns {
		t.Errorf("%v", q.Blocks[0].Ins[3])
	}
	p.Blocks = nil
	for n := range ir.MaxBlocks {
		p.Blocks = append(p.Blocks, Branch(0, (n+1)%ir.MaxBlocks, (n+2)%ir.MaxBlocks, l[n*5:n*5+5]...))
	}
	for _, regs := range []int{500, ir.MaxRegs} {
		p.Regs = regs
		if q := fold.Fold(p); len(q.Blocks) != ir.MaxBlocks {
			t.Errorf("%d blocks", len(q.Blocks))
		}
	}
}
