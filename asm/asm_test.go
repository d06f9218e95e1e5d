package asm_test

import (
	"math"
	"reflect"
	"slices"
	"testing"

	"rushlight/api"
	"rushlight/asm"
	"rushlight/inst"
)

// change is an item after one change.
func change(x api.Item, f func(x *api.Item)) api.Item {
	f(&x)
	return x
}

// invalidItems lists items each of which breaks one rule.
func invalidItems() map[string]api.Item {
	i := asm.Inst(api.OpAdd, 1, 2, 3, 0)
	l, b, j, c := asm.Label(5), asm.Branch(api.OpBne, 1, 2, 5), asm.Jump(1, 5), asm.Const(5, 6)
	m := map[string]api.Item{
		"no kind":        {},
		"kind -1":        change(i, func(x *api.Item) { x.Kind = -1 }),
		"kind 6":         change(c, func(x *api.Item) { x.Kind = 6 }),
		"no instruction": {Kind: api.ItemInst},
		"branch op 0":    {Kind: api.ItemBranch},
		"jump op 0":      {Kind: api.ItemJump},

		"inst: label":     change(i, func(x *api.Item) { x.Label = 1 }),
		"inst: register":  asm.Inst(api.OpAdd, 32, 2, 3, 0),
		"inst: negative":  asm.Inst(api.OpAdd, 1, -1, 3, 0),
		"inst: immediate": asm.Inst(api.OpAddi, 1, 2, 0, 2048),
		"inst: unused":    asm.Inst(api.OpAddi, 1, 2, 3, 0),
		"inst: odd":       asm.Inst(api.OpBeq, 0, 2, 3, 5),

		"const: label": change(c, func(x *api.Item) { x.Label = 1 }),
		"const: op":    change(c, func(x *api.Item) { x.Inst.Op = api.OpAddi }),
		"const: rs1":   change(c, func(x *api.Item) { x.Inst.Rs1 = 1 }),
		"const: rs2":   change(c, func(x *api.Item) { x.Inst.Rs2 = 1 }),
		"const: rd 32": change(c, func(x *api.Item) { x.Inst.Rd = 32 }),
		"const: rd -1": change(c, func(x *api.Item) { x.Inst.Rd = -1 }),
		"const: less":  change(c, func(x *api.Item) { x.Inst.Imm = math.MinInt32 - 1 }),
		"const: more":  change(c, func(x *api.Item) { x.Inst.Imm = math.MaxUint32 + 1 }),
		"const: least": change(c, func(x *api.Item) { x.Inst.Imm = math.MinInt }),
		"const: most":  change(c, func(x *api.Item) { x.Inst.Imm = math.MaxInt }),

		"branch: jal":     change(b, func(x *api.Item) { x.Inst = j.Inst }),
		"branch: store":   change(b, func(x *api.Item) { x.Inst.Op = api.OpSw }),
		"branch: add":     change(b, func(x *api.Item) { x.Inst = i.Inst }),
		"branch: imm":     change(b, func(x *api.Item) { x.Inst.Imm = 8 }),
		"branch: rd":      change(b, func(x *api.Item) { x.Inst.Rd = 1 }),
		"branch: rs1 32":  change(b, func(x *api.Item) { x.Inst.Rs1 = 32 }),
		"branch: rs2 -1":  change(b, func(x *api.Item) { x.Inst.Rs2 = -1 }),
		"jump: jalr":      change(j, func(x *api.Item) { x.Inst.Op = api.OpJalr }),
		"jump: lui":       change(j, func(x *api.Item) { x.Inst.Op = api.OpLui }),
		"jump: branch":    change(j, func(x *api.Item) { x.Inst = b.Inst }),
		"jump: imm":       change(j, func(x *api.Item) { x.Inst.Imm = 8 }),
		"jump: rs1":       change(j, func(x *api.Item) { x.Inst.Rs1 = 1 }),
		"jump: rs2":       change(j, func(x *api.Item) { x.Inst.Rs2 = 1 }),
		"jump: rd 32":     change(j, func(x *api.Item) { x.Inst.Rd = 32 }),
		"jump: rd -1":     change(j, func(x *api.Item) { x.Inst.Rd = -1 }),
		"label: with add": change(l, func(x *api.Item) { x.Inst = i.Inst }),
	}
	for name, f := range map[string]func(i *api.Inst, n int){
		"op":  func(i *api.Inst, n int) { i.Op = n },
		"rd":  func(i *api.Inst, n int) { i.Rd = n },
		"rs1": func(i *api.Inst, n int) { i.Rs1 = n },
		"rs2": func(i *api.Inst, n int) { i.Rs2 = n },
		"imm": func(i *api.Inst, n int) { i.Imm = n },
	} {
		m["label: "+name] = change(l, func(x *api.Item) { f(&x.Inst, 1) })
	}
	for name, x := range map[string]api.Item{"label": l, "branch": b, "jump": j} {
		m[name+": to -1"] = change(x, func(x *api.Item) { x.Label = -1 })
		m[name+": to 4096"] = change(x, func(x *api.Item) { x.Label = asm.MaxLabels })
		m[name+": to the least"] = change(x, func(x *api.Item) { x.Label = math.MinInt })
	}
	return m
}

// validItems lists items of all kinds, at the ends of what they may hold.
func validItems() []api.Item {
	l := []api.Item{
		asm.Inst(api.OpAdd, 31, 0, 31, 0),
		asm.Inst(api.OpLui, 1, 0, 0, -1<<31),
		asm.Inst(api.OpBeq, 0, 1, 2, -4096),
		asm.Inst(api.OpJal, 1, 0, 0, 1<<20-2),
		asm.Inst(api.OpJalr, 0, 1, 0, 2047),
		asm.Inst(api.OpSw, 0, 1, 2, -2048),
		asm.Label(0), asm.Label(asm.MaxLabels - 1),
		asm.Jump(0, 0), asm.Jump(31, asm.MaxLabels-1),
		asm.Const(0, 0), asm.Const(31, math.MaxUint32),
		{Kind: api.ItemConst, Inst: api.Inst{Rd: 1, Imm: math.MinInt32}},
		{Kind: api.ItemConst, Inst: api.Inst{Rd: 1, Imm: -1}},
	}
	for op := api.OpBeq; op <= api.OpBgeu; op++ {
		l = append(l, asm.Branch(op, 31, 0, 0), asm.Branch(op, 0, 31, asm.MaxLabels-1))
	}
	return l
}

// Promise 5.1.
func TestRight(t *testing.T) {
	for name, x := range invalidItems() {
		if asm.Right(x) {
			t.Errorf("%s: %v is valid", name, x)
		}
	}
	for _, x := range validItems() {
		if !asm.Right(x) {
			t.Errorf("%v is not valid", x)
		}
	}
}

// Promise 5.1: the contents are those that are given, valid or not.
func TestMakers(t *testing.T) {
	for _, n := range []int{0, 1, 31, 4095, 4096, -1, math.MaxInt, math.MinInt} {
		for _, x := range []struct {
			name      string
			got, want api.Item
		}{
			{"Const", asm.Const(n, 7), api.Item{Kind: 5, Inst: api.Inst{Rd: n, Imm: 7}}},
			{"Inst", asm.Inst(n, n+1, n+2, n+3, n+4), api.Item{Kind: 1, Inst: api.Inst{Op: n, Rd: n + 1, Rs1: n + 2, Rs2: n + 3, Imm: n + 4}}},
			{"Label", asm.Label(n), api.Item{Kind: 2, Label: n}},
			{"Branch", asm.Branch(n, n+1, n+2, n+3), api.Item{Kind: 3, Inst: api.Inst{Op: n, Rs1: n + 1, Rs2: n + 2}, Label: n + 3}},
			{"Jump", asm.Jump(n, n+1), api.Item{Kind: 4, Inst: api.Inst{Op: 3, Rd: n}, Label: n + 1}},
		} {
			if x.got != x.want {
				t.Errorf("%s of %d: %v, not %v", x.name, n, x.got, x.want)
			}
		}
	}
	for _, n := range []uint32{0, 1, 0x7fffffff, 0x80000000, math.MaxUint32} {
		if got := asm.Const(1, n).Inst.Imm; got != int(n) {
			t.Errorf("Const of %d: %d", n, got)
		}
	}
}

// Promise 5.1.
func TestContrary(t *testing.T) {
	pairs := map[int]int{api.OpBeq: api.OpBne, api.OpBlt: api.OpBge, api.OpBltu: api.OpBgeu}
	want := map[int]int{}
	for a, b := range pairs {
		want[a], want[b] = b, a
	}
	for op := -2; op < 60; op++ {
		if got := asm.Contrary(op); got != want[op] {
			t.Errorf("Contrary(%d): %d, not %d", op, got, want[op])
		}
	}
	if asm.Contrary(math.MaxInt) != 0 || asm.Contrary(math.MinInt) != 0 {
		t.Error("Contrary of the greatest or least number")
	}
}

// pad is so many instructions.
func pad(n int) []api.Item {
	return slices.Repeat([]api.Item{asm.Inst(api.OpAddi, 0, 0, 0, 0)}, n)
}

// join is the items of all lists.
func join(lists ...[]api.Item) []api.Item { return slices.Concat(lists...) }

// one is a list of one item.
func one(x api.Item) []api.Item { return []api.Item{x} }

// Promise 5.2: the errors.
func TestErrors(t *testing.T) {
	bad, twice, none := one(api.Item{}), join(one(asm.Label(1)), one(asm.Label(1))), one(asm.Jump(0, 9))
	for _, x := range []struct {
		name string
		l    []api.Item
		want api.Errno
	}{
		{"too many", pad(asm.MaxItems + 1), api.ErrLong},
		{"too many, and all else", join(bad, twice, none, pad(asm.MaxItems)), api.ErrLong},
		{"invalid", bad, api.ErrArg},
		{"invalid at the end", join(twice, none, bad), api.ErrArg},
		{"twice", twice, api.ErrTwice},
		{"twice far apart", join(one(asm.Label(0)), pad(9), one(asm.Label(0))), api.ErrTwice},
		{"twice after none", join(none, twice), api.ErrTwice},
		{"none", none, api.ErrNone},
		{"none for a branch", one(asm.Branch(api.OpBeq, 0, 0, 0)), api.ErrNone},
		{"none, but others", join(one(asm.Label(8)), none, one(asm.Label(10))), api.ErrNone},
	} {
		if words, labels, e := asm.Assemble(x.l); e != x.want || words != nil || labels != nil {
			t.Errorf("%s: %d words, labels %v, %v", x.name, len(words), labels, e)
		}
	}
	for name, x := range invalidItems() {
		if words, labels, e := asm.Assemble(join(pad(1), one(x))); e != api.ErrArg || words != nil || labels != nil {
			t.Errorf("%s: %v %v %v", name, words, labels, e)
		}
	}
}

// assemble assembles what has no error, and decodes the words.
func assemble(t *testing.T, l []api.Item) ([]api.Inst, []int) {
	t.Helper()
	words, labels, e := asm.Assemble(l)
	if e != api.OK {
		t.Fatalf("%d items: %v", len(l), e)
	}
	var insts []api.Inst
	for k, w := range words {
		i, e := inst.Decode(w)
		if e != api.OK {
			t.Fatalf("word %d: %#x is no instruction", k, w)
		}
		insts = append(insts, i)
	}
	return insts, labels
}

// Promise 5.2: the chapter's examples.
func TestExamples(t *testing.T) {
	words, labels, e := asm.Assemble([]api.Item{asm.Label(0), asm.Inst(api.OpAddi, 1, 1, 0, -1), asm.Branch(api.OpBne, 1, 0, 0)})
	if !slices.Equal(words, []uint32{0xfff08093, 0xfe009ee3}) || !slices.Equal(labels, []int{0}) || e != api.OK {
		t.Errorf("a loop: %#x %v %v", words, labels, e)
	}
	words, labels, e = asm.Assemble(one(asm.Const(5, 0x12345678)))
	if !slices.Equal(words, []uint32{0x123452b7, 0x67828293}) || len(labels) != 0 || e != api.OK {
		t.Errorf("a constant: %#x %v %v", words, labels, e)
	}
}

// constants lists numbers around all that a constant's words turn on.
func constants() []uint32 {
	var l []uint32
	for _, n := range []int{0, 0x7ff, 0x800, 0xfff, 0x1000, 0x17ff, 0x1800, 0x12345678, 0x7ffff7ff, 0x7ffff800, 0x7fffffff, 0x80000000, 0x800007ff, 0x80000800, 0xfffff000, 0xfffff7ff, 0xfffff800, 0xffffffff} {
		for d := -2; d <= 2; d++ {
			l = append(l, uint32(n+d))
		}
	}
	return l
}

// Promise 5.2: the words of a constant.
func TestConstants(t *testing.T) {
	for k, n := range constants() {
		rd := k % 32
		signed := int(int32(n))
		var want []api.Inst
		switch low := (signed+0x800)&0xfff - 0x800; {
		case signed >= -2048 && signed <= 2047:
			want = []api.Inst{{Op: api.OpAddi, Rd: rd, Imm: signed}}
		case n%4096 == 0:
			want = []api.Inst{{Op: api.OpLui, Rd: rd, Imm: signed}}
		default:
			want = []api.Inst{{Op: api.OpLui, Rd: rd, Imm: int(int32(signed - low))}, {Op: api.OpAddi, Rd: rd, Rs1: rd, Imm: low}}
		}
		negative := api.Item{Kind: api.ItemConst, Inst: api.Inst{Rd: rd, Imm: signed}}
		for _, x := range []api.Item{asm.Const(rd, n), negative} {
			if got, _ := assemble(t, one(x)); !slices.Equal(got, want) {
				t.Errorf("%v: %v, not %v", x, got, want)
			}
		}
	}
}

// Promise 5.2: instructions keep their words, with branches and jumps among them.
func TestInstructions(t *testing.T) {
	var l []api.Item
	var want []api.Inst
	for _, x := range validItems() {
		if x.Kind == api.ItemInst {
			l, want = append(l, x), append(want, x.Inst)
		}
	}
	if got, _ := assemble(t, l); !slices.Equal(got, want) {
		t.Errorf("%v, not %v", got, want)
	}
}

// Promise 5.2: the addresses of labels.
func TestLabels(t *testing.T) {
	all := make([]api.Item, 0, asm.MaxLabels)
	for n := range asm.MaxLabels {
		all = append(all, asm.Label(n))
	}
	for _, x := range []struct {
		name string
		l    []api.Item
		want []int
	}{
		{"none", pad(3), nil},
		{"no items", nil, nil},
		{"only 0", one(asm.Label(0)), []int{0}},
		{"only 2", join(pad(1), one(asm.Label(2))), []int{-1, -1, 4}},
		{"descending, at one place and at the end", join(one(asm.Label(5)), one(asm.Label(3)), pad(2), one(asm.Const(1, 0x12345678)), one(asm.Label(1))), []int{-1, 16, -1, 0, -1, 0}},
		{"the greatest", join(pad(2), one(asm.Label(asm.MaxLabels-1))), append(slices.Repeat([]int{-1}, asm.MaxLabels-1), 8)},
		{"all", all, make([]int, asm.MaxLabels)},
		{"one that is not asked for", join(one(asm.Jump(1, 0)), one(asm.Label(0)), pad(1), one(asm.Label(1))), []int{4, 8}},
	} {
		if _, got := assemble(t, x.l); !slices.Equal(got, x.want) {
			t.Errorf("%s: %v", x.name, got)
		}
	}
}

// Rule R3: the items stay as they are, and results share no memory.
func TestSharing(t *testing.T) {
	l := join(one(asm.Label(1)), pad(1100), one(asm.Branch(api.OpBlt, 1, 2, 1)), one(asm.Const(3, 0xfff)), one(asm.Jump(1, 1)))
	before := slices.Clone(l)
	words, labels, _ := asm.Assemble(l)
	first, second := slices.Clone(words), slices.Clone(labels)
	clear(words)
	clear(labels)
	if !reflect.DeepEqual(l, before) {
		t.Error("the items were modified")
	}
	words, labels, e := asm.Assemble(l)
	if !slices.Equal(words, first) || !slices.Equal(labels, second) || e != api.OK {
		t.Error("a second call has other results")
	}
}
