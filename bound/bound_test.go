package bound_test

import (
	"math"
	"slices"
	"testing"

	"rushlight/api"
	"rushlight/bound"
	"rushlight/compile"
	"rushlight/inst"
)

// word is the word of an instruction.
func word(t *testing.T, i api.Inst) uint32 {
	t.Helper()
	w, e := inst.Encode(i)
	if e != api.OK {
		t.Fatalf("no instruction: %v", i)
	}
	return w
}

// with is an image with this code.
func with(t *testing.T, l ...api.Inst) api.Image {
	t.Helper()
	g := api.Image{Notes: 16}
	for _, i := range l {
		g.Code = append(g.Code, word(t, i))
	}
	return g
}

// jal is a jump so many words on.
func jal(rd, on int) api.Inst { return api.Inst{Op: api.OpJal, Rd: rd, Imm: 4 * on} }

// mark is a mark whose routine is so many words on.
func mark(on int) api.Inst { return jal(5, on) }

// call is a call so many words on.
func call(on int) api.Inst { return jal(1, on) }

// jalr jumps to the address that lies off behind a register.
func jalr(rd, rs1, off int) api.Inst {
	return api.Inst{Op: api.OpJalr, Rd: rd, Rs1: rs1, Imm: off}
}

// back is a return.
func back() api.Inst { return jalr(0, 1, 0) }

// end is the end of the mark routine.
func end() api.Inst { return jalr(0, 5, 0) }

// nop does nothing.
func nop() api.Inst { return api.Inst{Op: api.OpAddi} }

// branch is a branch so many bytes on.
func branch(op, bytes int) api.Inst { return api.Inst{Op: op, Imm: bytes} }

// The example of the chapter.
func TestExample(t *testing.T) {
	g, _, e := compile.Compile("int main() { return 7; }", api.Options{Data: 4096, Regs: 12, Notes: 16})
	if n, is := bound.Bound(g); e != api.OK || is != api.OK || n >= 700 || n < 60+16*16+39 {
		t.Errorf("%v, %v: %d", e, is, n)
	}
}

// Promise 30.1: Region of codes made by hand.
func TestRegion(t *testing.T) {
	for name, x := range map[string]struct {
		code []api.Inst
		want int
	}{
		"a mark and its routine behind it":             {[]api.Inst{mark(1), end()}, 1 + 1},
		"a mark as the last word":                      {[]api.Inst{nop(), end(), mark(-2)}, 0 + 2},
		"a mark routine that is a mark":                {[]api.Inst{mark(0), nop(), end()}, 2 + 3},
		"a path to the next mark, which it contains":   {[]api.Inst{end(), mark(-1), nop(), nop(), mark(-4)}, 3 + 1},
		"the longest of several paths":                 {[]api.Inst{end(), mark(-1), nop(), mark(-3), nop(), nop(), nop(), mark(-7), nop(), mark(-9)}, 4 + 1},
		"the routine of the first mark":                {[]api.Inst{mark(4), mark(1), end(), nop(), nop(), nop(), nop(), end()}, 1 + 4},
		"a jump":                                       {[]api.Inst{end(), mark(-1), jal(0, 3), nop(), nop(), mark(-5)}, 2 + 1},
		"a jump that keeps where it was":               {[]api.Inst{end(), mark(-1), jal(7, 3), nop(), nop(), mark(-5)}, 2 + 1},
		"a jump out of the code":                       {[]api.Inst{end(), mark(-1), jal(0, 100), nop(), mark(-4)}, 1 + 1},
		"a jump ahead of the code":                     {[]api.Inst{end(), mark(-1), jal(0, -3), nop(), mark(-4)}, 1 + 1},
		"a jump to the first word behind the code":     {[]api.Inst{end(), mark(-1), jal(0, 2), mark(-3)}, 1 + 1},
		"a jump back":                                  {[]api.Inst{end(), nop(), nop(), mark(-3), jal(0, -3)}, 4 + 1},
		"a branch, the longer way being the next":      {[]api.Inst{end(), mark(-1), branch(api.OpBeq, 12), nop(), nop(), mark(-5)}, 4 + 1},
		"a branch, the longer way being its target":    {[]api.Inst{end(), nop(), nop(), mark(-3), branch(api.OpBgeu, -12), mark(-5)}, 4 + 1},
		"a branch out of the code":                     {[]api.Inst{end(), mark(-1), branch(api.OpBne, 400), branch(api.OpBlt, -400), mark(-4)}, 3 + 1},
		"a branch by half words":                       {[]api.Inst{end(), mark(-1), branch(api.OpBge, 10), nop(), nop(), mark(-5)}, 4 + 1},
		"a branch back by half words":                  {[]api.Inst{end(), nop(), nop(), mark(-3), branch(api.OpBltu, -10), mark(-5)}, 3 + 1},
		"a call and its return":                        {[]api.Inst{end(), mark(-1), call(3), nop(), mark(-4), nop(), back()}, 1 + 2 + 2 + 1},
		"a return behind all calls":                    {[]api.Inst{end(), mark(-1), back(), call(10), mark(-4), call(10), nop(), nop(), mark(-8)}, 1 + 3 + 1},
		"a return behind a call that is the last":      {[]api.Inst{end(), mark(-1), nop(), back(), call(5)}, 2 + 1},
		"a return without calls":                       {[]api.Inst{end(), mark(-1), nop(), back(), nop()}, 2 + 1},
		"a return by another register":                 {[]api.Inst{end(), mark(-1), jalr(0, 6, 0), call(10), nop(), nop(), mark(-6)}, 1 + 1},
		"a return with an offset":                      {[]api.Inst{end(), mark(-1), jalr(0, 1, 4), call(10), nop(), nop(), mark(-6)}, 1 + 1},
		"a return that keeps where it was":             {[]api.Inst{end(), mark(-1), jalr(1, 1, 0), call(10), nop(), nop(), mark(-6)}, 1 + 1},
		"a routine that ends with a return":            {[]api.Inst{nop(), back(), mark(-2), nop()}, 1 + 2},
		"a routine that ends with any jalr":            {[]api.Inst{nop(), jalr(9, 8, 7), mark(-2), nop()}, 1 + 2},
		"a path through the routine":                   {[]api.Inst{mark(1), nop(), nop(), end()}, 3 + 3},
		"a cycle that no path reaches":                 {[]api.Inst{jal(0, 0), end(), mark(-1), nop()}, 1 + 1},
		"a cycle with a mark":                          {[]api.Inst{end(), nop(), nop(), mark(-3), nop(), jal(0, -4)}, 5 + 1},
		"two ways that meet again, and go on for long": {[]api.Inst{end(), mark(-1), branch(api.OpBeq, 8), branch(api.OpBeq, 8), branch(api.OpBeq, 8), nop(), nop(), mark(-7)}, 6 + 1},
	} {
		if n, e := bound.Region(with(t, x.code...)); n != x.want || e != api.OK {
			t.Errorf("%s: %d, %v, not %d", name, n, e, x.want)
		}
	}
}

// Promise 30.1: the errors of Region and Bound, the first of several.
func TestErrors(t *testing.T) {
	for name, x := range map[string]struct {
		code []api.Inst
		want api.Errno
	}{
		"no code":                               {nil, api.ErrNone},
		"no mark":                               {[]api.Inst{nop(), call(1), jal(4, 1), jal(6, 1), end()}, api.ErrNone},
		"no mark, and a cycle":                  {[]api.Inst{jal(0, 0)}, api.ErrNone},
		"a routine behind the code":             {[]api.Inst{mark(2), end()}, api.ErrNone},
		"a routine ahead of the code":           {[]api.Inst{mark(-1), end()}, api.ErrNone},
		"a routine without end":                 {[]api.Inst{end(), mark(1), nop()}, api.ErrNone},
		"a routine outside, and a cycle":        {[]api.Inst{mark(9), jal(0, 0), end()}, api.ErrNone},
		"a routine outside of the first of two": {[]api.Inst{mark(9), mark(1), end()}, api.ErrNone},
		"a word that leads to itself":           {[]api.Inst{mark(2), jal(0, 0), end()}, api.ErrRule},
		"a branch that leads to itself":         {[]api.Inst{mark(2), branch(api.OpBeq, 0), end()}, api.ErrRule},
		"a branch that leads to itself by less": {[]api.Inst{mark(2), branch(api.OpBeq, -2), end()}, api.ErrRule},
		"a longer cycle":                        {[]api.Inst{mark(4), nop(), nop(), branch(api.OpBne, -8), end()}, api.ErrRule},
		"a cycle behind the second mark":        {[]api.Inst{mark(2), mark(1), end(), mark(-1), nop(), jal(0, -1)}, api.ErrRule},
		"a call that goes round":                {[]api.Inst{mark(2), call(0), end()}, api.ErrRule},
		"a call behind which there is the same": {[]api.Inst{mark(3), call(1), back(), end()}, api.ErrRule},
		"a return to itself":                    {[]api.Inst{end(), mark(-1), back(), call(9), back()}, api.ErrRule},
	} {
		g := with(t, x.code...)
		if n, e := bound.Region(g); n != 0 || e != x.want {
			t.Errorf("%s: Region: %d, %v, not %v", name, n, e, x.want)
		}
		if n, e := bound.Bound(g); n != 0 || e != x.want {
			t.Errorf("%s: Bound: %d, %v, not %v", name, n, e, x.want)
		}
		for at := range len(g.Code) + 1 {
			bad := api.Image{Code: slices.Insert(slices.Clone(g.Code), at, 0)}
			if n, e := bound.Region(bad); n != 0 || e != api.ErrForm {
				t.Errorf("%s, and no instruction at %d: Region: %d, %v", name, at, n, e)
			}
			if n, e := bound.Bound(bad); n != 0 || e != api.ErrForm {
				t.Errorf("%s, and no instruction at %d: Bound: %d, %v", name, at, n, e)
			}
		}
	}
}

// Promise 30.1: Boot, with Notes below and above what there may be; nothing else of the image matters. Bound is the sum.
func TestBoot(t *testing.T) {
	g := with(t, end(), mark(-1), nop())
	for notes, want := range map[int]int{0: 60, 1: 76, 2: 92, 16: 316, 63: 60 + 16*63, 64: 1084, 65: 1084, 1000: 1084, math.MaxInt: 1084, -1: 60, -16: 60, math.MinInt: 60} {
		g.Notes = notes
		if n := bound.Boot(g); n != want || bound.Boot(api.Image{Notes: notes}) != want {
			t.Errorf("%d notes: %d", notes, n)
		}
		if n, e := bound.Bound(g); n != want+2 || e != api.OK {
			t.Errorf("%d notes: Bound: %d, %v", notes, n, e)
		}
	}
}

// Rules R1 and R3: more code than a machine has, with a path of all its words, and as many calls as returns; the image stays as it is.
func TestLarge(t *testing.T) {
	const words = 1000000
	long := with(t, end(), mark(-1))
	long.Code = append(long.Code, slices.Repeat([]uint32{word(t, nop())}, words)...)
	if n, e := bound.Region(long); n != words+1 || e != api.OK {
		t.Errorf("a long path: %d, %v", n, e)
	}
	var calls []api.Inst
	for range 30000 {
		calls = append(calls, call(-1), mark(-2))
	}
	var returns []api.Inst
	for range 30000 {
		returns = append(returns, branch(api.OpBeq, 8), back())
	}
	g := with(t, slices.Concat([]api.Inst{end(), mark(-1)}, returns, []api.Inst{mark(-1)}, calls)...)
	kept := slices.Clone(g.Code)
	if n, e := bound.Region(g); n != 30000+1+1+1 || e != api.OK {
		t.Errorf("many returns: %d, %v", n, e)
	}
	if !slices.Equal(g.Code, kept) {
		t.Errorf("changed")
	}
}
