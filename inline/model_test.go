package inline_test

import (
	"slices"
	"testing"

	"rushlight/api"
	"rushlight/check"
	"rushlight/drawn"
	"rushlight/flow"
	"rushlight/inline"
	"rushlight/ir"
	"rushlight/irrun"
	"rushlight/lower"
	"rushlight/procs"
	. "rushlight/sketch"
	"rushlight/tree"
)

// small is what the chapter calls so.
func small(p api.Proc) bool {
	count := len(p.Blocks)
	for _, b := range p.Blocks {
		for _, i := range b.Ins {
			if count++; i.Op == api.IrCall {
				return false
			}
		}
	}
	return count <= 24 && len(p.Objects) == 0
}

// inlinedCall is a procedure, with the call that is instruction k of block n inlined.
func inlinedCall(m api.Module, p api.Proc, n, k int) api.Proc {
	p = procs.Clone(p)
	call := p.Blocks[n].Ins[k]
	callee := procs.Clone(m.Procs[call.Obj])
	first, rest := len(p.Blocks), len(p.Blocks)+len(callee.Blocks)
	after := p.Blocks[n]
	after.Ins = after.Ins[k+1:]
	p.Blocks[n] = Jump(first, p.Blocks[n].Ins[:k:k]...)
	for r, arg := range call.Args {
		p.Blocks[n].Ins = append(p.Blocks[n].Ins, Copy(p.Regs+r, arg))
	}
	in, _ := flow.Live(callee)
	for r := callee.Params; r < callee.Regs; r++ {
		if in[0][r] {
			p.Blocks[n].Ins = append(p.Blocks[n].Ins, Const(p.Regs+r, 0))
		}
	}
	for _, b := range callee.Blocks {
		for k := range b.Ins {
			for _, r := range []*int{&b.Ins[k].D, &b.Ins[k].A, &b.Ins[k].B} {
				if *r != None {
					*r += p.Regs
				}
			}
		}
		switch {
		case b.End == api.EndRet && call.D == None:
			b = Jump(rest, b.Ins...)
		case b.End == api.EndRet:
			b = Jump(rest, append(b.Ins, Copy(call.D, p.Regs+b.A))...)
		case b.End == api.EndBranch:
			b = Branch(p.Regs+b.A, first+b.To, first+b.Else, b.Ins...)
		default:
			b = Jump(first+b.To, b.Ins...)
		}
		p.Blocks = append(p.Blocks, b)
	}
	p.Blocks = append(p.Blocks, after)
	p.Regs += callee.Regs
	return p
}

// inlined is Inline as the chapter words it.
func inlined(m api.Module, p api.Proc) api.Proc {
	for n := 0; n < len(p.Blocks); n++ {
		for k, i := range p.Blocks[n].Ins {
			if i.Op != api.IrCall || !small(m.Procs[i.Obj]) {
				continue
			}
			q := inlinedCall(m, p, n, k)
			if ir.Size(q) > 2000 || q.Regs > 8000 {
				return p
			}
			p = q
			break
		}
	}
	return p
}

// enlarged is a module whose main is so large that only some calls can be inlined.
func enlarged(n int, m api.Module) api.Module {
	d := drawn.Dice(n)
	p := &m.Procs[0]
	if d.Roll(2) == 0 {
		p.Regs = 8000 - d.Roll(30)
		return m
	}
	b := &p.Blocks[d.Roll(len(p.Blocks))]
	b.Ins = slices.Concat(b.Ins, slices.Repeat([]api.Ins{Mark()}, max(0, 2000-d.Roll(50)-ir.Size(*p))))
	return m
}

// Promises 20.1 to 20.3: drawn modules, held against the chapter's words, and run.
func TestDrawn(t *testing.T) {
	inlinedCalls, kept, callers := 0, 0, 0
	for n := range 1500 {
		m := drawn.CallModule(n)
		if n%5 == 4 {
			m = enlarged(n, m)
		}
		all := inline.All(m)
		for k, p := range m.Procs {
			want := inlined(m, p)
			if got := inline.Inline(m, k); !procs.Equal(got, want) {
				t.Fatalf("%s becomes\n%snot\n%s", ir.Text(p), ir.Text(got), ir.Text(want))
			}
			if !procs.Equal(all.Procs[k], want) || small(p) != inline.Small(p) {
				t.Fatalf("%s: %v, %s", ir.Text(p), inline.Small(p), ir.Text(all.Procs[k]))
			}
			if was, is := len(callsLeft(p)), len(callsLeft(want)); is < was {
				callers, inlinedCalls, kept = callers+1, inlinedCalls+was-is, kept+is
			}
		}
		at := -1
		if s := drawn.Unequal(m, 20000, func(api.Proc) api.Proc { at++; return inline.Inline(m, at) }); s != "" {
			t.Fatalf("%d: %s", n, s)
		}
		if ir.Check(all) != api.OK {
			t.Fatalf("%d: not valid", n)
		}
		if was := irrun.Run(m, []uint32{5, 6}, 20000); was.E == api.OK && !drawn.SameOutcome(was, irrun.Run(all, []uint32{5, 6}, irrun.MaxFuel)) {
			t.Fatalf("%d: another outcome", n)
		}
	}
	if inlinedCalls < 6000 || kept < 500 || callers < 1500 {
		t.Errorf("%d calls inlined, %d kept, in %d procedures", inlinedCalls, kept, callers)
	}
}

// Promise 20.3: one procedure of a module alone, with the others as they were.
func TestAlone(t *testing.T) {
	for n := range 300 {
		m := drawn.CallModule(n)
		for k := range m.Procs {
			at := -1
			if s := drawn.Unequal(m, 20000, func(p api.Proc) api.Proc {
				if at++; at != k {
					return p
				}
				return inline.Inline(m, k)
			}); s != "" {
				t.Fatalf("%d, %d: %s", n, k, s)
			}
		}
	}
}

// lowered is a text's module.
func lowered(t *testing.T, text string) api.Module {
	p, at, e := tree.Read(text)
	if e != api.OK {
		t.Fatalf("%s: %v at %v", text, e, at)
	}
	u, at, e := check.Check(p)
	if e != api.OK {
		t.Fatalf("%s: %v at %v", text, e, at)
	}
	m, e := lower.Lower(u)
	if e != api.OK {
		t.Fatalf("%s: %v", text, e)
	}
	return m
}

// Promises 20.1 and 20.3: programs with small functions, no call of which is left.
func TestPrograms(t *testing.T) {
	for _, text := range []string{
		"int f(int a) { return a + 1; } int main() { int x = in(); out(f(x)); return f(f(x)); }",
		"int f(int a) { return a + 1; } int main() { int x = in(); x = f(x); return x; }",
		"int abs(int a) { if (a < 0) return -a; return a; } int main() { int i; for (i = -3; i <= abs(-3); i++) out(abs(i)); return abs(in()); }",
		"int sum(int n) { int s = 0; while (n > 0) { s += n; n--; } return s; } int main() { int i = 0; while (i < 5) out(sum(i++)); return sum(in() & 15); }",
		"int g; void set(int *p, int v) { *p = v; } int get(int *p) { return *p; } int main() { int x; set(&g, in()); set(&x, g + 1); out(get(&x)); return get(&g); }",
		"int max(int a, int b) { return a < b ? b : a; } int main() { out(max(in(), max(in(), in()))); return max(1, 2) && max(0, 0) || max(-1, 1); }",
		"int *at(int *p, int n) { return p + n; } int main() { int a[3] = { 4, 5, 6 }; *at(a, 1) = in(); out(a[1]); return *at(a, 0) + *at(a + 1, 1); }",
	} {
		m := lowered(t, text)
		all := inline.All(m)
		if left := callsLeft(all.Procs[m.Main]); ir.Check(all) != api.OK || len(left) > 0 {
			t.Errorf("%s: %v are left", text, left)
		}
		for _, inputs := range [][]uint32{nil, {1}, {300, 7, 8}, {1<<32 - 4, 5}} {
			was, is := irrun.Run(m, inputs, 100000), irrun.Run(all, inputs, 200000)
			if was.E != api.OK || !drawn.SameOutcome(was, is) {
				t.Errorf("%s: %v, not %v", text, is, was)
			}
		}
	}
	m := lowered(t, "int f(int a) { return a + 1; } int main() { int x = in(); x = f(x); return x; }")
	if was, is := len(m.Procs[m.Main].Blocks), len(inline.Inline(m, m.Main).Blocks); is > was+3 {
		t.Errorf("%d blocks, %d before", is, was)
	}
}
