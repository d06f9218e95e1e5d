package compile_test

import (
	"slices"
	"testing"

	"rushlight/api"
	"rushlight/check"
	"rushlight/compile"
	"rushlight/device"
	"rushlight/drawn"
	"rushlight/image"
	"rushlight/interp"
	"rushlight/record"
	"rushlight/rts"
	"rushlight/tree"
)

// outcome is what a program does with some inputs.
func outcome(s string, inputs []uint32) api.Outcome {
	p, _, _ := tree.Read(s)
	u, _, _ := check.Check(p)
	return interp.Run(u, inputs, 20000)
}

// drawnOptions is options, with little stack and few notes among them.
func drawnOptions(d *drawn.Dice) api.Options {
	o := api.Options{Data: device.MaxData, Regs: d.Roll(13), Notes: 2 + d.Roll(63), Plain: d.Roll(2) == 0}
	if d.Roll(2) == 0 {
		o.Notes = 2 + d.Roll(4)
	}
	if d.Roll(3) == 0 {
		o.Data = 4096 + 4*d.Roll(2000)
	}
	return o
}

// failures is so many ascending numbers, each at most apart from the one ahead of it.
func failures(d *drawn.Dice, count, apart int) []int {
	var l []int
	at := 0
	for range count {
		at += 1 + d.Roll(apart)
		l = append(l, at)
	}
	return l
}

// ran is a machine that has run an image.
func ran(t *testing.T, g api.Image, inputs []uint32, fails []int, n int) *device.Machine {
	t.Helper()
	m, e := image.Load(g, inputs)
	if e != api.OK {
		t.Fatalf("Load: %v", e)
	}
	m.Run(n, fails)
	return m
}

// agrees reports whether a machine has done a part of what a program does, or all of it if it has halted.
func agrees(m *device.Machine, want api.Outcome) bool {
	switch {
	case m.State() == api.Faulted:
		return false
	case m.State() == api.Halted && m.Exit() != rts.FullCode:
		return m.Exit() == want.Exit && record.Whole(m.Log(), want.Out)
	}
	return record.Begins(m.Log(), want.Out)
}

// alike reports whether what two machines have output is the same, as far as both have run.
func alike(a, b *device.Machine) bool {
	l, m := record.Values(a.Log()), record.Values(b.Log())
	n := min(len(l), len(m))
	return slices.Equal(l[:n], m[:n])
}

// Promise 29.4, and P1, P2 and P4 of the whole: drawn programs with drawn options, without failures and with drawn ones.
func TestFailOften(t *testing.T) {
	programs, full := 0, 0
	for n := range 250 {
		inputs := []uint32{uint32(n), 3, 0, 7}
		s := drawn.Tame(n)
		if n%4 == 0 {
			s = drawn.Wild(n)
		}
		want := outcome(s, inputs)
		if want.E != api.OK {
			continue
		}
		programs++
		d := drawn.Dice(n)
		var machines []*device.Machine
		for range 2 {
			o := drawnOptions(&d)
			g, _, e := compile.Compile(s, o)
			if e != api.OK {
				continue
			}
			for _, apart := range []int{0, 300, 1500} {
				var fails []int
				if apart > 0 {
					fails = failures(&d, 200, apart)
				}
				m := ran(t, g, inputs, fails, 3000000)
				if !agrees(m, want) || m.State() == api.Running || apart == 0 && record.Replays(m.Log()) > 0 {
					t.Fatalf("program %d with %v, failures %d apart: state %d, exit %d, %v, not %v", n, o, apart, m.State(), m.Exit(), m.Log(), want)
				}
				if m.Exit() == rts.FullCode {
					full++
				}
				machines = append(machines, m)
			}
		}
		for _, m := range machines {
			if !alike(m, machines[0]) {
				t.Fatalf("program %d: other outputs with other options", n)
			}
		}
	}
	if programs < 120 || full < 5 || full > programs {
		t.Errorf("%d programs, %d without enough stack", programs, full)
	}
}

// Promise 29.4: programs whose power fails once, at each place, and again soon after that.
func TestFailEverywhere(t *testing.T) {
	inputs := []uint32{7, 250, 3, 9}
	for n, s := range []string{
		"int g=5;int main(){g=g+in();out(g);g++;out(g);g+=in();return g;}",
		"int n;int f(int a,int b){n++;if(a<2)return b;return f(a-1,b+a)+f(a-2,n);}int main(){out(f(4,in()));return n;}",
		"int a[4]={4,3,2,1};int swap(int*a,int*b){int t=*a;*a=*b;*b=t;return t;}int main(){int i;int j;for(i=0;i<4;i++)for(j=0;j<3;j++)if(a[j]>a[j+1])swap(&a[j],a+j+1);for(i=0;i<4;i++)out(a[i]);return in();}",
		"struct s{int a;char b;struct s*n;};struct s t[2];int main(){struct s*p=t;int i;t[0].n=t+1;t[1].n=t;for(i=0;i<4;i++){p->a+=in();p->b+=p->a;p=p->n;out(p->a+p->b);}return p->b;}",
	} {
		want := outcome(s, inputs)
		if want.E != api.OK {
			t.Fatalf("program %d: %v", n, want)
		}
		d := drawn.Dice(n)
		for _, o := range []api.Options{{Data: 65536, Regs: 12, Notes: 64}, {Data: 4096, Regs: 0, Notes: 2, Plain: true}, {Data: 4200, Regs: 3, Notes: 4}} {
			g := compiled(t, s, o)
			steps := ran(t, g, inputs, nil, 1000000).Steps()
			for at := 0; at < steps; at += 1 + steps/1500 {
				fails := []int{at, at + 1 + d.Roll(60), at + 200 + d.Roll(200)}
				if m := ran(t, g, inputs, fails, 1000000); m.State() != api.Halted || !agrees(m, want) {
					t.Fatalf("program %d with %v, %v: %v, not %v", n, o, fails, m.Log(), want)
				}
			}
		}
	}
}

// Promise 29.4: programs that go on and on output the same with any options, as far as both run.
func TestEndless(t *testing.T) {
	for _, s := range []string{
		"int g;int main(){for(;;){g=g*3+in()+1;out(g);}}",
		"int a[8];int main(){int i=0;while(1){a[i&7]+=i;a[(i+1)&7]^=a[i&7];out(a[i&7]);i++;}}",
		"int n;int f(int k){n+=k;out(n);return k?f(k-1)+1:0;}int main(){do f(5);while(n);return 1;}",
	} {
		want := outcome(s, []uint32{1, 2, 3})
		if want.E != api.ErrFuel {
			t.Fatalf("%s: %v", s, want)
		}
		d := drawn.Dice(7)
		var machines []*device.Machine
		for range 6 {
			o := drawnOptions(&d)
			g := compiled(t, s, o)
			for _, fails := range [][]int{nil, failures(&d, 200, 1500)} {
				m := ran(t, g, []uint32{1, 2, 3}, fails, 40000)
				if m.State() != api.Running || !record.Orderly(m.Log()) || len(m.Log()) < 20 {
					t.Fatalf("%s with %v: state %d, %v", s, o, m.State(), m.Log())
				}
				machines = append(machines, m)
			}
		}
		for _, m := range machines {
			l := record.Values(m.Log())
			if n := min(len(l), len(want.Out)); !alike(m, machines[0]) || !slices.Equal(l[:n], want.Out[:n]) {
				t.Fatalf("%s: other outputs: %v", s, l)
			}
		}
	}
}
