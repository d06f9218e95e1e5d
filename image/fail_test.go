package image_test

import (
	"slices"
	"testing"

	"rushlight/api"
	"rushlight/device"
	"rushlight/drawn"
	"rushlight/image"
	"rushlight/inst"
	"rushlight/record"
	"rushlight/rts"
)

// texts are programs that write what they have read, in all ways.
func texts() []string {
	return []string{
		"int main(){out(1);out(2);return 3;}",
		"int g=5;int main(){g=g+in();out(g);g++;out(g);g+=in();return g;}",
		"char c[6]={1,2,3,4,5,6};int main(){int i;for(i=0;i<6;i++){c[i]+=c[5-i];out(c[i]);}return c[3];}",
		"int n;int f(int a,int b){n++;if(a<2)return b;return f(a-1,b+a)+f(a-2,n);}int main(){out(f(5,in()));return n;}",
		"struct s{int a;char b;struct s*n;};struct s g[3];void link(struct s*p,int k){p->a=k;p->b=300+k;p->n=&g[k];}int main(){int i;struct s*p;for(i=0;i<3;i++)link(&g[i],2-i);p=g;for(i=0;i<4;i++){p->a+=in();p->b+=p->a;p=p->n;out(p->a+p->b);}return p->b;}",
		"int swap(int*a,int*b){int t;t=*a;*a=*b;*b=t;return t;}int main(){int v[4]={4,3,2,1};int i;int j;for(i=0;i<4;i++)for(j=0;j<3;j++)if(v[j]>v[j+1])swap(&v[j],v+j+1);for(i=0;i<4;i++)out(v[i]);return in();}",
	}
}

// agrees reports whether a machine has done a part of what a program does, or all of it if it has halted.
func agrees(m *device.Machine, want api.Outcome) bool {
	switch {
	case m.State() == api.Faulted:
		return false
	case m.State() == api.Halted && m.Exit() != rts.FullCode:
		return m.Exit() == want.Exit && record.Whole(m.Log(), want.Out)
	}
	return record.Begins(m.Log(), want.Out)
}

// loaded is a machine with an image.
func loaded(t *testing.T, g api.Image, inputs []uint32) *device.Machine {
	t.Helper()
	m, e := image.Load(g, inputs)
	if e != api.OK {
		t.Fatalf("Load: %v", e)
	}
	return m
}

// Promise 28.2: programs whose power fails once, at each place, and once more soon after that.
func TestFailEverywhere(t *testing.T) {
	inputs := []uint32{7, 250, 3, 9}
	for n, s := range texts() {
		m, want, is := drawn.DefinedText(s, inputs)
		if !is {
			t.Fatalf("program %d: %v", n, want)
		}
		d := drawn.Dice(n)
		for _, o := range []api.Options{{Data: 65536, Regs: 12, Notes: 64}, {Data: 4096, Regs: 0, Notes: 2}, {Data: 4200, Regs: 2, Notes: 5}} {
			g := linked(t, m, o)
			x := loaded(t, g, inputs)
			if x.Run(1000000, nil) != api.Halted || !agrees(x, want) || record.Replays(x.Log()) > 0 {
				t.Fatalf("program %d with %v: %v, not %v", n, o, x.Log(), want)
			}
			for at := 0; at < x.Steps(); at += 1 + x.Steps()/3000 {
				x := loaded(t, g, inputs)
				fails := []int{at, at + 1 + d.Roll(60), at + 200 + d.Roll(200)}
				if x.Run(1000000, fails); x.State() != api.Halted || !agrees(x, want) {
					t.Fatalf("program %d with %v, %v: %v, not %v", n, o, fails, x.Log(), want)
				}
			}
		}
	}
}

// drawnImage is the image of a tame program with drawn options, and what the program does; or false.
func drawnImage(n int, inputs []uint32) (api.Image, api.Outcome, bool) {
	m, want, is := drawn.Defined(n, inputs)
	if !is {
		return api.Image{}, want, false
	}
	d := drawn.Dice(n)
	if d.Roll(2) == 0 {
		m = drawn.Better(m)
	}
	o := api.Options{Data: 65536, Regs: d.Roll(13), Notes: 2 + d.Roll(63)}
	if d.Roll(2) == 0 {
		o.Notes = 2 + d.Roll(4)
	}
	if d.Roll(3) == 0 {
		o.Data = 4096 + 4*d.Roll(2000)
	}
	g, e := image.Link(m, o)
	return g, want, e == api.OK
}

// failures is so many ascending numbers, each at most apart from the one ahead of it.
func failures(d *drawn.Dice, count, apart int) []int {
	var l []int
	at := 0
	for range count {
		at += 1 + d.Roll(apart)
		l = append(l, at)
	}
	return l
}

// withoutNotes is an image that makes no notes: where one would be, none is counted.
func withoutNotes(g api.Image) api.Image {
	count, _ := inst.Encode(api.Inst{Op: api.OpAddi, Rd: 3, Rs1: 3, Imm: 12})
	nothing, _ := inst.Encode(api.Inst{Op: api.OpAddi})
	store, _ := inst.Encode(api.Inst{Op: api.OpSw, Rs1: 3, Rs2: 4, Imm: 8})
	g.Code = slices.Clone(g.Code)
	for k, w := range g.Code {
		if w == count || w == store {
			g.Code[k] = nothing
		}
	}
	return g
}

// Promise 28.2, and P1, P2 and P4 of the whole: drawn programs, without failures and with drawn ones. Without their notes many do something else.
func TestFailOften(t *testing.T) {
	programs, full, replays, broken := 0, 0, 0, 0
	for n := range 500 {
		inputs := []uint32{uint32(n), 3, 0, 7}
		g, want, is := drawnImage(n, inputs)
		if !is {
			continue
		}
		programs++
		d := drawn.Dice(n)
		for _, apart := range []int{0, 150, 400, 1500} {
			x := loaded(t, g, inputs)
			var fails []int
			if apart > 0 {
				fails = failures(&d, 300, apart)
			}
			x.Run(2000000, fails)
			if !agrees(x, want) || x.State() == api.Running {
				t.Fatalf("program %d, failures %d apart: state %d, exit %d, %v, not %v", n, apart, x.State(), x.Exit(), record.Values(x.Log()), want)
			}
			if x.Exit() == rts.FullCode {
				full++
			}
			if again := record.Replays(x.Log()); apart > 0 {
				replays += again
			} else if again > 0 {
				t.Fatalf("program %d: %d replays without failures", n, again)
			}
		}
		x := loaded(t, withoutNotes(g), inputs)
		if x.Run(2000000, failures(&d, 300, 400)); !agrees(x, want) {
			broken++
		}
	}
	if programs < 400 || full < 10 || replays < 200 || broken < programs/4 {
		t.Errorf("%d programs, of which %d need notes; %d runs without enough stack, %d replays", programs, broken, full, replays)
	}
}

// Promise 28.2: a machine that has not halted yet has put out a part of what the program does, and what the program goes on to do does not hang on when
// the power fails: a run with failures is followed at drawn times.
func TestFollowed(t *testing.T) {
	for n := range 60 {
		inputs := []uint32{uint32(n), 3, 0, 7}
		g, want, is := drawnImage(n, inputs)
		if !is {
			continue
		}
		d := drawn.Dice(n)
		x := loaded(t, g, inputs)
		for x.State() == api.Running && x.Steps() < 200000 {
			x.Run(x.Steps()+1+d.Roll(900), nil)
			if !agrees(x, want) {
				t.Fatalf("program %d, %d instructions: %v, not %v", n, x.Steps(), record.Values(x.Log()), want)
			}
			x.Fail()
		}
	}
}

// Promise 28.2: the stack space that there is decides whether a program runs to its end, and nothing else.
func TestStack(t *testing.T) {
	const s = "int f(int n){int a[20];a[n%20]=n;out(n);if(n==0)return 0;return f(n-1)+a[n%20];}int main(){return f(in());}"
	was := 1 << 30
	for data := 65536; data >= 4096; data -= 2048 {
		m, want, is := drawn.DefinedText(s, []uint32{400})
		if !is {
			t.Fatalf("%v", want)
		}
		g := linked(t, m, with(func(o *api.Options) { o.Data = data }))
		x := loaded(t, g, []uint32{400})
		x.Run(10000000, []int{5000, 9000, 20000})
		l := len(record.First(x.Log()))
		if !agrees(x, want) || x.State() != api.Halted || l > was || data == 4096 && x.Exit() != rts.FullCode || data == 65536 && x.Exit() != want.Exit {
			t.Errorf("%d bytes: exit %d after %d outputs", data, x.Exit(), l)
		}
		was = l
	}
}
