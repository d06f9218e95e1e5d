package compile_test

import (
	"reflect"
	"strings"
	"testing"

	"rushlight/api"
	"rushlight/check"
	"rushlight/compile"
	"rushlight/drawn"
	"rushlight/image"
	"rushlight/inst"
	"rushlight/ir"
	"rushlight/lower"
	"rushlight/tree"
)

// usual is options.
func usual() api.Options { return api.Options{Data: 4096, Regs: 12, Notes: 16} }

// with is the usual options after a change.
func with(change func(o *api.Options)) api.Options {
	o := usual()
	change(&o)
	return o
}

// plain is the usual options with Plain.
func plain() api.Options { return with(func(o *api.Options) { o.Plain = true }) }

// lowered is the module of a text as the layers below make it.
func lowered(t *testing.T, s string) api.Module {
	t.Helper()
	p, at, e := tree.Read(s)
	if e != api.OK {
		t.Fatalf("%.200s: %v at %v", s, e, at)
	}
	u, at, e := check.Check(p)
	if e != api.OK {
		t.Fatalf("%.200s: %v at %v", s, e, at)
	}
	m, e := lower.Lower(u)
	if e != api.OK {
		t.Fatalf("%.200s: %v", s, e)
	}
	return m
}

// module is the module of a text that Module must accept.
func module(t *testing.T, s string, o api.Options) api.Module {
	t.Helper()
	m, at, e := compile.Module(s, o)
	if e != api.OK || at != (api.Pos{}) {
		t.Fatalf("%.200s: %v at %v", s, e, at)
	}
	return m
}

// compiled is the image of a text that Compile must accept.
func compiled(t *testing.T, s string, o api.Options) api.Image {
	t.Helper()
	g, at, e := compile.Compile(s, o)
	if e != api.OK || at != (api.Pos{}) {
		t.Fatalf("%.200s: %v at %v", s, e, at)
	}
	return g
}

// text is all procedures of a module as text.
func text(m api.Module) string {
	s := ""
	for _, p := range m.Procs {
		s += p.Name + "\n" + ir.Text(p)
	}
	return s
}

// The example of the chapter.
func TestExample(t *testing.T) {
	m := module(t, "int main() { return 1 + 2 * 3; }", usual())
	if got := text(m); !strings.HasPrefix(got, "main\nb0:\n 1 ") || !strings.Contains(got, " -1 -1 0 0 0 0 7\n end 3 ") || strings.Count(got, "\n") != 4 {
		t.Errorf("%s", got)
	}
}

// Promise 29.1: a module is what lower.Lower makes, optimized unless Plain. Nothing else of the options matters.
func TestModule(t *testing.T) {
	for n := range 60 {
		s := drawn.Wild(n)
		want := lowered(t, s)
		for _, o := range []api.Options{plain(), {Plain: true}, {Data: -1, Regs: 99, Notes: 1 << 40, Plain: true}} {
			if got := module(t, s, o); !reflect.DeepEqual(got, want) {
				t.Fatalf("%d, %v:\n%s", n, o, text(got))
			}
		}
		want = compile.Better(want)
		for _, o := range []api.Options{usual(), {}, {Data: -1, Regs: 99, Notes: 1 << 40}} {
			if got := module(t, s, o); !reflect.DeepEqual(got, want) {
				t.Fatalf("%d, %v:\n%s", n, o, text(got))
			}
		}
	}
}

// mistake is an error of a text, and where it is.
type mistake struct {
	at api.Pos
	e  api.Errno
}

// broken are texts with errors.
func broken() map[string]mistake {
	long := "int main(){int x=in();" + strings.Repeat("x=x+1;", 9000) + "return x;}"
	return map[string]mistake{
		"":                                   {api.Pos{Line: 1, Col: 1}, api.ErrNone},
		"int main() { return 1 }":            {api.Pos{Line: 1, Col: 23}, api.ErrForm},
		"int main() {\n return 08a; }":       {api.Pos{Line: 2, Col: 9}, api.ErrForm},
		"int main() { return 4294967296; }":  {api.Pos{Line: 1, Col: 21}, api.ErrRange},
		strings.Repeat(" ", 65537):           {api.Pos{Line: 1, Col: 1}, api.ErrLong},
		"int main() { return x; }":           {api.Pos{Line: 1, Col: 21}, api.ErrNone},
		"int f() { return 1; }":              {api.Pos{Line: 1, Col: 1}, api.ErrNone},
		"int main() {\n\n *1;\n return 0; }": {api.Pos{Line: 3, Col: 3}, api.ErrType},
		"int a;\nint a;\nint main() { }":     {api.Pos{Line: 2, Col: 1}, api.ErrTwice},
		long:                                 {api.Pos{Line: 1, Col: 1}, api.ErrLong},
	}
}

// Promises 29.1 and 29.2: the errors of a text, the first of several, and where they are; beside an error there is nothing.
func TestTextErrors(t *testing.T) {
	for s, want := range broken() {
		for _, o := range []api.Options{usual(), plain()} {
			m, at, e := compile.Module(s, o)
			if e != want.e || at != want.at || !reflect.DeepEqual(m, api.Module{}) {
				t.Errorf("%.60q: Module: %v at %v", s, e, at)
			}
			g, at, e := compile.Compile(s, o)
			if e != want.e || at != want.at || !reflect.DeepEqual(g, api.Image{}) {
				t.Errorf("%.60q: Compile: %v at %v", s, e, at)
			}
			if _, at, e := compile.Module(s, api.Options{}); e != want.e || at != want.at {
				t.Errorf("%.60q without options: Module: %v at %v", s, e, at)
			}
			if _, at, e := compile.Compile(s, api.Options{Plain: o.Plain}); e != api.ErrArg || at != (api.Pos{}) {
				t.Errorf("%.60q without options: Compile: %v at %v", s, e, at)
			}
		}
	}
}

// Promise 29.2: options that are not valid, as image.Right has it.
func TestOptions(t *testing.T) {
	for _, change := range []func(o *api.Options){
		func(o *api.Options) { o.Data = 4092 }, func(o *api.Options) { o.Data = 4098 }, func(o *api.Options) { o.Data = 65540 }, func(o *api.Options) { o.Data = 0 },
		func(o *api.Options) { o.Regs = -1 }, func(o *api.Options) { o.Regs = 13 },
		func(o *api.Options) { o.Notes = 1 }, func(o *api.Options) { o.Notes = 65 },
	} {
		o := with(change)
		if g, at, e := compile.Compile("int main(){return 0;}", o); image.Right(o) || e != api.ErrArg || at != (api.Pos{}) || !reflect.DeepEqual(g, api.Image{}) {
			t.Errorf("%v: %v at %v", o, e, at)
		}
	}
}

// Promise 29.2: the errors of image.Link, at line 1, column 1.
func TestLinkErrors(t *testing.T) {
	for _, s := range []string{
		"\n\nint a[500]; int main() { return 0; }",
		"\n int main() { int a[500]; a[0] = 1; return a[0]; }",
		"int main(){int x=in();" + strings.Repeat("out(x);x=x*70001;", 2500) + "return x;}",
	} {
		for _, o := range []api.Options{usual(), plain()} {
			module(t, s, o)
			g, at, e := compile.Compile(s, o)
			if e != api.ErrLong || at != (api.Pos{Line: 1, Col: 1}) || !reflect.DeepEqual(g, api.Image{}) {
				t.Errorf("%.60q: %v at %v", s, e, at)
			}
		}
	}
	large := with(func(o *api.Options) { o.Data = 8192 })
	compiled(t, "\n\nint a[500]; int main() { return 0; }", large)
}

// Promise 29.2: otherwise the image of the module.
func TestCompile(t *testing.T) {
	for n := range 60 {
		s := drawn.Wild(n)
		d := drawn.Dice(n)
		o := api.Options{Data: 4096 + 4*d.Roll(15000), Regs: d.Roll(13), Notes: 2 + d.Roll(63), Plain: d.Roll(2) == 0}
		want, e := image.Link(module(t, s, o), o)
		if e != api.OK {
			continue
		}
		if got := compiled(t, s, o); !reflect.DeepEqual(got, want) {
			t.Fatalf("%d, %v: another image", n, o)
		}
	}
}

// mangled is a text with some of its bytes changed, or gone, or twice there.
func mangled(d *drawn.Dice, s string) string {
	b := []byte(s)
	for range 1 + d.Roll(3) {
		at, more := d.Roll(len(b)), d.Roll(20)
		switch d.Roll(4) {
		case 0:
			b[at] = "(){}[];,+-*/=<>&|!?:0x'\"\\ \n\x00\xffae"[d.Roll(31)]
		case 1:
			b = append(b[:at], b[min(len(b), at+more):]...)
		case 2:
			b = []byte(string(b[:at]) + string(b[max(0, at-more):]))
		case 3:
			b[at] = byte(d.Roll(256))
		}
		if len(b) == 0 {
			return ""
		}
	}
	return string(b)
}

// Promise 29.3, and P5 of the whole: any bytes are either an image, each of whose words is an instruction, and whose jumps lead into the code;
// or an error with a position. Never both.
func TestEither(t *testing.T) {
	images, kinds := 0, map[api.Errno]int{}
	for n := range 1000 {
		d := drawn.Dice(n)
		s := drawn.Tame(n % 40)
		if n%5 > 0 {
			s = mangled(&d, s)
		}
		if n%50 == 1 {
			s = s[:d.Roll(30)]
		}
		g, at, e := compile.Compile(s, api.Options{Data: 8192, Regs: 3 * d.Roll(5), Notes: 2 + d.Roll(63), Plain: d.Roll(2) == 0})
		kinds[e]++
		if e != api.OK {
			if !reflect.DeepEqual(g, api.Image{}) || at.Line < 1 || at.Col < 1 {
				t.Fatalf("%q: %v at %v", s, e, at)
			}
			continue
		}
		images++
		if at != (api.Pos{}) || len(g.Code) == 0 || len(g.Data) != 8192 {
			t.Fatalf("%q: at %v", s, at)
		}
		leadsInside(t, g)
	}
	if images < 200 || kinds[api.ErrForm] < 200 || kinds[api.ErrNone] < 20 || kinds[api.ErrType] < 3 {
		t.Errorf("%d images, errors: %v", images, kinds)
	}
}

// leadsInside fails unless each word of an image is an instruction, and each branch and jump leads to one.
func leadsInside(t *testing.T, g api.Image) {
	t.Helper()
	for k, w := range g.Code {
		i, e := inst.Decode(w)
		if e != api.OK {
			t.Fatalf("word %d: %#x", k, w)
		}
		form := inst.Form(i.Op)
		if to := 4*k + i.Imm; (form == 'B' || form == 'J') && (to < 0 || to%4 != 0 || to/4 >= len(g.Code)) {
			t.Fatalf("word %d leads to %d", k, to)
		}
	}
}

// Rules R1 and R3: nothing is shared between answers, and what is too large in all ways is an error.
func TestArguments(t *testing.T) {
	const s = "int g=3;int main(){g+=in();return g;}"
	was := compiled(t, s, usual())
	g := compiled(t, s, usual())
	clear(g.Code)
	clear(g.Data)
	if !reflect.DeepEqual(compiled(t, s, usual()), was) {
		t.Errorf("shared")
	}
	for _, s := range []string{strings.Repeat("(", 65536), strings.Repeat("{", 65536), strings.Repeat("a", 65536), strings.Repeat("int a;", 10000), "int main(){return " + strings.Repeat("-", 60000) + "1;}", strings.Repeat("\xff", 70000), "/*"} {
		for _, o := range []api.Options{usual(), plain(), {}} {
			if _, _, e := compile.Compile(s, o); e == api.OK {
				t.Errorf("%.20q: an image", s)
			}
		}
	}
}
