package lower_test

import (
	"slices"
	"strings"
	"testing"

	"rushlight/api"
	"rushlight/check"
	"rushlight/ir"
	"rushlight/lower"
	"rushlight/tree"
)

// unit is the unit of a text.
func unit(t *testing.T, s string) api.Unit {
	t.Helper()
	p, at, e := tree.Read(s)
	if e != api.OK {
		t.Fatalf("%.500s: %v at %v", s, e, at)
	}
	u, at, e := check.Check(p)
	if e != api.OK {
		t.Fatalf("%.500s: %v at %v", s, e, at)
	}
	return u
}

// module is the module of a text. It is valid, and without marks and notes.
func module(t *testing.T, s string) api.Module {
	t.Helper()
	m, e := lower.Lower(unit(t, s))
	if e != api.OK || ir.Check(m) != api.OK {
		t.Fatalf("%.500s: %v, %v", s, e, ir.Check(m))
	}
	for _, p := range m.Procs {
		for _, b := range p.Blocks {
			for _, i := range b.Ins {
				if i.Op == api.IrMark || i.Log {
					t.Fatalf("%.500s: %v", s, i)
				}
			}
		}
	}
	return m
}

// list is numbers as words.
func list(l ...int) []uint32 {
	var words []uint32
	for _, n := range l {
		words = append(words, uint32(n))
	}
	return words
}

// equal reports whether two outcomes are the same.
func equal(a, b api.Outcome) bool {
	return slices.Equal(a.Out, b.Out) && a.Ins == b.Ins && a.Exit == b.Exit && a.E == b.E
}

// begins reports whether some outputs are the first ones of others.
func begins(first, all []uint32) bool {
	return len(first) <= len(all) && slices.Equal(first, all[:len(first)])
}

// agree reports whether a run of a program and one of its module are as the chapter promises.
func agree(program, module api.Outcome) bool {
	short := module.E == api.ErrFuel || module.E == api.ErrFull
	switch {
	case program.E == api.OK && !short:
		return equal(program, module)
	case program.E == api.OK || short && begins(module.Out, program.Out):
		return begins(module.Out, program.Out)
	}
	return begins(program.Out, module.Out) // up to what is undefined, or the last step
}

// The example of the chapter.
func TestExample(t *testing.T) {
	m := module(t, "int main() { int x; x = 3; return x; }")
	if len(m.Procs) != 1 || len(m.Procs[0].Objects) != 0 {
		t.Fatalf("%v", m)
	}
	if s := ir.Text(m.Procs[0]); s != "b0:\n 1 1 -1 -1 0 0 0 0 3\n 2 0 1 -1 0 0 0 0 0\n end 3 0 0 0\n" {
		t.Errorf("%s", s)
	}
}

// Promise 15.1: which slots are plain.
func TestPlain(t *testing.T) {
	const top = "struct s{int a;int v[2];};int g;int*h(int*p){return p;}"
	for body, want := range map[string]string{
		"int x;int y=1;":                          "x y",
		"int x=1;x;x=2;x+=3;x++;--x;-x;out(x);":   "x",
		"char c='a';c=c+1;c*=2;c--;":              "c",
		"int*p=0;p=p+1;*p=1;p[2]=*p;p++;p-=1;":    "p",
		"int x;int y;int*p=&x;*p=y;":              "y p",
		"int x;int y;&x;y=1;":                     "y",
		"int x;x=1;x=x+1;h(&x);":                  "",
		"char c;char*p=0;p=1?&c:p;":               "p",
		"int x;int y;if(&x)y=1;":                  "y",
		"int x;int y;while(y){for(;;)&x==0;}":     "y",
		"int x;int y;switch(y){default:{h(&x);}}": "y",
		"int x;int y;for(;;h(&x));":               "y",
		"int x;int y;do;while(!&x);":              "y",
		"int x;int y;if(y);else h(&x);":           "y",
		"int x;int y;return *&x+y;":               "x y",
		"int x;*&x=2;(*&x)++;*&x+=1;":             "x",
		"int x;int*p;p=(&x);":                     "p",
		"int x;int*p;*(&x+1);(&x)[0];":            "p",
		"int*p;int**q=&p;":                        "q",
		"int a[2];int x;a[x]=1;a;":                "x",
		"char b[1];struct s y;y.a=1;struct s*q;":  "q",
		"struct s y;&y;y;y.v[1];int x;":           "x",
		"int x;{int x;&x;}{int x=2;}x=1;":         "x x",
		"int g;g=1;":                              "g",
		"int y;&g;y=g;":                           "y",
		"int x;int y;x=(&y==0)+in();":             "x",
		"void*p;int x;x;":                         "p x",
	} {
		c := unit(t, top+"int main(){"+body+"}").Codes[1]
		var names []string
		for n, is := range lower.Plain(c) {
			if is {
				names = append(names, c.Slots[n].Name)
			}
		}
		if got := strings.Join(names, " "); got != want || len(lower.Plain(c)) != len(c.Slots) {
			t.Errorf("%s: %s", body, got)
		}
	}
	c := unit(t, "void f(int a,char b,int*c,int d){int e;&b;&d;}int main(){}").Codes[0]
	if got := lower.Plain(c); !slices.Equal(got, []bool{true, false, true, false, true}) {
		t.Errorf("parameters: %v", got)
	}
}

// Promise 15.1: Plain, of what check.Check does not make.
func TestPlainTerms(t *testing.T) {
	where := func(n int) api.Term { return api.Term{Kind: api.TmAddr, Var: n, Ptr: true} }
	cells := []api.Slot{{Cell: 1}, {Cell: 4}, {}, {Cell: 4}}
	for k, x := range []struct {
		term api.Term
		want []bool
	}{
		{api.Term{}, []bool{true, true, false, true}},
		{where(1), []bool{true, false, false, true}},
		{api.Term{Kind: api.TmAddr, Var: 1, Global: true}, []bool{true, true, false, true}},
		{where(4), []bool{true, true, false, true}}, {where(-1), []bool{true, true, false, true}}, {where(1 << 60), []bool{true, true, false, true}},
		{api.Term{Kind: api.TmLoad}, []bool{true, true, false, true}},
		{api.Term{Kind: api.TmLoad, Kids: []api.Term{where(0), where(1)}}, []bool{true, false, false, true}},
		{api.Term{Kind: api.TmStore, Kids: []api.Term{where(0), where(1)}}, []bool{true, false, false, true}},
		{api.Term{Kind: api.TmStore, Kids: []api.Term{where(0), where(0)}}, []bool{false, true, false, true}},
		{api.Term{Kind: api.TmStep, Kids: []api.Term{where(3)}}, []bool{true, true, false, true}},
		{api.Term{Kind: api.TmUpdate, Kids: []api.Term{where(3), {Kind: api.TmLoad, Kids: []api.Term{where(3)}}}}, []bool{true, true, false, true}},
		{api.Term{Kind: api.TmField, Kids: []api.Term{where(3)}}, []bool{true, true, false, false}},
		{api.Term{Kind: api.TmIndex, Kids: []api.Term{where(3), where(0)}}, []bool{false, true, false, false}},
		{api.Term{Kind: 99, Kids: []api.Term{{Kind: -1, Kids: []api.Term{where(1)}}}}, []bool{true, false, false, true}},
	} {
		for n, a := range []api.Act{{A: []api.Term{{}, x.term}}, {Kind: 99, Post: []api.Term{{}, x.term}}, {Cases: []api.Choice{{}, {Body: []api.Act{{Else: []api.Act{{Body: []api.Act{{A: []api.Term{x.term}}}}}}}}}}} {
			if got := lower.Plain(api.Code{Slots: cells, Body: []api.Act{{}, a}}); !slices.Equal(got, x.want) {
				t.Errorf("%d, %d: %v", k, n, got)
			}
		}
	}
	if l := lower.Plain(api.Code{}); len(l) != 0 {
		t.Errorf("of nothing: %v", l)
	}
}

// Promise 15.1: what of a unit a module preserves.
func TestPreserved(t *testing.T) {
	u := unit(t, "struct s{char c;int v;};int a=258;char b[3]={1,2};struct s c;int*p;void f(char x,int y){}int main(){int z;return 0;}char*h(){}")
	m, e := lower.Lower(u)
	if e != api.OK || m.Main != 1 || len(m.Procs) != 3 || !slices.Equal(m.Globals, u.Globals) || len(m.Data) != 4 {
		t.Fatalf("%v, %v", m, e)
	}
	for k, want := range [][]byte{{2, 1, 0, 0}, {1, 2, 0}, make([]byte, 8), make([]byte, 4)} {
		if !slices.Equal(m.Data[k], want) {
			t.Errorf("global %d: %v", k, m.Data[k])
		}
	}
	for k, want := range []api.Proc{{Name: "f", Void: true, Params: 2}, {Name: "main"}, {Name: "h"}} {
		if p := m.Procs[k]; p.Name != want.Name || p.Void != want.Void || p.Params != want.Params {
			t.Errorf("procedure %d: %v", k, p)
		}
	}
}

// Promise 15.1: where slots are.
func TestSlots(t *testing.T) {
	p := module(t, "struct s{int v;};int f(int a,char b,int*c,int d){int e;char x[5];int y;struct s z;&b;&d;&y;e=a;return e;}int main(){}").Procs[0]
	want := []api.Slot{{Name: "b", Size: 1, Align: 1, Cell: 1}, {Name: "d", Size: 4, Align: 4, Cell: 4}, {Name: "x", Size: 5, Align: 1}, {Name: "y", Size: 4, Align: 4, Cell: 4}, {Name: "z", Size: 4, Align: 4}}
	if !slices.Equal(p.Objects, want) {
		t.Errorf("objects: %v", p.Objects)
	}
	if s := ir.Text(p); p.Params != 4 || !strings.Contains(s, " 2 4 0 -1 0 0 0 0 0\n") || !strings.HasSuffix(s, " end 3 4 0 0\n") {
		t.Errorf("a parameter and a variable: %s", s)
	}
	if s := ir.Text(p); !strings.HasPrefix(s, "b0:\n 7 5 -1 -1 0 0 0 0 0\n 6 -1 5 1 0 0 0 1 0\n 7 6 -1 -1 0 1 0 0 0\n 6 -1 6 3 0 0 0 4 0\n") {
		t.Errorf("parameters that are not plain: %s", s)
	}
}

// Promise 15.1: the limits of modules, just kept and just exceeded.
func TestLimits(t *testing.T) {
	many := strings.Repeat
	copies := many(many("x=", 100)+"x;", 199) // 19900 instructions; there are two more for x=0 and the end
	for name, x := range map[string]struct {
		text string
		want api.Errno
	}{
		"8000 registers":          {"int main(){" + many("in();", 7999) + "}", api.OK},
		"8001 registers":          {"int main(){" + many("in();", 8000) + "}", api.ErrLong},
		"4000 blocks":             {"int main(){int x=0;" + many("if(x);", 1999) + "for(;;);}", api.OK},
		"4001 blocks":             {"int main(){int x=0;" + many("if(x);", 2000) + "}", api.ErrLong},
		"20000 instructions":      {"int main(){int x;" + copies + many("x=", 98) + "0;}", api.OK},
		"20001 instructions":      {"int main(){int x;" + copies + many("x=", 99) + "0;}", api.ErrLong},
		"many more":               {"int main(){int x;" + many(many("x=", 150)+"0;", 200) + "}", api.ErrLong},
		"large arrays":            {"int main(){char a[32768]={1};char b[32768]={1};char c[32768]={1};}", api.ErrLong},
		"variables out of memory": {"int a[8192];int b[8192];int c[8192];int main(){int d[8192];int e[8192];return a[8191]+e[0];}", api.OK},
		"in another function":     {"void f(){" + many("in();", 8001) + "}int main(){}", api.ErrLong},
		"two large functions":     {"int f(){" + many("in();", 5000) + "}int main(){" + many("in();", 5000) + "}", api.OK},
	} {
		m, e := lower.Lower(unit(t, x.text))
		if e != x.want || e != api.OK && len(m.Procs)+len(m.Globals)+len(m.Data)+m.Main > 0 {
			t.Errorf("%s: %v", name, e)
		}
		if e == api.OK && ir.Check(m) != api.OK {
			t.Errorf("%s: not valid", name)
		}
	}
}
