package check_test

import (
	"reflect"
	"strings"
	"testing"

	"rushlight/api"
	"rushlight/check"
	"rushlight/tree"
)

// around is declarations for expressions to use. The slots of main: i 0, c 1, p 2, q 3, a 4, m 5, s 6, t 7, b 8, v 9, d 10.
const around = `struct in2 { char tag; int x; char name[5]; int row[3]; };
struct s { char c; int x; struct s *next; struct in2 sub; int *ptrs[2]; };
int gi; char gc; int *gp; int ga[4]; struct s gs; int gm[2][3];
int f0() { return 1; } char f1(char x) { return x; } int *f2(int *x, char y, int z) { return x; } void f3() { } struct s *f4(void *x) { return 0; }
int main() { int i; char c; int *p; char *q; int a[4]; int m[2][3]; struct s s; struct s *t; char b[7]; void *v; int **d; `

// term is an expression statement, checked, as text.
func term(t *testing.T, s string) string {
	t.Helper()
	u := unit(t, around+"return 0; "+s+"; }")
	body := u.Codes[u.Main].Body
	last := body[len(body)-1]
	if last.Kind != api.AcExpr {
		t.Fatalf("%s: %s", s, describeAct(last))
	}
	return strings.TrimPrefix(describeAct(last), "do ")
}

// Promise 10.1: reading lvalues, and their addresses.
func TestLvalues(t *testing.T) {
	for s, want := range map[string]string{
		"i":  "load4(v0)",
		"c":  "load1(v1)",
		"p":  "load4*(v2)",
		"v":  "load4*(v9)",
		"gi": "load4(g0)",
		"gc": "load1(g1)",
		"gp": "load4*(g2)",
		// of an expression statement that is another lvalue, the address alone
		"a":                 "v4",
		"ga":                "g3",
		"s":                 "v6",
		"gs":                "g4",
		"*t":                "load4*(v7)",
		"m[1]":              "index12(v5, 1)",
		"s.sub":             "part12:28(v6)",
		"t->ptrs":           "part40:8(load4*(v7))",
		"s.c":               "load1(part0:1(v6))",
		"s.x":               "load4(part4:4(v6))",
		"s.next":            "load4*(part8:4(v6))",
		"gs.x":              "load4(part4:4(g4))",
		"t->x":              "load4(part4:4(load4*(v7)))",
		"(*t).x":            "load4(part4:4(load4*(v7)))",
		"s.sub.x":           "load4(part4:4(part12:28(v6)))",
		"t->sub.x":          "load4(part4:4(part12:28(load4*(v7))))",
		"t->next->next->c":  "load1(part0:1(load4*(part8:4(load4*(part8:4(load4*(v7)))))))",
		"f4(v)->c":          "load1(part0:1(call4*(load4*(v9))))",
		"(&s)->x":           "load4(part4:4(v6))",
		"*p":                "load4(load4*(v2))",
		"*q":                "load1(load4*(v3))",
		"**d":               "load4(load4*(load4*(v10)))",
		"*&i":               "load4(v0)",
		"*a":                "load4(v4)",
		"a[1]":              "load4(index4(v4, 1))",
		"b[i]":              "load1(index1(v8, load4(v0)))",
		"p[1]":              "load4(index4(load4*(v2), 1))",
		"q[c]":              "load1(index1(load4*(v3), load1(v1)))",
		"d[1]":              "load4*(index4(load4*(v10), 1))",
		"d[1][2]":           "load4(index4(load4*(index4(load4*(v10), 1)), 2))",
		"t[2].x":            "load4(part4:4(index48(load4*(v7), 2)))",
		"m[1][2]":           "load4(index4(part0:12(index12(v5, 1)), 2))",
		"gm[i][c]":          "load4(index4(part0:12(index12(g5, load4(v0))), load1(v1)))",
		"**m":               "load4(part0:12(v5))",
		"*m[1]":             "load4(part0:12(index12(v5, 1)))",
		"(m + 1)[0][2]":     "load4(index4(part0:12(index12(index12(v5, 1), 0)), 2))",
		"s.sub.row[1]":      "load4(index4(part0:12(part16:12(part12:28(v6))), 1))",
		"t->sub.name[i]":    "load1(index1(part0:5(part8:5(part12:28(load4*(v7)))), load4(v0)))",
		"s.ptrs[1]":         "load4*(index4(part0:8(part40:8(v6)), 1))",
		"*s.ptrs[1]":        "load4(load4*(index4(part0:8(part40:8(v6)), 1)))",
		"f2(p, c, i)[1]":    "load4(index4(call2*(load4*(v2), cut(load1(v1)), load4(v0)), 1))",
		"(i ? p : gp)[0]":   "load4(index4(cond*(load4(v0), load4*(v2), load4*(g2)), 0))",
		"(p = a)[0]":        "load4(index4(store4*(v2, v4), 0))",
		"*p++":              "load4(poststep4:4*(v2))",
		"(t + 1)->c":        "load1(part0:1(index48(load4*(v7), 1)))",
		"t++->c":            "load1(part0:1(poststep48:4*(v7)))",
		"a[a[a[0]]]":        "load4(index4(v4, load4(index4(v4, load4(index4(v4, 0))))))",
		"*(a + 1)":          "load4(index4(v4, 1))",
		"*(1 + a)":          "load4(index4(v4, 1))",
		"(*(m + 1))[1]":     "load4(index4(part0:12(index12(v5, 1)), 1))",
		"s.sub.name[0] = 1": "store1(index1(part0:5(part8:5(part12:28(v6))), 0), 1)",
	} {
		if got := term(t, s); got != want {
			t.Errorf("%s: %s, not %s", s, got, want)
		}
	}
}

// Promise 10.1: operators.
func TestOperators(t *testing.T) {
	for s, want := range map[string]string{
		"1": "1", "'a'": "97", "0": "0", "4294967295": "4294967295",
		"-i": "neg(load4(v0))", "~c": "not(load1(v1))", "!i": "zero(load4(v0))", "!p": "zero(load4*(v2))", "!v": "zero(load4*(v9))", "!a": "zero(v4)", "!m[1]": "zero(part0:12(index12(v5, 1)))", "!0": "zero(0)", "- -1": "neg(neg(1))",
		"&i": "v0", "&c": "v1", "&gi": "g0", "&s": "v6", "&*p": "load4*(v2)", "&a[1]": "index4(v4, 1)", "&s.x": "part4:4(v6)", "&t->sub": "part12:28(load4*(v7))", "&*a": "v4", "&p": "v2", "*&p": "load4*(v2)", "&m[1][2]": "index4(part0:12(index12(v5, 1)), 2)",
		"i + 1": "add(load4(v0), 1)", "i - c": "sub(load4(v0), load1(v1))", "c * c": "mul(load1(v1), load1(v1))", "i / 2": "div(load4(v0), 2)", "i % 2": "rem(load4(v0), 2)",
		"i & 1": "and(load4(v0), 1)", "i | 1": "or(load4(v0), 1)", "i ^ 1": "xor(load4(v0), 1)", "i << 1": "shl(load4(v0), 1)", "i >> 1": "shr(load4(v0), 1)",
		"i < 1": "lt(load4(v0), 1)", "i > 1": "gt(load4(v0), 1)", "i <= 1": "le(load4(v0), 1)", "i >= 1": "ge(load4(v0), 1)", "i == 1": "eq(load4(v0), 1)", "i != c": "ne(load4(v0), load1(v1))", "0 == 0": "eq(0, 0)", "0 == i": "eq(0, load4(v0))",
		"p == 0": "eq(load4*(v2), 0*)", "0 != p": "ne(0*, load4*(v2))", "v == 0": "eq(load4*(v9), 0*)", "a == 0": "eq(v4, 0*)", "0 == m[0]": "eq(0*, part0:12(index12(v5, 0)))", "f4(0) != '\\0'": "ne(call4*(0*), 0*)", "(p == 0) == 0": "eq(eq(load4*(v2), 0*), 0)",
		"p + 1": "index4(load4*(v2), 1)", "1 + p": "index4(load4*(v2), 1)", "p - 1": "backindex4(load4*(v2), 1)", "q + c": "index1(load4*(v3), load1(v1))", "t - i": "backindex48(load4*(v7), load4(v0))", "p + 0": "index4(load4*(v2), 0)", "0 + p": "index4(load4*(v2), 0)", "v + 1": "index0(load4*(v9), 1)",
		"a + 1": "index4(v4, 1)", "i + m": "index12(v5, load4(v0))", "m[1] + i": "index4(part0:12(index12(v5, 1)), load4(v0))", "d - 1": "backindex4(load4*(v10), 1)", "p + 1 - i": "backindex4(index4(load4*(v2), 1), load4(v0))", "&i + 1": "index4(v0, 1)", "&s - 1": "backindex48(v6, 1)",
		"i && p": "both(load4(v0), load4*(v2))", "a || c": "either(v4, load1(v1))", "0 && 0": "both(0, 0)", "!i || !p && c": "either(zero(load4(v0)), both(zero(load4*(v2)), load1(v1)))",
		"i ? 1 : c": "cond(load4(v0), 1, load1(v1))", "p ? 0 : 0": "cond(load4*(v2), 0, 0)", "i ? p : gp": "cond*(load4(v0), load4*(v2), load4*(g2))", "i ? p : 0": "cond*(load4(v0), load4*(v2), 0*)", "i ? 0 : q": "cond*(load4(v0), 0*, load4*(v3))", "0 ? a : p": "cond*(0, v4, load4*(v2))", "i ? i ? p : 0 : a": "cond*(load4(v0), cond*(load4(v0), load4*(v2), 0*), v4)",
		"sizeof(int)": "4", "sizeof(char)": "1", "sizeof(struct s)": "48", "sizeof(struct in2)": "28", "sizeof(void*)": "4", "sizeof(struct s**)": "4", "sizeof(int) * 2": "mul(4, 2)",
	} {
		if got := term(t, s); got != want {
			t.Errorf("%s: %s, not %s", s, got, want)
		}
	}
}

// Promise 10.1: assignments, steps and calls.
func TestEffects(t *testing.T) {
	for s, want := range map[string]string{
		"i = 1": "store4(v0, 1)", "c = i": "store1(v1, load4(v0))", "gi = c": "store4(g0, load1(v1))", "i = c = 300": "store4(v0, store1(v1, 300))", "*p = 1": "store4(load4*(v2), 1)", "a[1] = 2": "store4(index4(v4, 1), 2)", "t->c = 1": "store1(part0:1(load4*(v7)), 1)",
		"p = 0": "store4*(v2, 0*)", "p = a": "store4*(v2, v4)", "p = &i": "store4*(v2, v0)", "p = m[1]": "store4*(v2, part0:12(index12(v5, 1)))", "t = t->next": "store4*(v7, load4*(part8:4(load4*(v7))))", "v = 0": "store4*(v9, 0*)", "d[0] = p = gp": "store4*(index4(load4*(v10), 0), store4*(v2, load4*(g2)))", "q = &c": "store4*(v3, v1)", "q = &s.c": "store4*(v3, part0:1(v6))", "q = &*b": "store4*(v3, v8)", "d = &p": "store4*(v10, v2)", "p = i ? 0 : p": "store4*(v2, cond*(load4(v0), 0*, load4*(v2)))",
		"i += 1": "addto4(v0, 1)", "c -= i": "subto1(v1, load4(v0))", "i *= 2": "multo4(v0, 2)", "i /= 2": "divto4(v0, 2)", "i %= 2": "remto4(v0, 2)", "i &= 2": "andto4(v0, 2)", "i |= 2": "orto4(v0, 2)", "i ^= 2": "xorto4(v0, 2)", "i <<= 2": "shlto4(v0, 2)", "gc >>= c": "shrto1(g1, load1(v1))", "a[i] += a[1]": "addto4(index4(v4, load4(v0)), load4(index4(v4, 1)))",
		"p += i": "addto4*by4(v2, load4(v0))", "q -= 1": "subto4*by1(v3, 1)", "t += 2": "addto4*by48(v7, 2)", "d += 0": "addto4*by4(v10, 0)", "v += 1": "addto4*(v9, 1)", "s.next -= c": "subto4*by48(part8:4(v6), load1(v1))",
		"++i": "step1:4(v0)", "--i": "step-1:4(v0)", "i++": "poststep1:4(v0)", "c--": "poststep-1:1(v1)", "++p": "step4:4*(v2)", "q--": "poststep-1:4*(v3)", "--t": "step-48:4*(v7)", "gp++": "poststep4:4*(g2)", "v++": "poststep0:4*(v9)", "++*p": "step1:4(load4*(v2))", "s.c++": "poststep1:1(part0:1(v6))", "++a[i++]": "step1:4(index4(v4, poststep1:4(v0)))", "*d++": "load4*(poststep4:4*(v10))", "(*d)++": "poststep4:4*(load4*(v10))",
		"f0()": "call0", "f1(300)": "call1(cut(300))", "f1(c)": "call1(cut(load1(v1)))", "f2(a, i, c)": "call2*(v4, cut(load4(v0)), load1(v1))", "f2(0, 0, 0)": "call2*(0*, cut(0), 0)", "f3()": "call3", "f4(v)": "call4*(load4*(v9))", "f4(0)": "call4*(0*)", "f0() + f1(f0())": "add(call0, call1(cut(call0)))", "f2(f2(p, 1, 2), f1(3), f0())": "call2*(call2*(load4*(v2), cut(1), 2), cut(call1(cut(3))), call0)", "main()": "call5",
		"in()": "in", "out(1)": "out(1)", "out(in())": "out(in)", "out(c)": "out(load1(v1))", "out(i = in())": "out(store4(v0, in))", "c = in()": "store1(v1, in)",
	} {
		if got := term(t, s); got != want {
			t.Errorf("%s: %s, not %s", s, got, want)
		}
	}
}

// Promise 10.1: statements as acts.
func TestActs(t *testing.T) {
	for s, want := range map[string]string{
		"":                                       "",
		";;":                                     "",
		"{}":                                     "{}",
		"{;{1;}}":                                "{{do 1}}",
		"1;;2;":                                  "do 1; do 2",
		"int x;":                                 "new0",
		"int x=1;":                               "new0; do store4(v0, 1)",
		"char x=300;":                            "new0; do store1(v0, 300)",
		"int*x=0;":                               "new0; do store4*(v0, 0*)",
		"int x=x;":                               "new0; do store4(v0, load4(v0))",
		"int x;int*y=&x;":                        "new0; new1; do store4*(v1, v0)",
		"int x[2]={7,8};":                        "new0; do store4(index4(v0, 0), 7); do store4(index4(v0, 1), 8)",
		"char x[3]={in()};":                      "new0; do store1(index1(v0, 0), in); do store1(index1(v0, 1), 0); do store1(index1(v0, 2), 0)",
		"int*x[2]={0};":                          "new0; do store4*(index4(v0, 0), 0*); do store4*(index4(v0, 1), 0*)",
		"int x[2]={1,x[0]};":                     "new0; do store4(index4(v0, 0), 1); do store4(index4(v0, 1), load4(index4(v0, 0)))",
		"struct s x;":                            "new0",
		"return 1;":                              "return 1",
		"if(1)2;":                                "if 1 {do 2} {}",
		"if(1);else 2;":                          "if 1 {} {do 2}",
		"if(1){2;3;}else{int x;4;}":              "if 1 {do 2; do 3} {new0; do 4}",
		"if(1){{2;}}":                            "if 1 {{do 2}} {}",
		"if(1)int x;":                            "if 1 {new0} {}",
		"while(1)2;":                             "loop 1 {do 2}",
		"do 1;while(2);":                         "firstloop 2 {do 1}",
		"for(;;);":                               "{loop {}}",
		"for(1;2;3)4;":                           "{do 1; loop 2 {do 4} 3}",
		"for(;1;){2;3;}":                         "{loop 1 {do 2; do 3}}",
		"for(;;1)break;":                         "{loop {break} 1}",
		"for(out(1);;f())continue;":              "{do out(1); loop {continue} call0}",
		"int x[2];struct s y;for(x;;y)continue;": "new0; new1; {do v0; loop {continue} v1}",
		"switch(1){}":                            "switch 1 {}",
		"switch(1){case 1:case-1:2;break;default:{3;}}":                          "switch 1 {1: {} 4294967295: {do 2; break} default: {{do 3}}}",
		"switch(1){default:int x;case 0:int y;y;}":                               "switch 1 {default: {new0} 0: {new1; do load4(v1)}}",
		"while(1){switch(2){case 3:continue;case 4:while(5)break;break;}break;}": "loop 1 {switch 2 {3: {continue} 4: {loop 5 {break}; break}}; break}",
		"int x;{int x;x=1;{int x;x=2;}x=3;}x=4;":                                 "new0; {new1; do store4(v1, 1); {new2; do store4(v2, 2)}; do store4(v1, 3)}; do store4(v0, 4)",
		"{int x;x;}{int y;y;}":                                                   "{new0; do load4(v0)}; {new1; do load4(v1)}",
	} {
		u := unit(t, "struct s{int a;};void f(){}int main(){"+s+"}")
		if got := describeActs(u.Codes[1].Body); got != want {
			t.Errorf("%s: %s, not %s", s, got, want)
		}
	}
}

// Promise 10.1: what is returned.
func TestReturns(t *testing.T) {
	for s, want := range map[string]string{
		"int f(){return 1;}":                  "return 1",
		"char f(){return 1;}":                 "return cut(1)",
		"char f(char a){return a;}":           "return cut(load1(v0))",
		"int f(char a){return a;}":            "return load1(v0)",
		"int*f(int*a){return a;}":             "return load4*(v0)",
		"int*f(){return 0;}":                  "return 0*",
		"void f(){return;}":                   "return",
		"struct s*f(){struct s a;return &a;}": "new0; return v0",
		"char*f(){char a[2];return a;}":       "new0; return v0",
		"int f(){}":                           "",
	} {
		u := unit(t, "struct s{int a;};"+s+"int main(){}")
		if got := describeActs(u.Codes[0].Body); got != want {
			t.Errorf("%s: %s, not %s", s, got, want)
		}
	}
}

// Promise 10.1: functions and their slots.
func TestCodes(t *testing.T) {
	u := unit(t, `struct s { char a; int b; char c; };
void f(char a, int *b, struct s *c) { char d[3]; { struct s e; int f; } if (1) { char a; } else { int a[2][3]; } }
int main(void) { for (;;) { int x; switch (1) { case 1: char y; default: void *z; } } int x; }
char g() { return 1; }`)
	want := []api.Code{
		{Name: "f", Void: true, Params: 3, Slots: []api.Slot{{Name: "a", Size: 1, Align: 1, Cell: 1}, {Name: "b", Size: 4, Align: 4, Cell: 4}, {Name: "c", Size: 4, Align: 4, Cell: 4}, {Name: "d", Size: 3, Align: 1},
			{Name: "e", Size: 12, Align: 4}, {Name: "f", Size: 4, Align: 4, Cell: 4}, {Name: "a", Size: 1, Align: 1, Cell: 1}, {Name: "a", Size: 24, Align: 4}}},
		{Name: "main", Slots: []api.Slot{{Name: "x", Size: 4, Align: 4, Cell: 4}, {Name: "y", Size: 1, Align: 1, Cell: 1}, {Name: "z", Size: 4, Align: 4, Cell: 4}, {Name: "x", Size: 4, Align: 4, Cell: 4}}},
		{Name: "g"},
	}
	if len(u.Codes) != 3 || u.Main != 1 {
		t.Fatalf("%d functions, main is %d", len(u.Codes), u.Main)
	}
	for k, c := range u.Codes {
		c.Body = nil
		if !reflect.DeepEqual(c, want[k]) {
			t.Errorf("%v, not %v", c, want[k])
		}
	}
}

// Promise 10.1: globals and their first bytes.
func TestGlobals(t *testing.T) {
	for s, want := range map[string]struct {
		slot api.Slot
		data []byte
	}{
		"int g;":                        {api.Slot{Name: "g", Size: 4, Align: 4, Cell: 4}, []byte{0, 0, 0, 0}},
		"char g;":                       {api.Slot{Name: "g", Size: 1, Align: 1, Cell: 1}, []byte{0}},
		"void*g;":                       {api.Slot{Name: "g", Size: 4, Align: 4, Cell: 4}, []byte{0, 0, 0, 0}},
		"struct s g;":                   {api.Slot{Name: "g", Size: 8, Align: 4}, make([]byte, 8)},
		"char g[3];":                    {api.Slot{Name: "g", Size: 3, Align: 1}, make([]byte, 3)},
		"struct s g[2][3];":             {api.Slot{Name: "g", Size: 48, Align: 4}, make([]byte, 48)},
		"int g=0x12345678;":             {api.Slot{Name: "g", Size: 4, Align: 4, Cell: 4}, []byte{0x78, 0x56, 0x34, 0x12}},
		"int g=-1;":                     {api.Slot{Name: "g", Size: 4, Align: 4, Cell: 4}, []byte{255, 255, 255, 255}},
		"char g=0x1ff;":                 {api.Slot{Name: "g", Size: 1, Align: 1, Cell: 1}, []byte{255}},
		"int*g=0;":                      {api.Slot{Name: "g", Size: 4, Align: 4, Cell: 4}, []byte{0, 0, 0, 0}},
		"int g=sizeof(struct s)*2+'a';": {api.Slot{Name: "g", Size: 4, Align: 4, Cell: 4}, []byte{113, 0, 0, 0}},
		"int g=1?2:1/0;":                {api.Slot{Name: "g", Size: 4, Align: 4, Cell: 4}, []byte{2, 0, 0, 0}},
		"int g=0&&1/0||!(1||1/0);":      {api.Slot{Name: "g", Size: 4, Align: 4, Cell: 4}, []byte{0, 0, 0, 0}},
		"int g[3]={1,-2};":              {api.Slot{Name: "g", Size: 12, Align: 4}, []byte{1, 0, 0, 0, 254, 255, 255, 255, 0, 0, 0, 0}},
		"char g[4]={1,0x102,'a'};":      {api.Slot{Name: "g", Size: 4, Align: 1}, []byte{1, 2, 97, 0}},
		"char*g[2]={0};":                {api.Slot{Name: "g", Size: 8, Align: 4}, make([]byte, 8)},
		"int g[1]={7};":                 {api.Slot{Name: "g", Size: 4, Align: 4}, []byte{7, 0, 0, 0}},
		"char g[32768];":                {api.Slot{Name: "g", Size: 32768, Align: 1}, make([]byte, 32768)},
	} {
		u := unit(t, "struct s{char a;int b;};"+s+"int main(){}")
		if !reflect.DeepEqual(u.Globals, []api.Slot{want.slot}) || !reflect.DeepEqual(u.Data, [][]byte{want.data}) {
			t.Errorf("%s: %v, %.60v", s, u.Globals, u.Data)
		}
	}
	u := unit(t, "int a=1;int main(){return b;}char b=2;int c[2]={3,4};")
	if len(u.Globals) != 3 || u.Globals[1].Name != "b" || !reflect.DeepEqual(u.Data, [][]byte{{1, 0, 0, 0}, {2}, {3, 0, 0, 0, 4, 0, 0, 0}}) || describeActs(u.Codes[0].Body) != "return load1(g1)" {
		t.Errorf("%v, %v", u.Globals, u.Data)
	}
}

// Promise 10.1: the chapter's example, field by field.
func TestExample(t *testing.T) {
	u := unit(t, "int main() { int a[2]; a[1] = 3; return a[1]; }")
	place := func() api.Term {
		return api.Term{Kind: api.TmIndex, Size: 4, Ptr: true, Kids: []api.Term{{Kind: api.TmAddr, Ptr: true}, {Kind: api.TmConst, Num: 1}}}
	}
	want := api.Unit{Codes: []api.Code{{Name: "main", Slots: []api.Slot{{Name: "a", Size: 8, Align: 4}}, Body: []api.Act{
		{Kind: api.AcNew},
		{Kind: api.AcExpr, A: []api.Term{{Kind: api.TmStore, Size: 4, Kids: []api.Term{place(), {Kind: api.TmConst, Num: 3}}}}},
		{Kind: api.AcReturn, A: []api.Term{{Kind: api.TmLoad, Size: 4, Kids: []api.Term{place()}}}},
	}}}}
	if !reflect.DeepEqual(u, want) {
		t.Errorf("%+v", u)
	}
}

// Promise 10.1: names hide those of enclosing blocks.
func TestScopes(t *testing.T) {
	for s, want := range map[string]string{
		"int x;int main(){x;int x;x;}":                          "do load4(g0); new0; do load4(v0)",
		"char main2;int main(){char main;main;}":                "new0; do load1(v0)",
		"int x;int main(){{int x;}x;}":                          "{new0}; do load4(g0)",
		"int x;int main(){for(;;){int x;x;break;}x;}":           "{loop {new0; do load4(v0); break}}; do load4(g0)",
		"int main(){if(1)int x;else{int x;x;}}":                 "if 1 {new0} {new1; do load4(v1)}",
		"int x;int main(){switch(x){case 1:int x;case 2:x;}x;}": "switch load4(g0) {1: {new0} 2: {do load4(g0)}}; do load4(g0)",
		"int x;int main(){do int x;while(x);}":                  "firstloop load4(g0) {new0}",
		"struct x{int x;};struct x x;int main(){x.x;}":          "do load4(part0:4(g0))",
		"int main(){return main();}":                            "return call0",
		"int main(){return f();}int f(){}":                      "return call1",
		"int f(){int f;return f;}int main(){return f();}":       "return call0",
	} {
		u := unit(t, s)
		if got := describeActs(u.Codes[u.Main].Body); got != want {
			t.Errorf("%s: %s, not %s", s, got, want)
		}
	}
}

// Promise 10.1: Check leaves its argument as it is, and its results are not shared.
func TestNothingIsShared(t *testing.T) {
	s := around + "int x[2]={1,2};i = 1; t->x += p[1]; }"
	p, again := parse(t, s), parse(t, s)
	u, _, _ := check.Check(p)
	other, _, _ := check.Check(p)
	if !reflect.DeepEqual(p, again) || !reflect.DeepEqual(u, other) {
		t.Errorf("the tree, or the second unit, is another")
	}
	u.Codes[5].Body[0].Var, u.Codes[5].Slots[0].Name, u.Data[0][0], u.Globals[0].Name = 9, "changed", 9, "changed"
	if again, _, _ := check.Check(p); !reflect.DeepEqual(again, other) {
		t.Errorf("units share memory")
	}
}

// Promise 10.1: positions are of no meaning but for errors.
func TestPlainTrees(t *testing.T) {
	p := parse(t, around+"return a[1]; }")
	u, _, _ := check.Check(p)
	plain, pos, e := check.Check(tree.Plain(p))
	if !reflect.DeepEqual(u, plain) || pos != (api.Pos{}) || e != api.OK {
		t.Errorf("%v at %v", e, pos)
	}
	if _, pos, e := check.Check(api.Program{}); e != api.ErrNone || pos != (api.Pos{Line: 1, Col: 1}) {
		t.Errorf("%v at %v", e, pos)
	}
}
