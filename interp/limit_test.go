package interp_test

import (
	"math"
	"slices"
	"strconv"
	"strings"
	"testing"

	"rushlight/api"
	"rushlight/interp"
)

// Promise 12.1: how many steps runs need. The start of each act and each term is one.
func TestSteps(t *testing.T) {
	for s, want := range map[string]int{
		"int main(){}":                                0,
		"int main(){;;}":                              0,
		"int g[3]={1,2,3};int main(){}":               0,
		"int main(){return 1;}":                       2,
		"int main(){{}}":                              1,
		"int main(){{{;}{}}}":                         3,
		"int main(){int x;}":                          1,
		"int main(){int x=1;}":                        5,
		"int main(){char a[2]={7};}":                  1 + 2*6,
		"int g;int main(){g;}":                        3,
		"int main(){1+2*3;}":                          6,
		"int main(){-!~1;}":                           5,
		"int main(){1&&2;0&&2;1||2;0||2;}":            4 + 3 + 3 + 4,
		"int main(){1?2:3;0?2:3+4;}":                  4 + 6,
		"int main(){if(1)2;else 3;if(0)4;}":           4 + 2,
		"int main(){while(0);do;while(0);}":           4,
		"int main(){for(;;)break;}":                   3,
		"int main(){for(;0;)1;}":                      3,
		"int main(){while(1)break;}":                  3,
		"int main(){do continue;while(0);}":           3,
		"int main(){int i;for(i=0;i<2;i++);}":         1 + 1 + 4 + 1 + 3*4 + 2*2,
		"int main(){int i=2;while(i)i--;}":            5 + 1 + 3*2 + 2*3,
		"int main(){int i=2;do continue;while(--i);}": 5 + 1 + 2*3,
		"int main(){switch(2){case 1:out(1);case 2:out(2);default:out(3);}}":  2 + 3 + 3,
		"int main(){switch(2){}switch(2){case 3:1;}switch(2){case 2:break;}}": 2 + 2 + 3,
		"int f(int a){return a;}int main(){f(1);}":                            6,
		"char f(char a){return a;}int main(){f(1);}":                          8,
		"void f(){return;}int main(){f();}":                                   3,
		"int f(int a,int b){}int main(){return f(1,in());}":                   4,
		"int g;int main(){g=1;g+=2;g++;}":                                     4 + 4 + 3,
		"int a[2];int main(){a[1]=a[0];*(a+1);}":                              3 + 2 + 4 + 5,
		"struct s{int v;int a[2];};struct s g;int main(){g.v;&g.a[1];}":       4 + 6,
	} {
		u := unit(t, s)
		full := interp.Run(u, list(9), 1000)
		if full.E != api.OK {
			t.Errorf("%s: %v", s, full)
		}
		for fuel := range want + 3 {
			got := interp.Run(u, list(9), fuel)
			if fuel >= want && !equal(got, full) || fuel < want && (got.E != api.ErrFuel || got.Exit != 0) {
				t.Errorf("%s with %d steps of %d: %v", s, fuel, want, got)
			}
		}
	}
}

// Promise 12.1: what has happened before the steps are used up.
func TestFuel(t *testing.T) {
	u := unit(t, "int main(){out(in());out(in()+1/in());}")
	for fuel, want := range map[int]api.Outcome{2: {}, 3: {Out: list(5), Ins: 1}, 6: {Out: list(5), Ins: 1}, 7: {Out: list(5), Ins: 2}, 9: {Out: list(5), Ins: 2}} {
		want.E = api.ErrFuel
		if got := interp.Run(u, list(5, 6, 0), fuel); !equal(got, want) {
			t.Errorf("%d steps: %v, not %v", fuel, got, want)
		}
	}
	if got := interp.Run(u, list(5, 6, 0), 10); !equal(got, api.Outcome{Out: list(5), Ins: 3, E: api.ErrZero}) {
		t.Errorf("10 steps: %v", got)
	}
	for _, s := range []string{"int main(){for(;;);}", "int main(){for(;;){;}}", "int main(){while(1);}", "int main(){for(;;){{}}}", "int main(){for(;;)continue;}", "int main(){for(;;in());}", "int main(){return main();}"} {
		for _, fuel := range []int{0, 1, 2, 100, 30000} {
			got := interp.Run(unit(t, s), nil, fuel)
			got.Ins = 0
			if !equal(got, api.Outcome{E: api.ErrFuel}) {
				t.Errorf("%s with %d steps: %v", s, fuel, got)
			}
		}
	}
	gives(t, "int main(){out(1);for(;;);}", api.Outcome{Out: list(1), E: api.ErrFuel})
}

// Promise 12.1: fuel is clamped.
func TestClampedFuel(t *testing.T) {
	for _, fuel := range []int{-1, math.MinInt} {
		if got := interp.Run(unit(t, "int main(){return 1;}"), nil, fuel); !equal(got, api.Outcome{E: api.ErrFuel}) {
			t.Errorf("%d steps: %v", fuel, got)
		}
		if got := interp.Run(unit(t, "int main(){}"), nil, fuel); !equal(got, api.Outcome{}) {
			t.Errorf("%d steps: %v", fuel, got)
		}
	}
	u := unit(t, "int main(){for(;;)out(1);}") // two steps, and then an output at the third of three
	for _, x := range []struct{ fuel, outs int }{{301, 99}, {302, 100}, {interp.MaxFuel, (10000000 - 2) / 3}, {interp.MaxFuel + 5, (10000000 - 2) / 3}, {math.MaxInt, (10000000 - 2) / 3}} {
		got := interp.Run(u, nil, x.fuel)
		if len(got.Out) != x.outs || got.E != api.ErrFuel {
			t.Errorf("%d steps: %d outputs, %v", x.fuel, len(got.Out), got.E)
		}
	}
}

// Promise 12.1: how deep calls are nested; that of main is one of them.
func TestDeepCalls(t *testing.T) {
	for n, want := range map[int]api.Outcome{4998: {Out: list(1, 2), Exit: 7}, 4999: {Out: list(1), E: api.ErrFuel}, 1 << 20: {Out: list(1), E: api.ErrFuel}} {
		s := strconv.Itoa(n)
		gives(t, "int f(int n){if(n==0)return 7;return f(n-1);}int main(){out(1);int x=f("+s+");out(2);return x;}", want)
		gives(t, "int f(int n){if(n)return g(n-1);return 7;}int g(int n){if(n)return f(n-1);return 7;}int main(){out(1);int x=g("+s+");out(2);return x;}", want)
	}
	// calls that follow one another are not nested
	gives(t, "int f(){return 1;}int main(){int s=0;int i;for(i=0;i<6000;i++)s+=f();return s;}", api.Outcome{Exit: 6000 & 255})
}

// Promise 12.1: how many objects there are; those of calls that have ended are among them.
func TestManyObjects(t *testing.T) {
	// main's own one, and five for each call: 2^20 in all
	for n, want := range map[int]api.Outcome{209715: {Out: list(1, 2), Exit: 3}, 209716: {Out: list(1), E: api.ErrFuel}} {
		u := unit(t, "void f(int a,char b){int c;int d;int e;}int main(){int i;out(1);for(i=0;i<"+strconv.Itoa(n)+";i++)f(1,2);out(2);return 3;}")
		if got := interp.Run(u, nil, interp.MaxFuel); !equal(got, want) {
			t.Errorf("%d calls: %v, not %v", n, got, want)
		}
	}
	// the objects of globals are among them too
	u := unit(t, "int x;void f(int a,char b){int c;int d;int e;}int main(){int i;out(1);for(i=0;i<209715;i++)f(1,2);out(2);return 3;}")
	if got := interp.Run(u, nil, interp.MaxFuel); !equal(got, api.Outcome{Out: list(1), E: api.ErrFuel}) {
		t.Errorf("with a global: %v", got)
	}
}

// Promise 12.1 and rule R1: as much as a text can nest, in as many calls as there may be.
func TestNested(t *testing.T) {
	for name, s := range map[string]string{
		"operands to the left":  "int f(){return f()" + strings.Repeat("+1", 32000) + ";}",
		"operands to the right": "int f(){return " + strings.Repeat("1|1^1&1==1<1<<1+1*(", 94) + "f()" + strings.Repeat(")", 94) + ";}",
		"acts":                  "int f(){" + strings.Repeat("for(;;)", 190) + "f();}",
		"fields":                "struct s{struct s*n;int v;};struct s g;int f(){g.n=&g;return g.n" + strings.Repeat("->n", 20000) + "->v+f();}",
		"large variables":       "int f(){char a[32768];char b[32768];char c[32768];a[0]=b[999]=c[32767]=1;return f();}",
	} {
		if got := interp.Run(unit(t, s+"int main(){out(1);return f();}"), nil, interp.MaxFuel); !equal(got, api.Outcome{Out: list(1), E: api.ErrFuel}) {
			t.Errorf("%s: %v", name, got)
		}
	}
	sum := "int x=1;int main(){out(x" + strings.Repeat("+x", 32000) + ");return x" + strings.Repeat("-x", 9) + ";}"
	if got := interp.Run(unit(t, sum), nil, interp.MaxFuel); !equal(got, api.Outcome{Out: list(32001), Exit: 248}) {
		t.Errorf("a sum: %v", got)
	}
}

// Rule R3: what is handed in is neither changed nor shared with what is handed out.
func TestSharing(t *testing.T) {
	u, inputs := unit(t, "int g[2]={1,2};int main(){g[0]=9;g[1]++;out(in());out(g[1]);return g[0];}"), list(7, 8)
	want := api.Outcome{Out: list(7, 3), Ins: 1, Exit: 9}
	for range 2 {
		got := interp.Run(u, inputs, 100)
		if !equal(got, want) || !slices.Equal(inputs, list(7, 8)) || !slices.Equal(u.Data[0], []byte{1, 0, 0, 0, 2, 0, 0, 0}) {
			t.Errorf("%v, %v, %v", got, inputs, u.Data)
		}
		clear(got.Out)
	}
}

// Rule R1: of units that check.Check did not make nothing is promised, but runs of them do not panic.
func TestStrangeUnits(t *testing.T) {
	term := func(kind int, kids ...api.Term) api.Term { return api.Term{Kind: kind, Kids: kids} }
	self := []api.Term{{Kind: api.TmUnary, Fn: api.FnNeg}}
	self[0].Kids = self
	for kind := -1; kind <= api.TmCut+1; kind++ {
		for _, x := range []api.Term{term(kind), term(kind, term(api.TmConst)), term(kind, term(api.TmConst), term(api.TmConst)), term(kind, self[0], self[0], self[0]), {Kind: kind, Var: -1}, {Kind: kind, Var: 9, Global: true}} {
			for act := -1; act <= api.AcNew+1; act++ {
				a := api.Act{Kind: act, A: []api.Term{x}, Post: []api.Term{x}, Body: []api.Act{{}}, Cases: []api.Choice{{}}}
				interp.Run(api.Unit{Codes: []api.Code{{Body: []api.Act{a}}}}, nil, 1000)
			}
		}
	}
	for _, u := range []api.Unit{
		{}, {Main: -1}, {Main: 1, Codes: make([]api.Code, 1)}, {Globals: make([]api.Slot, 2), Codes: make([]api.Code, 1)}, {Data: make([][]byte, 3), Globals: []api.Slot{{Size: 1 << 60}}, Codes: make([]api.Code, 1)},
		{Codes: []api.Code{{Slots: []api.Slot{{}, {Size: -1}}, Params: 7, Body: []api.Act{{Kind: api.AcNew}, {Kind: api.AcExpr}, {Kind: api.AcSwitch}}}}},
		{Codes: []api.Code{{Body: []api.Act{{Kind: api.AcBreak}}}}}, {Codes: []api.Code{{Body: []api.Act{{Kind: api.AcContinue}}}}}, {Codes: []api.Code{{Body: []api.Act{{Kind: api.AcLoop}}}}},
	} {
		interp.Run(u, nil, 1000)
	}
}
