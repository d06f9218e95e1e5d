package interp_test

import (
	"slices"
	"strconv"
	"strings"
	"testing"

	"rushlight/api"
	"rushlight/interp"
)

// dice is a sequence of numbers that is the same each time.
type dice uint64

// roll is the next number below n.
func (d *dice) roll(n int) int {
	*d = *d*6364136223846793005 + 1442695040888963407
	return int(uint64(*d)>>33) % n
}

// maker makes texts of programs that check accepts. In each, an expression or statement of a kind is drawn from texts with holes:
// I is an int, J one that is mostly a small number, V an int lvalue, P a pointer to an int, Q one to a struct, S a statement.
type maker struct {
	dice
	loops    int
	switches int
	names    int
	early    string // how the function may be left at any place
}

// top is what stands ahead of all functions, so that each may use it.
const top = `struct s { int a; char b; int v[2]; struct s *n; };
int calls; int g = 4; char h = 200; int ga[3] = {1, 2}; char gb[4]; int *gp; struct s gs; struct s *gq; struct s gt[2];
`

// either stands for the mark | in texts that it separates.
const either = "@"

// fill is one of some texts, separated by |, with its holes filled; one without holes if there is not much left.
func (m *maker) fill(left int, texts string) string {
	l := strings.Split(texts, "|")
	if left <= 0 {
		l = slices.DeleteFunc(l, func(s string) bool { return strings.ContainsAny(s, "IJVPQS") })
	}
	var b strings.Builder
	for _, c := range l[m.roll(len(l))] {
		switch c {
		case 'I':
			b.WriteString("(" + m.int(left-1) + ")")
		case 'J':
			b.WriteString("(" + m.index(left-1) + ")")
		case 'V':
			b.WriteString(m.place(left - 1))
		case 'P':
			b.WriteString("(" + m.pointer(left-1) + ")")
		case 'Q':
			b.WriteString("(" + m.structure(left-1) + ")")
		case 'S':
			b.WriteString(m.statement(left - 1))
		default:
			b.WriteRune(c)
		}
	}
	return b.String()
}

func (m *maker) int(left int) string {
	if m.roll(3) == 0 {
		return m.place(left)
	}
	if m.roll(3) == 0 {
		return m.fill(left, "0|1|2|7|300|0x80000000|in()|'a'|sizeof(struct s)")
	}
	text := m.fill(left, "3|-I|~I|!I|!P|!Q|I op I|I op I|I op I|I&&I|I"+either+either+"I|P&&I|I?I:I|P?I:I|I?in():I|P==0|0!=Q|V=I|V as=I|V as=I|V++|V--|++V|--V|I/J|I%J|f(I,I,P)|k(I)|f(in(),in(),0)")
	text = strings.Replace(text, " op ", strings.Fields("+ - * / % & " + either + " ^ << >> == != < > <= >=")[m.roll(16)], 1)
	text = strings.Replace(text, " as=", strings.Fields("+ - * / % & " + either + " ^ << >>")[m.roll(10)]+"=", 1)
	return strings.ReplaceAll(text, either, "|")
}

func (m *maker) index(left int) string {
	if m.roll(5) == 0 {
		return m.int(left)
	}
	return m.fill(0, "0|0|0|1|1|1|2|2|3|-1|4")
}

func (m *maker) place(left int) string {
	return m.fill(left, "x|y|c|g|h|i|x|y|c|a[J]|d[J]|ga[J]|gb[J]|(*P)|*p|p[J]|gs.a|t.a|t.b|t.v[J]|u[J].a|gt[J].v[J]|q->a|gq->b|Q->v[J]|q->n->a|Q->b|(*Q).a|w[J][J]|(*w[J])|(*(P+J))|(*l(J))|l(J)[0]|o(Q)->a")
}

func (m *maker) pointer(left int) string {
	return m.fill(left, "p|gp|&x|&y|&i|&g|a|ga|t.v|&gs.a|p|&y|w[J]|P+J|J+P|P-J|p++|--p|gp--|p+=J|gp-=J|p=P|gp=P|I?P:P|I?P:0|l(I)|&a[J]|Q->v|&Q->a|p=0")
}

func (m *maker) structure(left int) string {
	return m.fill(left, "q|gq|&t|&gs|u|gt|q|Q->n|t.n|&u[J]|q=Q|gq=Q|q++|q-=J|Q+J|I?Q:0|o(Q)|t.n=Q|q=0")
}

// statement is a statement. Within loops and switches, those that leave them are drawn too.
func (m *maker) statement(left int) string {
	texts := "I;|I;|I;|P;|Q;|out(I);|out(I);|V=I;|V=I;|p=P;|gp=P;|q=Q;|t.n=Q;|if(I)S|if(I)S else S|if(P)S|{SS}|{SSS}|v(P,I);|a;|t;|*Q;|;|{int x=I;SS}|{char c;c=I;S}|{int a[3]={I,I};S}|{int*p=P;SS}|while(J){S y--;S}|{x=1;;}|" +
		"L|L|L|W|W|R"
	if m.loops > 0 {
		texts += "|if(I)continue;|if(I)break;|continue;|break;"
	} else if m.switches > 0 {
		texts += "|if(I)break;|break;"
	}
	if left <= 0 {
		return m.fill(0, "x=2;|out(y);|p=&x;|{}|;|y++;|q=&t;")
	}
	switch s := m.fill(left, texts); s {
	case "L":
		return m.loop(left)
	case "W":
		return m.choice(left)
	case "R":
		return "if(" + m.int(left-1) + ")" + m.early
	default:
		return s
	}
}

func (m *maker) loop(left int) string {
	m.loops++
	defer func() { m.loops-- }()
	m.names++
	i := "i" + strconv.Itoa(m.names)
	s := m.fill(left, "{int N;for(N=0;N<3;N++)S}|{int N=0;while(N++<3){SS}}|{int N=3;do{SS}while(--N);}|for(;I&&y++<9;I)S|for(y=0;;y++){S if(y>2)break;S}|for(I;y++<5;)S|do S while(J<1);|for(;g<9;g++);|for(;;)if(y++<40)S else break;|for(v(P,I);c++;v(P,I))S")
	return strings.ReplaceAll(s, "N", i)
}

func (m *maker) choice(left int) string {
	m.switches++
	defer func() { m.switches-- }()
	return m.fill(left, "switch(J){case 0:S case 1:S default:S case 2:S}|switch(J){case 0:S break;case 1:{S break;}case 2:S}|switch(J){default:S case 1:S}|switch(I){case 0:case 1:S}|switch(I){}")
}

// function is a function with a head: each begins with variables of the same names.
func (m *maker) function(head, result string) string {
	m.loops, m.switches, m.early = 0, 0, "return 0;"
	if result == "" {
		m.early = "return;"
	}
	s := head + "{if(calls++>25)" + m.early + "int x" + m.fill(0, "|=1|=g") + ";int y=2;int i=0;char c=" + m.fill(0, "1|300|in()|ga[1]") + ";int a[3]" + m.fill(0, "|={1}|={1,g,x}") + ";char d[2]={'d'};int w[2][3];int*p" + m.fill(0, "|=0|=&x|=a|=&y|=a|=ga") + ";struct s t;struct s u[2];struct s*q" + m.fill(0, "|=0|=&t|=&gs|=u|=u|=gt|=&t") + ";\n"
	if m.roll(8) > 0 {
		s += "x=y;gs.n=gq=gt;gt[1].n=&gs;gp=ga;t.a=1;t.b=2;t.v[0]=t.v[1]=3;t.n=&gs;for(;i<2;i++){u[i].a=i;u[i].b=9;u[i].v[0]=u[i].v[1]=4;u[i].n=&t;w[i][0]=w[i][1]=w[i][2]=i;}i=1;"
	}
	for range 1 + m.roll(6) {
		s += m.statement(3) + "\n"
	}
	return s + "return " + result + ";}\n"
}

// program is a text.
func (m *maker) program() string {
	s := m.function("int f(int m,char n,int*z)", m.fill(1, "m|n|x|m+n|I")) + m.function("char k(int m)", m.fill(1, "m|300|I")) + m.function("int*l(int m)", m.fill(0, "&x|&y|p|gp|a|0|ga")) +
		m.function("struct s*o(struct s*z)", m.fill(0, "z|q|gq|&gs|0")) + m.function("void v(int*z,int m)", "") + m.function("int main()", m.fill(1, "0|1|x|I"))
	return top + s
}

// extended reports whether one run may be another one with more fuel.
func extended(less, more api.Outcome) bool {
	if less.E != api.ErrFuel {
		return equal(less, more)
	}
	return less.Ins <= more.Ins && len(less.Out) <= len(more.Out) && slices.Equal(less.Out, more.Out[:len(less.Out)])
}

// Promises 12.1 and 12.2: drawn programs with drawn fuel, held against the model; and what follows.
func TestDrawnPrograms(t *testing.T) {
	seen, outs, ins := map[api.Errno]int{}, 0, 0
	for n := range 2000 {
		m := &maker{dice: dice(n)}
		s := m.program()
		u, inputs := unit(t, s), list(1, 300, 0, 2, -1)
		full := interp.Run(u, inputs, 5000)
		seen[full.E]++
		outs += len(full.Out)
		ins += full.Ins
		for _, fuel := range []int{5000, m.roll(30), m.roll(300), m.roll(3000)} {
			got := interp.Run(u, inputs, fuel)
			if want := modelRun(u, inputs, fuel); !equal(got, want) {
				t.Fatalf("%s with %d steps: %v, not %v", s, fuel, got, want)
			}
			if !extended(got, full) {
				t.Fatalf("%s with %d steps: %v, but with more %v", s, fuel, got, full)
			}
		}
		read := inputs[:min(full.Ins, len(inputs))]
		rest := list(slices.Repeat([]int{7}, 9)...)
		if got := interp.Run(u, slices.Concat(read, make([]uint32, full.Ins-len(read)), rest), 5000); !equal(got, full) {
			t.Fatalf("%s with other inputs behind those that are read: %v, not %v", s, got, full)
		}
	}
	for _, e := range []api.Errno{api.OK, api.ErrFuel, api.ErrUnset, api.ErrNil, api.ErrBound, api.ErrDead, api.ErrZero} {
		if seen[e] < 10 {
			t.Errorf("%v: %d times", e, seen[e])
		}
	}
	if outs < 4000 || ins < 4000 {
		t.Errorf("%d outputs, %d inputs", outs, ins)
	}
}
