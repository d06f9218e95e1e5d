package interp_test

import (
	"slices"
	"strings"
	"testing"

	"rushlight/api"
	"rushlight/check"
	"rushlight/interp"
	"rushlight/tree"
)

// unit is the unit of a text.
func unit(t *testing.T, s string) api.Unit {
	t.Helper()
	p, at, e := tree.Read(s)
	if e != api.OK {
		t.Fatalf("%.500s: %v at %v", strings.Split(s, "\n")[at.Line-1], e, at)
	}
	u, at, e := check.Check(p)
	if e != api.OK {
		t.Fatalf("%.500s: %v at %v", strings.Split(s, "\n")[at.Line-1], e, at)
	}
	return u
}

// list is numbers as words.
func list(l ...int) []uint32 {
	var words []uint32
	for _, n := range l {
		words = append(words, uint32(n))
	}
	return words
}

// equal reports whether two outcomes are the same.
func equal(a, b api.Outcome) bool {
	return slices.Equal(a.Out, b.Out) && a.Ins == b.Ins && a.Exit == b.Exit && a.E == b.E
}

// gives reports as a fault a text whose run, with the inputs 5, 6 and 7, has another outcome.
func gives(t *testing.T, s string, want api.Outcome) {
	t.Helper()
	if got := interp.Run(unit(t, s), list(5, 6, 7), 100000); !equal(got, want) {
		t.Errorf("%s: %v, not %v", s, got, want)
	}
}

// outputs reports as a fault a main that does not output these numbers and return 0.
func outputs(t *testing.T, top, main string, want ...int) {
	t.Helper()
	gives(t, top+" int main(){"+main+" return 0;}", api.Outcome{Out: list(want...)})
}

// The examples of the chapter.
func TestExamples(t *testing.T) {
	got := interp.Run(unit(t, "int main() { out(in() + 1); return 300; }"), list(4), 100)
	if !equal(got, api.Outcome{Out: list(5), Ins: 1, Exit: 44}) {
		t.Errorf("%v", got)
	}
	gives(t, "int main() { int x; return x; }", api.Outcome{E: api.ErrUnset})
}

// Promise 12.1: how a run that terminates ends.
func TestExit(t *testing.T) {
	for s, want := range map[string]uint32{
		"int main(){return 0;}":                                           0,
		"int main(){return 255;}":                                         255,
		"int main(){return 256;}":                                         0,
		"int main(){return -1;}":                                          255,
		"int main(){return 0x12345678;}":                                  0x78,
		"int main(){}":                                                    0,
		"int main(){if(0)return 1;}":                                      0,
		"int main(){for(;;)return 9;}":                                    9,
		"int x;int main(){if(x++<3)return main()+1;return 4;}":            7,
		"int f(){return 3;}int main(){return f();}int g(){}":              3,
		"int main(){switch(1){case 1:{while(1){do return 6;while(1);}}}}": 6,
	} {
		gives(t, s, api.Outcome{Exit: want})
	}
}

// Promise 12.1: inputs, of which there are 5, 6 and 7 and then 0.
func TestInputs(t *testing.T) {
	for s, want := range map[string]api.Outcome{
		"int main(){return in();}":                                           {Ins: 1, Exit: 5},
		"int main(){in();in();return in();}":                                 {Ins: 3, Exit: 7},
		"int main(){in();in();in();out(in());return in();}":                  {Ins: 5, Out: list(0)},
		"int main(){return in()*100+in()*10+in();}":                          {Ins: 3, Exit: 567 & 255},
		"int f(int a,int b){return a*10+b;}int main(){return f(in(),in());}": {Ins: 2, Exit: 56},
		"int a[9];int main(){a[in()]=in();out(a[5]);out(a[in()]);}":          {Ins: 3, Out: list(6, 0)},
		"int a[9];int main(){a[in()]+=in();out(a[5]);}":                      {Ins: 2, Out: list(6)},
		"int main(){0&&in();1||in();1?2:in();0?in():2;}":                     {},
		"int main(){out(1&&in());out(0||in());out(0?1:in());}":               {Ins: 3, Out: list(1, 1, 7)},
		"int main(){out(in());int x;x=x;}":                                   {Ins: 1, Out: list(5), E: api.ErrUnset},
	} {
		gives(t, s, want)
	}
	if got := interp.Run(unit(t, "int main(){out(in());}"), nil, 10); !equal(got, api.Outcome{Out: list(0), Ins: 1}) {
		t.Errorf("without inputs: %v", got)
	}
}

// Promise 12.1: numbers.
func TestNumbers(t *testing.T) {
	outputs(t, "", "out(7+3);out(3-7);out(-3*7);out(-7/2);out(-7%2);out(6&3);out(6|3);out(6^3);out(1<<4);out(-16>>2);", 10, -4, -21, -3, -1, 2, 7, 5, 16, -4)
	outputs(t, "", "out(1==1);out(1!=1);out(-1<0);out(-1>0);out(3<=3);out(3>=4);out(-(5));out(~5);out(!5);out(!0);", 1, 0, 1, 0, 1, 0, -5, -6, 0, 1)
	outputs(t, "", "out(1<<33);out(0x7fffffff+1);out(0x80000000/-1);out(0x80000000%-1);out(0xffffffff);out(0x10000*0x10000);", 2, -1<<31, -1<<31, 0, -1, 0)
	outputs(t, "", "out(2&&3);out(2&&0);out(0&&3);out(0||0);out(0||9);out(9||0);out(2?3:4);out(0?3:4);out(2?0:4);out(1&&1||0&&0);", 1, 0, 0, 0, 1, 1, 3, 4, 0, 1)
	outputs(t, "struct s{int a;char b;};", "out(sizeof(int));out(sizeof(char));out(sizeof(char**));out(sizeof(struct s));", 4, 1, 4, 8)
}

// Promise 12.1: variables, and what assignments yield.
func TestAssignments(t *testing.T) {
	outputs(t, "", "int x;int y;out(x=y=3);out(x);out(y);out(x+=4);out(x-=9);out(x*=-6);out(x/=5);out(x%=2);", 3, 3, 3, 7, -2, 12, 2, 0)
	outputs(t, "", "int x=6;out(x<<=2);out(x>>=1);out(x&=10);out(x|=5);out(x^=1);", 24, 12, 8, 13, 12)
	outputs(t, "", "int x=5;out(x++);out(x);out(++x);out(x--);out(--x);out(x);", 5, 6, 7, 7, 5, 5)
	outputs(t, "", "char c;out(c=300);out(c);out(c+=250);out(c);out(c++);out(c=255);out(c++);out(c);out(--c);out(c--);out(c);out(c=-1);out(-c);out(c*=c);out(c<<=7);",
		44, 44, 38, 38, 38, 255, 255, 0, 255, 255, 254, 255, -255, 1, 128)
	outputs(t, "int g=7;int h;char c=511;int a[3]={1,2};char b[2]={258};int*p=0;", "out(g);out(h);out(c);out(a[0]);out(a[1]);out(a[2]);out(b[0]);out(b[1]);out(p==0);", 7, 0, 255, 1, 2, 0, 2, 0, 1)
	outputs(t, "", "int a[3]={4,5};char b[3]={1,300};int*p[2]={0};out(a[0]);out(a[1]);out(a[2]);out(b[1]);out(b[2]);out(!p[0]);out(!p[1]);", 4, 5, 0, 44, 0, 1, 1)
	// operands come before the old value is read
	outputs(t, "int x=1;int f(){x=10;return 2;}", "out(x+=f());out(x=x+f());x=1;out(x+f());x=1;out(x-f()*x);", 12, 14, 3, -19)
	outputs(t, "", "int x=1;out(x+(x=5)+x);out((x=3)+x++ +x);out(x+=x++ +x);out(x=x++);out(x);", 11, 10, 14, 14, 14)
	outputs(t, "int n;int*f(){n++;return &n;}", "(*f())++;*f()+=10;out(n);(*f())=9;out(n);", 13, 9)
	// blocks hide what is around them
	outputs(t, "int x=1;", "out(x);int x=2;{int x=3;out(x);}out(x);{x=4;}out(x);", 1, 3, 2, 4)
}

// Promise 12.1: pointers, arrays and structs.
func TestPlaces(t *testing.T) {
	outputs(t, "", "int x=3;int*p=&x;int**q=&p;*p=4;out(x);**q=5;out(*p);out(p==0);out(p!=0);out(!p);p=0;out(*q==0);out(0!=p);out(!p);", 4, 5, 0, 1, 0, 1, 0, 1)
	outputs(t, "", "int x;int*p=&x;int*n=0;out(p&&1);out(n&&1);out(n||p);out(n||0);out(p?1:2);out(n?1:2);if(p)out(7);if(n)out(8);while(n)out(9);", 1, 0, 1, 0, 1, 2, 7)
	outputs(t, "", "int a[4];int*p=a;int i;for(i=0;i<4;i++)a[i]=i*i;out(*(p+3));out(*(2+p));out(p[1]);p+=3;out(*p);out(*(p-1));out(p[-3]);out(*p--);out(*--p);out(*p++);out(*++p);p-=2;out(*p);", 9, 4, 1, 9, 4, 0, 9, 1, 1, 9, 1)
	outputs(t, "", "char b[3]={1,2,3};char*p=b;p++;*p=300;out(b[1]);out(*(p+1));out(*p++);out(*p);", 44, 3, 44, 3)
	outputs(t, "", "int a[2][3];int i;for(i=0;i<6;i++)a[i/3][i%3]=i;out(a[1][0]);out(a[0][2]);out(*a[1]);out(**a);int*p=a[1];out(p[2]);a[1][2]+=10;out(p[2]);", 3, 2, 3, 0, 5, 15)
	outputs(t, "struct s{char c;int v[2];struct s*n;};struct s g;", "struct s x;struct s*p=&x;x.c=300;x.v[1]=7;p->v[0]=x.v[1]++;p->n=&g;x.n->c=9;p->n->n=p;out(x.c);out(x.v[0]);out(x.v[1]);out(g.c);out(g.n->n->c);out((*p).c);out(p->n==0);out(g.v[1]);", 44, 7, 8, 9, 9, 44, 0, 0)
}

// Promise 12.1: ifs, loops, and how they are left.
func TestFlow(t *testing.T) {
	outputs(t, "", "if(1)out(1);if(0)out(2);if(3)out(3);else out(4);if(0)out(5);else out(6);if(0);else if(0)out(7);else out(8);", 1, 3, 6, 8)
	outputs(t, "", "int i=0;while(i<3){out(i);i++;}while(0)out(9);do{out(i);i--;}while(i);do out(7);while(0);", 0, 1, 2, 3, 2, 1, 7)
	outputs(t, "", "int i;for(i=0;i<3;i++)out(i);for(;i<5;)out(i++);for(;;i++){out(i);if(i>5)break;}for(i=9;0;)out(1);out(i);", 0, 1, 2, 3, 4, 5, 6, 9)
	outputs(t, "", "int i;for(i=0;i<6;i++){if(i==1)continue;if(i==4)break;out(i);}out(i);", 0, 2, 3, 4)
	outputs(t, "", "int i=0;while(i++<5){if(i==2)continue;out(i);}i=0;do{if(i==1)continue;out(i);if(i==3)break;}while(i++<9);out(i);", 1, 3, 4, 5, 0, 2, 3, 3)
	outputs(t, "", "int i;int j;for(i=0;i<3;i++){for(j=0;j<9;j++){if(j==i)break;if(i==2&&j==0)continue;out(i*10+j);}out(i);}", 0, 10, 1, 21, 2)
	outputs(t, "", "int i;for(i=0;i<3;i++){int j=0;while(1){if(j++>i)break;do{if(j==2)break;{if(1)continue;}out(9);}while(0);out(i*10+j);}}", 1, 11, 12, 21, 22, 23)
	outputs(t, "void f(int n){for(;;){while(1){if(n)return;n++;out(n);}}}", "f(0);f(1);{{return 0;}}out(2);", 1)
	outputs(t, "void f(){out(1);}", "for(f();0;f());for(f();0;);", 1, 1)
}

// Promise 12.1: switches.
func TestSwitch(t *testing.T) {
	const cases = "void f(int n){switch(n){case 1:out(1);case 2:{out(2);break;}case -1:out(3);default:out(4);case 3:out(5);}out(9);}"
	outputs(t, cases, "f(1);f(2);f(-1);f(0);f(3);f(4294967295);", 1, 2, 9, 2, 9, 3, 4, 5, 9, 4, 5, 9, 5, 9, 3, 4, 5, 9)
	outputs(t, "void f(int n){switch(n){default:out(1);case 5:case 6:out(2);break;case 0:}out(9);}", "f(1);f(5);f(6);f(0);", 1, 2, 9, 2, 9, 2, 9, 9)
	outputs(t, "void f(int n){switch(n){case 1:out(1);}switch(n){}switch(n){default:}out(9);}", "f(1);f(2);", 1, 9, 9)
	outputs(t, "", "int i;for(i=0;i<6;i++){switch(i){case 1:continue;case 3:break;case 4:{while(1){break;}out(4);switch(1){case 1:break;}out(5);}default:out(i);}out(-i);}", 0, 0, 2, -2, -3, 4, 5, 4, -4, 5, -5)
	outputs(t, "", "int i=0;switch(i++){case 0:while(1){switch(i++){case 3:break;default:continue;}break;}out(i);case 9:out(8);}", 4, 8)
	outputs(t, "int f(int n){switch(n){case 0:return 7;default:while(1){switch(n){default:return 8;}}}}", "out(f(0));out(f(1));", 7, 8)
	outputs(t, "", "switch(2){case 1:;int x=1;case 2:;int x=2;out(x);case 3:;int x=3;out(x);}", 2, 3)
	outputs(t, "", "char c=300;switch(c){case 44:out(1);}switch(300){case 44:out(2);default:out(3);}", 1, 3)
}

// Promise 12.1: calls.
func TestCalls(t *testing.T) {
	outputs(t, "int f(int n){if(n<2)return n;return f(n-1)+f(n-2);}", "out(f(10));", 55)
	outputs(t, "int f(int a,char b,int*p){a++;b++;*p+=a;return b;}", "int x=1;int y=5;out(f(y,511,&x));out(x);out(y);out(f(x,300,&x));", 0, 7, 5, 45)
	outputs(t, "char f(int n){return n;}char g(char c){return c+1;}", "out(f(300));out(g(255));out(g(511));out(f(-1));", 44, 0, 0, 255)
	// a call that ends without a return
	outputs(t, "int f(){}char g(){1;}int*h(){}int*k(int n){if(n)return 0;}", "out(f());out(g());out(h()==0);out(!k(0));out(k(1)!=0);int*p=h();out(!p);int x=f()+1;out(x);", 0, 0, 1, 1, 0, 1, 1)
	outputs(t, "int n;void f(){n++;if(n==2)return;n+=10;}", "f();out(n);n=1;f();out(n);", 11, 2)
	// each call has variables of its own
	outputs(t, "int f(int n){int x=n;if(n)f(n-1);return x;}", "out(f(3));", 3)
	outputs(t, "int*f(int*p,int n){int x;x=n;if(n==0)return p;if(n==2)return f(&x,n-1);return f(p,n-1);}", "int y=8;out(*f(&y,1));", 8)
	outputs(t, "int e(int n){if(n==0)return 1;return o(n-1);}int o(int n){if(n==0)return 0;return e(n-1);}", "out(e(10));out(e(7));", 1, 0)
	outputs(t, "int f(int a,int b,int c,int d,int e,int g){out(a);out(g);return b*c-d*e;}", "out(f(1,2,3,4,5,6));", 1, 6, -14)
}
