package lower_test

import (
	"slices"
	"strings"
	"testing"

	"rushlight/api"
	"rushlight/drawn"
	"rushlight/interp"
	"rushlight/ir"
	"rushlight/irrun"
	"rushlight/lower"
)

// gives reports as a fault a text whose run, or that of whose module, has another outcome with the inputs 5, 6 and 7.
func gives(t *testing.T, s string, want api.Outcome) {
	t.Helper()
	if got := interp.Run(unit(t, s), list(5, 6, 7), 100000); !equal(got, want) {
		t.Errorf("%.2000s: %v, not %v", s, got, want)
	}
	if got := irrun.Run(module(t, s), list(5, 6, 7), 1000000); !equal(got, want) {
		t.Errorf("%.2000s: its module: %v, not %v", s, got, want)
	}
}

// outputs reports as a fault a main that does not output these numbers and return 0.
func outputs(t *testing.T, top, main string, want ...int) {
	t.Helper()
	gives(t, top+" int main(){"+main+" return 0;}", api.Outcome{Out: list(want...)})
}

// Promise 15.2: how a run ends.
func TestExit(t *testing.T) {
	for s, want := range map[string]uint32{
		"int main(){return 300;}":                              44,
		"int main(){return -1;}":                               255,
		"int main(){}":                                         0,
		"int main(){int x=7;if(x-7)return x;}":                 0,
		"int main(){for(;;)return 9;}":                         9,
		"int main(){while(1){do return 6;while(1);}}":          6,
		"int x;int main(){if(x++<3)return main()+1;return 4;}": 7,
		"int f(){return 3;}int main(){return f();}int g(){}":   3,
	} {
		gives(t, s, api.Outcome{Exit: want})
	}
	gives(t, "int main() { out(in() + 1); return 300; }", api.Outcome{Out: list(6), Ins: 1, Exit: 44})
	gives(t, "int main(){in();out(in());in();in();return in();}", api.Outcome{Out: list(6), Ins: 5})
}

// Promise 15.2: numbers.
func TestNumbers(t *testing.T) {
	outputs(t, "", "int x=-7;int y=2;out(x+y);out(x-y);out(x*y);out(x/y);out(x%y);out(x&y);out(x|y);out(x^y);out(x<<y);out(x>>y);out(1<<33);", -5, -9, -14, -3, -1, 0, -5, -5, -28, -2, 2)
	outputs(t, "", "int x=-7;int y=2;out(x==y);out(x!=y);out(x<y);out(x>y);out(x<=y);out(x>=y);out(x<=x);out(-x);out(~x);out(!x);out(!!x);", 0, 1, 1, 0, 1, 0, 1, 7, 6, 0, 1)
	outputs(t, "struct s{int a;char b;};", "out(sizeof(int));out(sizeof(struct s));out(0x80000000/-1);out('a');", 4, 8, -1<<31, 97)
}

// Promise 15.2: chars are cut whenever they are set, passed and returned.
func TestChars(t *testing.T) {
	const top = "char g=200;char a[3]={1,2,255};char id(char c){return c;}char cut(int n){return n;}int big(char c){c+=300;return c;}int low(char c){return c<0;}struct s{char b;};"
	outputs(t, top, "char c=300;out(c);c=511;out(c);out(c=256);c--;out(c);c++;out(c);c-=2;out(c);c*=3;out(c);c<<=4;out(c);out(c=-1);", 44, 255, 0, 255, 0, 254, 250, 160, 255)
	outputs(t, top, "char c=255;out(c++);out(c);out(--c);out(c--);out(c+=600);out(c);out(++c);out(-c);", 255, 0, 255, 255, 86, 86, 87, -87)
	outputs(t, top, "out(g++);g+=100;out(g);out(g=1000);out(g-=233);out(--g);a[1]=a[2]++;out(a[1]);out(a[2]);out(a[0]=-1);out(a[0]);", 200, 45, 232, 255, 254, 255, 0, 255, 255)
	outputs(t, top, "out(id(300));out(cut(300));out(cut(-1));out(big(255));out(low(-5));char c=id(cut(511));out(c);int x=(c=258);out(x);", 44, 44, 255, 43, 0, 255, 2)
	outputs(t, top, "struct s x;struct s*q=&x;x.b=511;out(x.b);q->b++;out(x.b);out(q->b-=1);char d;char*p=&d;*p=-2;out(d);out((*p)++);out(++*p);out(*p&7);out(d|256);", 255, 0, 255, 254, 254, 0, 0, 256)
	outputs(t, top+"int k=300;int same(int n){return n;}", "int x=k;char c=k;out(c);c=x&0x1ff;out(c);c=same(x+1);out(c);c=x>>0;out(c);c=x<<1;out(c);c=x?x:c;out(c);c=x++;out(c);c=k++;out(c);c=x--+0;out(c);c=-x;out(c);c=~x;out(c);c=x|1;out(c);c=x^c;out(c);c=id(x)+x;out(c);c=(c=x)+(x=2);out(c);", 44, 44, 45, 44, 88, 44, 44, 44, 45, 212, 211, 45, 1, 88, 46)
	outputs(t, top, "char c=7;char d=c&300;char e=c|d;char f=c^3;char h=c<8;char i=!c;char j=~c;out(d);out(e);out(f);out(h);out(i);out(j);c=c&0x1ff;c=c|0x100;out(c);", 4, 7, 4, 1, 0, 248, 7)
}

// Promise 15.2: operands are evaluated in order, also where they are variables that a later one changes.
func TestOrder(t *testing.T) {
	outputs(t, "", "int x=2;out(x+(x=5));out(x-x++ +x);out(x*(x+=3));out((x=3)+x++ +x);out(x+=x++ +x);out(x=x++);out(x);", 7, 6, 54, 10, 14, 14, 14)
	outputs(t, "", "int x=1;int y=2;out((x=y)+(y=3)+x);out((x=y)+(x=4)+(y=x)+y);out(x-(y&&(x=9)));out(x-(y?x++:x--)-x);out((y?x:y)+(x=1));", 7, 15, 3, -10, 11)
	outputs(t, "int f(int a,int b,int c){return a*100+b*10+c;}", "int x=1;out(f(x,x++,x));out(f(x,x=5,x));out(f(x--,--x,x));out(f(x,f(x,x=2,x)-320,x));", 112, 255, 533, 322)
	outputs(t, "int g;int f(){g++;return g;}", "g=1;out(g+f()+g);out(g*f()+f());g=5;out(g-(g=2));out((g=3)+g++ +g);out(f()<f());", 5, 10, 3, 10, 1)
	outputs(t, "", "int a[3]={7,8,9};int i=0;a[i]=i=2;out(a[0]);a[i++]=i;out(a[2]);a[i-1]+=(i=1);out(a[2]);out(a[i]+a[i=0]+i);a[i]=a[i=1];out(a[0]);", 2, 3, 4, 10, 8)
	outputs(t, "", "int a[3]={7,8,9};int b[3]={1,2,3};int*p=a;*p=*(p=b);out(a[0]);out(*p+*(p=a+1)+p[1]);out(p[(p=b)==0]);p[1]+=(p=a)!=0;out(b[1]);*p++=*p;out(a[0]);out(*p);", 1, 18, 8, 3, 8, 8)
	outputs(t, "struct s{int v;struct s*n;};", "struct s x;struct s y;struct s*p=&x;x.n=&y;y.n=&x;x.v=1;y.v=2;p->v=(p=p->n)->v;out(x.v);p->v+=(p=p->n)->v;out(y.v);p->n->v=(p=&y)->v+1;out(y.v);out(p->v+(p=&x)->v);", 2, 4, 5, 7)
	outputs(t, "", "int x=3;int y;switch(x++){case 3:out(x+(x=9));case 4:out(x);}y=x--+ --x;out(y);if(x-- >x)out(x);while(x--!=x+1);out(x);", 13, 9, 16, 6, 5)
	outputs(t, "", "int x=1;int*p=&x;out(x+(*p=5)+x);out(x++ + *p);out((x=2)+(*p=3)+x);int y=4;out(y+(x=y)+(y=*p));", 11, 11, 8, 12)
}

// Promise 15.2: conditions, and what is only evaluated under them.
func TestConditions(t *testing.T) {
	const top = "int n;int f(int x){n=n*10+x;return x;}"
	outputs(t, top, "out(f(1)&&f(2));out(f(0)&&f(3));out(f(0)||f(4));out(f(5)||f(6));out(f(0)||f(0)||f(7)&&f(0));out(n);", 1, 0, 1, 1, 0, 1200450070)
	outputs(t, top, "if(f(1)&&f(0)||f(2))out(1);else out(2);if(!(f(1)||f(2)))out(3);else out(4);if(!f(0)&&!!f(3))out(5);out(n);", 1, 4, 5, 102103)
	outputs(t, top, "out(f(1)?f(2):f(3));out(f(0)?f(2):f(3));out((f(1)?f(0):f(1))?4:5);if(f(0)?f(1):f(2)&&f(3))out(6);out(n);", 2, 3, 5, 6, 120310023)
	outputs(t, top, "out(1&&f(1));out(0&&1/0);out(1||1/0);out(0||f(0));out(1?2:1/0);out(0?1/0:3);if(0)f(1);if(2)f(2);else f(3);while(0)f(4);do f(5);while(0);for(;0;f(6));out(n);", 1, 0, 1, 0, 2, 3, 1025)
	outputs(t, top, "int x=5;out(x&&x-5);out(x-5||x);out(!x||x);x=x>3&&x<9;out(x);int*p=&x;int*q=0;out(p&&1);out(q||0);out(!p);out(!q);out(p==0);out(0!=q);out(q?1:2);if(p)out(3);while(q)out(4);", 0, 1, 1, 1, 1, 0, 0, 1, 0, 0, 2, 3)
	outputs(t, "", "int x=5;int y=6;out(x<y&&y<7?x?10:20:30);out((x>y||!(y&1))+(x&&y));out(x==5?y==6?1:2:3);", 10, 2, 1)
}

// Promise 15.2: loops, switches, and how they are left.
func TestFlow(t *testing.T) {
	outputs(t, "", "int i;for(i=0;i<6;i++){if(i==1)continue;if(i==4)break;out(i);}out(i);for(;i<6;)out(i++);for(;;i++){if(i>7)break;}out(i);", 0, 2, 3, 4, 4, 5, 8)
	outputs(t, "", "int i=0;while(i++<5){if(i==2)continue;out(i);}i=0;do{if(i==1)continue;out(i);if(i==3)break;}while(i++<9);out(i);", 1, 3, 4, 5, 0, 2, 3, 3)
	outputs(t, "", "int i;int j;for(i=0;i<3;i++){for(j=0;j<9;j++){if(j==i)break;if(i==2&&j==0)continue;out(i*10+j);}out(i);}", 0, 10, 1, 21, 2)
	outputs(t, "", "int i;for(i=0;i<3;i++){int j=0;while(1){if(j++>i)break;do{if(j==2)break;{if(1)continue;}out(9);}while(0);out(i*10+j);}}", 1, 11, 12, 21, 22, 23)
	outputs(t, "void f(int n){for(;;){while(1){if(n)return;n++;out(n);}}}", "f(0);f(1);{{return 0;}}out(2);", 1)
	outputs(t, "void f(){out(1);}", "for(f();0;f());for(f();0;);", 1, 1)
	const cases = "void f(int n){switch(n){case 1:out(1);case 2:{out(2);break;}case -1:out(3);default:out(4);case 3:out(5);}out(9);}"
	outputs(t, cases, "f(1);f(2);f(-1);f(0);f(3);f(4294967295);", 1, 2, 9, 2, 9, 3, 4, 5, 9, 4, 5, 9, 5, 9, 3, 4, 5, 9)
	outputs(t, "void f(int n){switch(n){default:out(1);case 5:case 6:out(2);break;case 0:}switch(n){case 0:out(3);}switch(n){}switch(n){default:}out(9);}", "f(1);f(5);f(6);f(0);", 1, 2, 9, 2, 9, 2, 9, 3, 9)
	outputs(t, "", "int i;for(i=0;i<6;i++){switch(i){case 1:continue;case 3:break;case 4:{while(1){break;}out(4);switch(1){case 1:break;}out(5);}default:out(i);}out(-i);}", 0, 0, 2, -2, -3, 4, 5, 4, -4, 5, -5)
	outputs(t, "int f(int n){switch(n){case 0:return 7;default:while(1){switch(n){default:return 8;}}}}", "out(f(0));out(f(1));switch(2){case 1:;int x=1;case 2:;int x=2;out(x);case 3:;int x=3;out(x);}", 7, 8, 2, 3)
	outputs(t, "", "int x=9;for(;;){x--;if(x<5)break;if(x&1)continue;out(x);}do{x++;if(x==7)continue;out(x);}while(x<8);while(1)if(x++>9)break;else continue;out(x);", 8, 6, 5, 6, 8, 11)
}

// Promise 15.2: pointers, arrays and structs.
func TestPlaces(t *testing.T) {
	outputs(t, "", "int a[2][3];int i;for(i=0;i<6;i++)a[i/3][i%3]=i;out(a[1][0]);out(a[0][2]);out(*a[1]);out(**a);int*p=a[1];out(p[2]);a[1][2]+=10;out(p[2]);i=1;out(a[i][i+1]);out((*(a+i))[i]);", 3, 2, 3, 0, 5, 15, 15, 4)
	outputs(t, "", "int a[4]={1,2,3,4};int*p=a;int i=2;out(p[i]);out(*(p+i));out(*(i+p));p+=i;out(*p);out(p[-1]);out(*(p-i));p-=1;out(*p);out(*p--);out(*++p);out(p[-i+1]);out((p+i)[-1]);", 3, 3, 3, 3, 2, 1, 2, 2, 2, 1, 3)
	outputs(t, "struct s{char c;int v[2];struct s*n;};struct s g;struct s l[3];", "struct s x;struct s*p=&x;int i=1;x.c=300;x.v[1]=7;p->v[0]=x.v[i]++;p->n=&g;x.n->c=9;p->n->n=p;out(x.c);out(x.v[0]);out(x.v[1]);out(g.c);out(g.n->n->c);l[2].v[i]=4;p=l;p+=2;out(p->v[1]);p->n=l+i;p->n->v[0]=5;out(l[1].v[0]);out((*(p-i)).v[0]);out(p->n->n==0);", 44, 7, 8, 9, 9, 4, 5, 5, 1)
	outputs(t, "int n;int*f(){n++;return &n;}", "(*f())++;*f()+=10;out(n);(*f())=9;out(n);f()[0]--;out(n);*&*f()=3;out(n);", 13, 9, 9, 3)
	outputs(t, "void set(int*p,int n){*p=n;}int*max(int*p,int*q){return *p>*q?p:q;}", "int x=3;int y=4;int a[3];set(&x,5);out(x);*max(&x,&y)=1;out(x);set(a+1,7);out(a[1]);int**q;int*p=a;q=&p;set(*q+2,8);out(a[2]);*q=&y;*p=2;out(y);", 5, 1, 7, 8, 2)
	outputs(t, "int a[4500];char b[20000];", "int i=4499;a[i]=i;a[4498]=1;b[19999]=7;out(a[4499]+a[i-1]);out(b[i+15500]);int*p=a+4499;out(*p);out(p[-1]);out((p-4400)[i-100]);", 4500, 7, 4499, 1, 1)
	outputs(t, "void*g;void*f(void*p){return p;}", "void*p=g;out(p==0);out(f(p)!=0);p=f(p);out(!p);", 1, 0, 1)
}

// Promise 15.2: calls.
func TestCalls(t *testing.T) {
	outputs(t, "int f(int n){if(n<2)return n;return f(n-1)+f(n-2);}", "out(f(10));", 55)
	outputs(t, "int f(int a,char b,int*p){a++;b++;*p+=a;return b;}", "int x=1;int y=5;out(f(y,511,&x));out(x);out(y);out(f(x,300,&x));", 0, 7, 5, 45)
	outputs(t, "int f(){}char g(){1;}int*h(){}int*k(int n){if(n)return 0;}", "out(f());out(g());out(h()==0);out(!k(0));out(k(1)!=0);int*p=h();out(!p);int x=f()+1;out(x);", 0, 0, 1, 1, 0, 1, 1)
	outputs(t, "int n;void f(){n++;if(n==2)return;n+=10;}", "f();out(n);n=1;f();out(n);", 11, 2)
	outputs(t, "int f(int n){int x=n;int y;&y;y=n*2;if(n)f(n-1);return x+y;}", "out(f(3));", 9)
	outputs(t, "int f(int n){int*p=&n;*p+=1;n*=2;return *p;}char g(char c,int k){char*p=&c;*p+=k;return c;}int*h(int*p){int**q=&p;*q=*q+1;return p;}", "int a[2]={3,4};out(f(5));out(g(250,10));out(*h(a));", 12, 4, 4)
	outputs(t, "int*f(int*p,int n){int x;x=n;if(n==0)return p;if(n==2)return f(&x,n-1);return f(p,n-1);}", "int y=8;out(*f(&y,1));", 8)
	outputs(t, "int e(int n){if(n==0)return 1;return o(n-1);}int o(int n){if(n==0)return 0;return e(n-1);}", "out(e(10));out(e(7));", 1, 0)
	outputs(t, "int f(int a,int b,int c,int d,int e,int g){out(a);out(g);return b*c-d*e;}", "out(f(1,2,3,4,5,6));", 1, 6, -14)
	outputs(t, "int f(int n){out(n);return n;}", "f(1)+f(2)*f(3);f(f(4)+f(5));int a[3];a[f(0)]=f(6);a[f(0)]+=f(7);out(a[0]);", 1, 2, 3, 4, 5, 9, 0, 6, 0, 7, 13)
}

// Promise 15.2: variables begin anew, and arrays with what stands in braces.
func TestVariables(t *testing.T) {
	outputs(t, "int g[3]={1,2};char h='x';int k=-3;", "out(g[0]+g[1]+g[2]);out(h);out(k);int i;for(i=0;i<2;i++){int a[3]={i,i+1};char b[2]={300};int x=a[1];a[2]+=x;b[1]--;out(a[2]);out(b[0]+b[1]);}", 3, 120, -3, 1, 299, 2, 299)
	outputs(t, "int x=1;", "out(x);int x=2;{int x=3;out(x);x++;}out(x);{x=4;}out(x);for(x=0;x<2;x++){int x=7;x++;out(x);}out(x);", 1, 3, 2, 4, 8, 8, 2)
	outputs(t, "", "int*p=0;int i;for(i=0;i<3;i++){int x;x=i;if(i==0)p=&x;*p+=10;out(x);}", 10, 11, 12)
}

// Promises 15.1 and 15.2: drawn programs. What is output before something undefined is output by the module too.
func TestDrawnPrograms(t *testing.T) {
	terminated, outs := 0, 0
	for n := range 2000 {
		s := drawn.Tame(n)
		if n%4 == 0 {
			s = drawn.Wild(n)
		}
		u, m, inputs := unit(t, s), module(t, s), list(1, 300, 0, 2, -1)
		dice := drawn.Dice(n)
		for _, fuel := range [][2]int{{20000, 200000}, {20000, dice.Roll(500)}, {dice.Roll(500), 20000}} {
			program, itsModule := interp.Run(u, inputs, fuel[0]), irrun.Run(m, inputs, fuel[1])
			if !agree(program, itsModule) {
				t.Fatalf("%d, %s with %v steps: %v, its module: %v", n, s, fuel, program, itsModule)
			}
			if program.E == api.OK && itsModule.E == api.OK {
				terminated++
				outs += len(program.Out)
			}
		}
	}
	if terminated < 2000 || outs < 4000 {
		t.Errorf("%d runs terminated, with %d outputs", terminated, outs)
	}
}

// Promise 15.2: a run that ends early, and one of a module that does.
func TestShortRuns(t *testing.T) {
	for s, want := range map[string][2]api.Errno{
		"int main(){for(;;);}": {api.ErrFuel, api.ErrFuel}, "int main(){out(1);for(;;);}": {api.ErrFuel, api.ErrFuel}, "int main(){int x;for(;;)out(x=in());}": {api.ErrFuel, api.ErrFuel}, "int main(){out(1);return main();}": {api.ErrFuel, api.ErrFull},
		"int f(int n){out(n);int a[100];a[0]=n;if(n)f(n-1);return a[0];}int main(){return f(3000);}": {api.OK, api.ErrFull},
		"int a[8192];int b[8192];int main(){out(1);return 2;}":                                       {api.OK, api.ErrFull},
		"int main(){out(1);int a[8192];int b[8192];out(2);return 2;}":                                {api.OK, api.ErrFull},
		"int f(int n){if(n)return f(n-1);out(2);return 3;}int main(){out(1);return f(4998);}":        {api.OK, api.OK},
		"int f(int n){if(n)return f(n-1);out(2);return 3;}int main(){out(1);return f(4999);}":        {api.ErrFuel, api.ErrFull},
	} {
		program, itsModule := interp.Run(unit(t, s), nil, 200000), irrun.Run(module(t, s), nil, 200000)
		if program.E != want[0] || itsModule.E != want[1] || !agree(program, itsModule) {
			t.Errorf("%s: %d outputs, %v; its module: %d outputs, %v", s, len(program.Out), program.E, len(itsModule.Out), itsModule.E)
		}
	}
}

// Promise 15.1: where programs do something undefined, their modules are valid nevertheless.
func TestUndefined(t *testing.T) {
	for _, s := range []string{
		"int a[3];int main(){a[100000]=a[-100000];return a[0x7fffffff]+a[0x80000000];}", "struct s{int v[8000];struct s*n;};struct s g[1];int main(){int i=0x40000000;g[i].v[i]=1;return g[2].v[9000]+(&g[0]+5-9)->n->v[7999];}",
		"int main(){int*p=0;p+=0x7fffffff;*p=1/0;return p[8192]+p[8193]+p[0-8192]+(p-8192)[0]+(p-8193)[0]+(p+8192)[-1];}", "int main(){int x;char c;int*p;return x+c+*p;}", "int main(){struct s*p;return p->v;}struct s{int a[8191];int v;};",
		"int*f(){int x=1;return &x;}int main(){return *f()+f()[5];}", "char b[9];int main(){b[32768]=b[32769]=b[-32768+0]=1;char*p=b;p[32769]++;return *(p-32768)+*(p-32769)+(p+32768)[1];}",
	} {
		irrun.Run(module(t, s), nil, 1000)
	}
}

// Rule R1: as much as a text can nest.
func TestNested(t *testing.T) {
	many := strings.Repeat
	for name, s := range map[string]string{
		"operands to the left":  "int main(){int x=1;out(x" + many("*x", 7900) + ");return x" + many("-x", 9) + ";}",
		"operands to the right": "int main(){return " + many("1|1^1&1==1<1<<1+1*(", 94) + "in()" + many(")", 94) + ";}",
		"conditions":            "int main(){int x=1;return x" + many("&&x", 1300) + many("||!x", 1300) + ";}",
		"choices":               "int main(){int x=1;return " + many("x?x:", 190) + "2;}",
		"acts":                  "int main(){int x=0;" + many("while(x<9)", 190) + "x++;return x;}",
		"blocks":                "int main(){int x=0;" + many("{", 190) + "x++;" + many("}", 190) + "return x;}",
		"fields":                "struct s{struct s*n;int v;};struct s g;int main(){g.n=&g;g.v=7;return g.n" + many("->n", 7000) + "->v;}",
		"signs":                 "int main(){int x=5;return " + many("- ", 150) + "x" + many("+-x", 100) + ";}",
		"assignments":           "int main(){int x;int y;char c;int*p=&y;return " + many("x=y=c=*p=", 45) + "300;}",
	} {
		program, itsModule := interp.Run(unit(t, s), list(5), 100000), irrun.Run(module(t, s), list(5), 100000)
		if program.E != api.OK || !equal(program, itsModule) {
			t.Errorf("%s: %v; its module: %v", name, program, itsModule)
		}
	}
	// too large for a module, but not for the translator
	for _, s := range []string{many("+x", 32000), many("-1", 30000), many("&&x", 20000), many("||!x", 15000)} {
		if _, e := lower.Lower(unit(t, "int x;int main(){return x"+s+";}")); e != api.ErrLong {
			t.Errorf("%.20s: %v", s, e)
		}
	}
}

// Rule R3: the unit is not changed and, but for parts that nobody changes, not shared with the module.
func TestSharing(t *testing.T) {
	const s = "int g[2]={1,2};int f(int a,char b){int c[2];&a;return a+c[b];}int main(){return f(g[0],3);}"
	u := unit(t, s)
	first, _ := lower.Lower(u)
	text := ir.Text(first.Procs[0]) + ir.Text(first.Procs[1])
	clear(first.Globals)
	clear(first.Data[0])
	for _, p := range first.Procs {
		clear(p.Objects)
		for _, b := range p.Blocks {
			for _, i := range b.Ins {
				clear(i.Args)
			}
			clear(b.Ins)
		}
	}
	second, _ := lower.Lower(u)
	if ir.Text(second.Procs[0])+ir.Text(second.Procs[1]) != text || second.Globals[0].Size != 8 || second.Data[0][4] != 2 || second.Procs[0].Objects[0].Name != "a" {
		t.Errorf("the second module: %v", second)
	}
	l := lower.Plain(u.Codes[0])
	clear(l)
	if again := lower.Plain(u.Codes[0]); !slices.Equal(again, []bool{false, true, false}) {
		t.Errorf("Plain: %v", again)
	}
}

// Of units that check.Check did not make nothing is promised, but they do not end the caller.
func TestStrangeUnits(t *testing.T) {
	term := func(kind int, kids ...api.Term) api.Term { return api.Term{Kind: kind, Kids: kids} }
	for kind := -1; kind <= api.TmCut+1; kind++ {
		for _, x := range []api.Term{term(kind), term(kind, term(api.TmConst)), term(kind, term(api.TmConst), term(api.TmConst)), {Kind: kind, Var: -1}, {Kind: kind, Var: 9, Global: true}, term(kind, api.Term{Kind: api.TmAddr, Var: 7})} {
			for act := -1; act <= api.AcNew+1; act++ {
				a := api.Act{Kind: act, A: []api.Term{x}, Post: []api.Term{x, x}, Body: []api.Act{{}}, Cases: []api.Choice{{}}}
				m, e := lower.Lower(api.Unit{Codes: []api.Code{{Body: []api.Act{a}}}})
				if e == api.OK && ir.Check(m) != api.OK {
					t.Errorf("%v: not valid", a)
				}
			}
		}
	}
	for k, u := range []api.Unit{
		{}, {Main: -1}, {Main: 1, Codes: make([]api.Code, 1)}, {Globals: make([]api.Slot, 2), Codes: make([]api.Code, 1)}, {Globals: []api.Slot{{Size: -1}}, Data: make([][]byte, 1), Codes: make([]api.Code, 1)},
		{Codes: []api.Code{{Slots: []api.Slot{{}, {Size: -1}}, Params: 7}}}, {Codes: []api.Code{{Body: []api.Act{{Kind: api.AcBreak}}}}}, {Codes: []api.Code{{Body: []api.Act{{Kind: api.AcContinue}}}}}, {Codes: []api.Code{{Body: []api.Act{{Kind: api.AcSwitch}}}}}, {Codes: make([]api.Code, 201)},
	} {
		if m, e := lower.Lower(u); e == api.OK || len(m.Procs) > 0 {
			t.Errorf("unit %d: %v, %v", k, m, e)
		}
	}
	u := api.Unit{Globals: []api.Slot{{Size: 4, Align: 4}}, Data: [][]byte{{5}}, Codes: make([]api.Code, 1)}
	if m, e := lower.Lower(u); e != api.OK || !slices.Equal(m.Data[0], []byte{5, 0, 0, 0}) {
		t.Errorf("less data than a global has: %v, %v", m, e)
	}
	loop := api.Act{Kind: api.AcLoop, First: true, Body: []api.Act{{Kind: api.AcBreak}}}
	if m, e := lower.Lower(api.Unit{Codes: []api.Code{{Body: []api.Act{loop}}}}); e != api.OK || irrun.Run(m, nil, 100).E != api.OK {
		t.Errorf("a loop without a condition: %v, %v", m, e)
	}
}
