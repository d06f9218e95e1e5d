package interp_test

import (
	"testing"

	"rushlight/api"
)

// undefined reports as a fault a main that does not output 1 and then end with this error. What follows it is not reached.
func undefined(t *testing.T, want api.Errno, top, main string) {
	t.Helper()
	gives(t, top+" int main(){"+main+" out(2);return 3;}", api.Outcome{Out: list(1), E: want})
}

// Promise 12.1: a value that was never set.
func TestUnset(t *testing.T) {
	for _, s := range []string{
		"int x;out(1);x;", "char c;out(1);c;", "int*p;out(1);p;", "int*p;out(1);*p;", "int x;out(1);x++;", "char c;out(1);--c;", "int x;out(1);x+=1;", "int*p;out(1);p-=1;",
		"int a[3];a[0]=a[1]=1;out(a[0]);a[2];", "struct s x;x.a=1;out(x.a);x.b;", "int x;out(1);if(x);", "int x;out(1);1+x;", "int x;out(1);x/=0;",
		"char b[4];b[0]=b[1]=b[3]=1;out(b[3]);b[2];",
		// a variable begins anew each time
		"int i;for(i=0;i<2;i++){int x;if(i)x;x=1;out(x);}", "int i;for(i=0;i<2;i++){int a[2]={1,2};int b[2];if(i)b[1];b[1]=a[0];out(b[1]);}",
		"int*p=0;while(1){int x;if(p){*p;}x=1;p=&x;out(*p);}",
	} {
		undefined(t, api.ErrUnset, "struct s{int a;int b;};", s)
	}
	undefined(t, api.ErrUnset, "int f(int n){int x;if(n){x=n;out(x);}return x;}", "f(1);f(0);")
	outputs(t, "struct s{int a;};", "int x;int*p=&x;x=5;out(*p);struct s y;struct s z[2];y;&y;z;z[1];*&y;*z;int a[2];a;a+1;&a[1];sizeof(int);", 5)
	outputs(t, "int f(int n){switch(n){case 0:;int x=4;return x;default:;int y;return n;}}", "out(f(0));out(f(1));", 4, 1)
	gives(t, "int main(){switch(2){case 1:;int x=4;default:{int x;return x;}}}", api.Outcome{E: api.ErrUnset})
}

// Promise 12.1: a division by 0.
func TestZero(t *testing.T) {
	for _, s := range []string{"1/0;", "1%0;", "int x=1;x/=0;", "int x=1;x%=0;", "int x=0;1/x;", "int x=0;out(2/x);", "1+2/(1-1);", "0||1/0;", "1?1/0:2;", "switch(1/0){}", "return 1/0;"} {
		undefined(t, api.ErrZero, "", "out(1);"+s)
	}
	outputs(t, "", "0&&1/0;1||1/0;1?2:1/0;out(3);", 3)
}

// Promise 12.1: a null pointer.
func TestNil(t *testing.T) {
	for _, s := range []string{
		"int*p=0;*p;", "int*p=0;*p=1;", "int*p=0;p[0];", "int*p=0;p+1;", "int*p=0;p+0;", "int*p=0;p-1;", "int*p=0;p++;", "int*p=0;--p;", "int*p=0;p+=1;", "int*p=0;(*p)++;", "int*p=0;*p+=1;", "*g;", "void*p=0;p+1;",
		"struct s*q=0;q->a;", "struct s*q=0;&q->a;", "struct s*q=0;(*q).a;", "r->n->a;", "int*p[2]={0};*p[1];", "int*p=1?0:g;*p;", "*f();",
	} {
		undefined(t, api.ErrNil, "int*g;struct s{int a;struct s*n;};struct s x;struct s*r;int*f(){}", "out(1);r=&x;"+s)
	}
	outputs(t, "struct s{int a;};", "int*p=0;&*p;struct s*q=0;*q;out(!p);", 1)
}

// Promise 12.1: an object of a call that has ended.
func TestDead(t *testing.T) {
	const top = "int*g;int*f(){int x=7;g=&x;return g;}int*k(int p){return &p;}struct s{int a[2];};struct s*h(){struct s x;return &x;}"
	for _, s := range []string{"*f();", "*k(1);", "f();*g;", "f();*g=1;", "f();f();*g;", "f()[0];", "g=f()+1;", "int*p=f();p++;", "h()->a;", "(*h()).a[0];", "int*p=f();int x=1;p=&x;*g;"} {
		undefined(t, api.ErrDead, top, "out(1);"+s)
	}
	outputs(t, top, "int*p=f();out(p==0);out(!p);g=p;out(g!=0);{int x=9;p=&x;}out(*p);out(*(p?p:g));", 0, 0, 1, 9, 9)
}

// Promise 12.1: beyond an object, or the part of it that a pointer covers.
func TestBound(t *testing.T) {
	const top = "int a[3];char b[3];int m[2][3];struct s{int v;int a[2];char b;char c;};struct s g;struct s l[2];int x;"
	for _, s := range []string{
		"a[3];", "a[4];", "a[-1];", "a[3]=1;", "a[0x7fffffff];", "a[0x80000000];", "a[-0x80000000];", "*(a+3);", "a+4;", "a-1;", "&a[4];", "*(&a[0]+3);", "int*p=a+3;*p;", "int*p=a+3;p++;", "int*p=a;p--;", "int*p=a;p+=4;", "int*p=a;p-=-4;", "int*p=a;a-0x80000000;", "int*p=a;p-=1;", "int*p=a;p[3]++;",
		"b[3];", "b[4];", "b[-1];", "char*p=b+2;p+=2;",
		"m[0][3];", "m[0][4];", "m[1][-1];", "m[2];m[2][0];", "m[2][0];", "m[3];", "m[-1][0];", "*(m[0]+3);", "m[0]+4;",
		"g.a[2];", "g.a[-1];", "(&g.v)[1];", "&g.v+2;", "*(&g.v+1);", "*(&g.b+1);", "&g.b-1;", "int*p=g.a;p[2]=1;", "l[2];l[2].v;", "(l+2)->v;", "l[0].a[2];", "(&l[0]+3)->v;", "(&g+1)->v;", "&x+2;", "*(&x+1);", "(&x)[-1];", "&(&g+1)->v;",
	} {
		undefined(t, api.ErrBound, top, "out(1);"+s)
	}
	outputs(t, top, "a+3;&a[3];m[0]+3;&m[1][3];l+2;&g+1;int*p=&a[3];p[-3]=4;out(a[0]);&g.b+1;(&g.v)[0]=6;out(g.v);struct s*q=&l[1];(q-1)->c=5;out(l[0].c);", 4, 6, 5)
	outputs(t, "int m[2][3];struct s{int a[2];};struct s l[3];", "m[1][2]=3;int*p=m[1];out(p[2]);struct s*q=l;q++;q->a[1]=4;out(l[1].a[1]);q[1].a[0]=5;out((*(l+2)).a[0]);", 3, 4, 5)
	outputs(t, "", "int x;void*p=0;void*q=p;out(q==0);p=q;out(!p);", 1, 1)
}
