package check_test

import (
	"strings"
	"testing"

	"rushlight/api"
	"rushlight/check"
)

// Promise 10.1: structs. In each test a $ stands where the error is.
func TestStructErrors(t *testing.T) {
	const main = "int main(){}"
	for s, want := range map[string]api.Errno{
		"struct s{int a;};\n $struct s{int a;};":      api.ErrTwice,
		"$struct s{};":                                api.ErrArg,
		"struct s{int a;$struct t b;};":               api.ErrNone,
		"struct s{$struct t*b;};":                     api.ErrNone,
		"struct s{$struct t b[2];};":                  api.ErrNone,
		"struct s{int a;$struct s b;};":               api.ErrType,
		"struct s{$struct t b;};struct t{int a;};":    api.ErrType,
		"struct s{$struct t b[2];};struct t{int a;};": api.ErrType,
		"struct s{int a;$void b;};":                   api.ErrType,
		"struct s{$void b[2];};":                      api.ErrType,
		"struct s{$int b[0];};":                       api.ErrArg,
		"struct s{$int b[2][0];};":                    api.ErrArg,
		"struct s{$int b[8193];};":                    api.ErrLong,
		"struct s{$char b[4294967295];};":             api.ErrLong,
		"struct s{$char b[182][182];};":               api.ErrLong,
		"$struct s{int a;char b[32768];};":            api.ErrLong,
		"$struct s{int a;int b;char a;};":             api.ErrTwice,
	} {
		fails(t, s+main, want)
	}
	for _, s := range []string{"struct s{struct s*a;struct t*b;};struct t{struct s a;};", "struct s{char b[32768];};", "struct s{char a[182][180];};", "struct s{int s;};struct t{struct s s;};int s;", "struct s{void*a;};"} {
		unit(t, s+main)
	}
}

// Promise 10.1: globals and functions.
func TestTopErrors(t *testing.T) {
	const main = "int main(){}"
	for s, want := range map[string]api.Errno{
		"int a; $char a;":                       api.ErrTwice,
		"int f(){}\n$int f(){}":                 api.ErrTwice,
		"int f; $int f(){}":                     api.ErrTwice,
		"$int f(){} int f;":                     api.ErrTwice, // all globals come first
		"$int main(){}":                         api.ErrTwice, // the one behind it is declared last
		"$void a;":                              api.ErrType,
		"$void a[2];":                           api.ErrType,
		"$struct s a;":                          api.ErrNone,
		"$struct s*a;":                          api.ErrNone,
		"$int a[0];":                            api.ErrArg,
		"$int a[1][8193];":                      api.ErrLong,
		"$int a[8193];":                         api.ErrLong,
		"$struct s f(){}":                       api.ErrNone,
		"$struct s*f(){}":                       api.ErrNone,
		"struct s{int a;};$struct s f(){}":      api.ErrType,
		"int f($void a){}":                      api.ErrType,
		"int f(int a,$void b){}":                api.ErrType,
		"int f($struct s a){}":                  api.ErrNone,
		"struct s{int a;};int f($struct s a){}": api.ErrType,
		"int f($struct s*a){}":                  api.ErrNone,
		"int f(int a, $char a){}":               api.ErrTwice,
		"int f(int a,int b,int c,int d,int e,int f,$int g){}":        api.ErrLong,
		"int f(int a,int b,int c,int d,int e,int f,$int g,int g2){}": api.ErrLong,
	} {
		if s == "$int main(){}" {
			fails(t, "int main(){} "+s, want)
			continue
		}
		fails(t, s+main, want)
	}
	for _, s := range []string{"int f(int f){}", "int f(int a,int b,int c,int d,int e,int g){}", "void f(void*a){}", "int a;int f(int a){}", "struct s{int a;};struct s*f(struct s*a,char b){}"} {
		unit(t, s+main)
	}
}

// Promise 10.1: main.
func TestMainErrors(t *testing.T) {
	for _, s := range []string{"$", "$int f(){}", "$int main;", "$struct main{int a;};", "$int Main(){}", "$int f(){return 1/0;}"} {
		fails(t, s, api.ErrNone)
	}
	fails(t, "$\n\nint f(int x){return y;}", api.ErrNone)
	for _, s := range []string{"$void main(){}", "$char main(){}", "$int*main(){}", "$int main(int a){}", "int f(){} $int main(int a,int b){}", "int a;\n\t$void main(void){}"} {
		fails(t, s, api.ErrType)
	}
	unit(t, "int main(void){}")
}

// Promise 10.1: initializers of globals and of variables of functions.
func TestInitializerErrors(t *testing.T) {
	for s, want := range map[string]api.Errno{
		"$int a={1};":               api.ErrType,
		"$char a={1};":              api.ErrType,
		"$int*a={0};":               api.ErrType,
		"$struct s a={1};":          api.ErrType,
		"$struct s a[1]={1};":       api.ErrType,
		"$int a[2][2]={1,2};":       api.ErrType,
		"$int a[2]=1;":              api.ErrType,
		"$int a[2]=y;":              api.ErrType,
		"$int a[2][2]=0;":           api.ErrType,
		"struct s a= $1;":           api.ErrType,
		"int a[2]={1,2,$3};":        api.ErrLong,
		"int a[2]={1,2,$3,4};":      api.ErrLong,
		"char a[1]={1,2 $+ 3};":     api.ErrLong,
		"int*a=$1;":                 api.ErrType,
		"int*a=1$-1;":               api.ErrType,
		"int*a[2]={0,$1};":          api.ErrType,
		"int*a=1$?0:0;":             api.ErrType,
		"int a=$y;":                 api.ErrNone,
		"int a=1+$y;":               api.ErrNone,
		"int a[2]={1,$y};":          api.ErrNone,
		"int a=$sizeof(void);":      api.ErrType,
		"int a=$out(1);":            api.ErrType,
		"int a=-$sizeof(struct t);": api.ErrNone,
	} {
		fails(t, "struct s{int a;};"+s+"int main(){}", want)
		fails(t, "struct s{int a;};int main(){"+s+"}", want)
	}
}

// Promise 10.1: initializers of globals consist of constants only.
func TestConstantErrors(t *testing.T) {
	const ahead = "int x;int xs[2];struct s{int a;};struct s s;int*p;"
	for s, want := range map[string]api.Errno{
		"int a=$x;":           api.ErrRule,
		"int a=$a;":           api.ErrRule,
		"int a=1$+x;":         api.ErrRule,
		"int a=$-x;":          api.ErrRule,
		"int a=1$?2:x;":       api.ErrRule,
		"int a=0$&&x;":        api.ErrRule,
		"int a=1$||1/0+x;":    api.ErrRule,
		"int a=1/0$+x;":       api.ErrRule,
		"int a=$in();":        api.ErrRule,
		"int a=x$=1;":         api.ErrRule,
		"int a=x$++;":         api.ErrRule,
		"int a=x$+=1;":        api.ErrRule,
		"int a=xs$[0];":       api.ErrRule,
		"int a=s$.a;":         api.ErrRule,
		"int a=$!p;":          api.ErrRule,
		"int*a=$&x;":          api.ErrRule,
		"int*a=$xs;":          api.ErrRule,
		"int*a=xs$+1;":        api.ErrRule,
		"int*a=1$?p:0;":       api.ErrRule,
		"int a[3]={1,$x,2};":  api.ErrRule,
		"int a=1$/0;":         api.ErrZero,
		"int a=1$%0;":         api.ErrZero,
		"int a=1$+1/0;":       api.ErrZero,
		"int a=1$?1/0:2;":     api.ErrZero,
		"int a=1$&&1/0;":      api.ErrZero,
		"int a=0$||1%(2-2);":  api.ErrZero,
		"char a[2]={1,2$/0};": api.ErrZero,
		"int a=$f();":         api.ErrNone, // functions are declared later
		"int a=$main();":      api.ErrNone,
		"int a=$b;int b;":     api.ErrNone,
		"int a=1$+x;int a=y;": api.ErrRule,
		"int a=$main;":        api.ErrNone,
		"int a;$int a=y;":     api.ErrTwice,
		"int*a=$&a;":          api.ErrType,
		"int a=$p;":           api.ErrType,
		"int a[2]={$x,y};":    api.ErrRule,
		"int a[1]={1$/0,2};":  api.ErrZero,
	} {
		fails(t, ahead+s+"int f(){}int main(){}", want)
	}
	unit(t, "int main(){int x=1/0;int y=x;int z=main();}")
}

// Promise 10.1: statements.
func TestStatementErrors(t *testing.T) {
	for s, want := range map[string]api.Errno{
		"$break;":                                       api.ErrRule,
		"if(1)$break;":                                  api.ErrRule,
		"while(1);$break;":                              api.ErrRule,
		"switch(1){}$break;":                            api.ErrRule,
		"$continue;":                                    api.ErrRule,
		"switch(1){case 1:$continue;}":                  api.ErrRule,
		"do;while(1);$continue;":                        api.ErrRule,
		"for(;;){}{$continue;}":                         api.ErrRule,
		"switch(1){case 1:; $case 1:;}":                 api.ErrTwice,
		"switch(1){case -1: $case 0xffffffff:;}":        api.ErrTwice,
		"switch(1){case 'a':case 98: $case 97:}":        api.ErrTwice,
		"switch(1){default:case 0: $default:}":          api.ErrTwice,
		"switch(1){case 0:default: $case -0:}":          api.ErrTwice,
		"switch(1){case 1:switch(2){case 1: $case 1:}}": api.ErrTwice,
		"switch($p){}":                                  api.ErrType,
		"switch($s){}":                                  api.ErrType,
		"switch($v()){}":                                api.ErrType,
		"switch($y){}":                                  api.ErrNone,
		"switch(1){case 1:$y;}":                         api.ErrNone,
		"if($s);":                                       api.ErrType,
		"if($v());":                                     api.ErrType,
		"if(1)$y;":                                      api.ErrNone,
		"if(1);else $y;":                                api.ErrNone,
		"while($s);":                                    api.ErrType,
		"while($out(1));":                               api.ErrType,
		"do;while($s);":                                 api.ErrType,
		"do $y;while(z);":                               api.ErrNone,
		"while($y)z;":                                   api.ErrNone,
		"for(;$s;);":                                    api.ErrType,
		"for(;$out(1););":                               api.ErrType,
		"for($y;z;z)z;":                                 api.ErrNone,
		"for(;$y;z)z;":                                  api.ErrNone,
		"for(;;$y)z;":                                   api.ErrNone,
		"for(;;)$z;":                                    api.ErrNone,
		"$return;":                                      api.ErrType,
		"return $p;":                                    api.ErrType,
		"return $s;":                                    api.ErrType,
		"return $v();":                                  api.ErrType,
		"return $out(1);":                               api.ErrType,
		"return $y;":                                    api.ErrNone,
		"int a; $int a;":                                api.ErrTwice,
		"{int a;char b; $int a;}":                       api.ErrTwice,
		"switch(1){case 1:int a; $char a;}":             api.ErrTwice,
		"$void a;":                                      api.ErrType,
		"$struct none a;":                               api.ErrNone,
		"$int a[0];":                                    api.ErrArg,
		"$int a[2][0];":                                 api.ErrArg,
		"$int a[32768];":                                api.ErrLong,
		"$void a[1];":                                   api.ErrType,
		"{int a;}$a;":                                   api.ErrNone,
		"$a;int a;":                                     api.ErrNone,
		"if(1)int a;$a;":                                api.ErrNone,
		"switch(1){case 1:int a;case 2:$a;}":            api.ErrNone,
		"int v;$v();":                                   api.ErrNone,
	} {
		fails(t, "struct s{int a;};struct s s;int*p;void v(){}int main(){"+s+"}", want)
	}
	for s, want := range map[string]api.Errno{
		"void f(){return $1;}":      api.ErrType,
		"void f(){return $f();}":    api.ErrType,
		"char f(){$return;}":        api.ErrType,
		"int*f(){return $1;}":       api.ErrType,
		"int*f(char*a){return $a;}": api.ErrType,
		"char f(int*a){return $a;}": api.ErrType,
		"int f(int a){$int a;}":     api.ErrTwice,
	} {
		fails(t, s+"int main(){}", want)
	}
	unit(t, "int f(int a){{int a;a;}for(;;){int a;}if(1)int a;else int a;while(1)switch(a){case 1:int a;break;case 2:continue;}}int main(){}")
}

// errorsAhead is declarations for erroneous expressions.
const errorsAhead = `struct s { int x; struct s *next; int xs[2]; }; struct u { int x; };
int f(int x, int *p) { } void v() { } int *g() { }
int main() { int i; char c; int *p; char *q; int a[4]; struct s s; struct s *t; struct u *w; void *n; int **d; int m[2][2]; `

// Promise 10.1: expressions.
func TestExpressionErrors(t *testing.T) {
	for want, l := range map[api.Errno][]string{
		api.ErrNone: {"$y", "$f", "$main", "$s2()", "$i()", "$p(1)", "$x", "-$y", "$y + 1", "1 + $y", "i = $y", "$y = i", "f($y, z)", "f(1, $y)", "f($y)", "v($y)", "$none(y)", "a[$y]", "$y[i]", "$y.x", "s$.y", "t$->y", "s.next$->y", "s$.s", "&$y", "$y++", "--$y", "out($y)", "1 ? $y : z", "$y ? z : z", "1 ? 2 : $z", "$sizeof(struct none)", "$sizeof(struct none*)", "$y = z", "5 = $y", "p * $y", "s && $y", "*$y", "s + $y", "i = 1 ? p : $y", "out(1) + $y", "s$.z2"},
		api.ErrType: {
			"-$p", "*$sizeof(int)", "-$*d", "-(p $+ 1)", "-(p $- 1)", "!$*t", "~$p", "-$s", "!$s", "-$a", "-$v()", "!$v()", "~$out(1)", "*$i", "*$0", "*$n", "*$s", "*$c", "*$v()", "&$1", "&$a", "&$m", "&m$[1]", "&$-i", "&$f(1, 0)", "&(i $= 1)", "&s$.xs", "&(i$++)", "&($&i)", "&(i $? i : i)",
			"$p * 1", "1 * $p", "$p / i", "i % $p", "$p & 1", "1 | $q", "$p ^ p", "$p << 1", "1 >> $p", "$p < p", "$p > 0", "0 <= $p", "i >= $s", "$s * s", "$s / p", "$a * 2", "$v() * 2", "2 * $v()", "2 * $out(1)",
			"p + $p", "a + $p", "$s + 1", "1 + $s", "p + $s", "$v() + 1", "p + $out(1)", "p - $p", "1 - $p", "0 - $a", "p - $q", "$s - 1", "p - $s", "$v() - p",
			"p == $p", "p == $q", "p == $1", "1 == $p", "i != $p", "p != $i", "$s == s", "$s == 0", "0 == $s", "p == (1 $- 1)", "a == $p", "$v() == 0", "0 != $v()", "p == (1 $? 0 : 0)", "t == $w",
			"$s && 1", "1 && $s", "$v() || 1", "1 || $out(1)", "0 || $s",
			"$s ? 1 : 2", "$v() ? 1 : 2", "1 ? $s : s", "1 ? 1 : $s", "1 ? p : $q", "1 ? p : $1", "1 ? 1 : $p", "1 ? $v() : v()", "1 ? 1 : $out(1)", "1 ? p : $n", "1 ? t : $w", "1 ? 0 : $s", "1 ? $out(1) : out(2)", "1 ? i : $a",
			"$1 = 1", "i $+ 1 = 2", "$f(1, 0) = 1", "s = $s", "s = $0", "a = $0", "a = $a", "m[1] = $0", "s.xs = $p", "s = $p", "(i $= 1) = 2", "(i$++) = 2", "$-i = 1", "$&i = p", "(i $? i : i) = 1", "$v() = 1", "i = $p", "c = $p", "i = $s", "i = $v()", "i = $out(1)", "i = $a", "p = $i", "p = $1", "p = $q", "p = $&c", "q = $p", "p = $&p", "t = $w", "p = $n", "n = $p", "p = $m", "d = $p", "d = $m", "p = (1 $- 1)", "p = (i $= 0)", "t = $s", "p = $s", "i = (p $= 0)",
			"$1 += 1", "$a += 1", "$s += 1", "$p *= 2", "$p |= 2", "$p <<= 0", "p += $p", "p -= $q", "p += $s", "i += $p", "i -= $a", "i *= $s", "c &= $p", "i += $v()", "s$.xs += 1", "(i$++) += 1",
			"++$1", "--$a", "$s++", "$1--", "(i$++)++", "++($++i)", "$f(1, 0)++", "s$.xs++", "$m--", "++$-i", "--$v()", "m$[0]++",
			"$i[1]", "$1[a]", "$0[1]", "$n[1]", "$s[0]", "$v()[0]", "a[$p]", "a[$s]", "p[$a]", "p[$v()]", "$i[p]", "m[0][$p]", "$c[1]", "$i[1][2]",
			"$t.x", "$i.x", "$p.x", "$a.x", "s$.next.x", "s$.x.x", "$g().x", "$v().x", "$1.x", "t$->xs.x",
			"$s->x", "$i->x", "$p->x", "$n->x", "$d->x", "$0->x", "$a->x", "$v()->x", "t$->x->x", "s$.xs->x",
			"$f()", "$f(1)", "$f(1, 0, 2)", "$v(1)", "$g(0)", "f($p, 0)", "f(1, $1)", "f($s, 0)", "f(1, $q)", "f(1, $n)", "f($v(), 0)", "f(1, $v())", "f($out(1), 0)", "f(1, (1 $- 1))", "f(1, $m)", "$main(1)",
			"out($p)", "out($s)", "out($v())", "out($out(1))", "out($a)", "$sizeof(void)",
		},
	} {
		for _, s := range l {
			fails(t, errorsAhead+s+"; }", want)
			if s != "$sizeof(void)" {
				fails(t, errorsAhead+"for (; ; "+s+") ; }", want)
			}
		}
	}
}

// Promise 10.1: calls of void functions and out are statements only.
func TestVoidCalls(t *testing.T) {
	for _, s := range []string{"v();", "out(1);", "for (v(); ; out(1)) ;", "(v());", "if (1) v(); else out(1);"} {
		unit(t, errorsAhead+s+"}")
	}
	for _, s := range []string{"int x = $v();", "int x = $out(1);", "return $v();", "if ($v()) ;", "for (; $v(); ) ;", "while ($out(1)) ;", "switch ($v()) { }", "i = ($v());", "int x[1] = {$v()};"} {
		fails(t, errorsAhead+s+"}", api.ErrType)
	}
}

// Promise 10.1: of several errors the first in the order of checking is returned.
func TestOrder(t *testing.T) {
	for s, want := range map[string]api.Errno{
		// structs are opened ahead of all fields, and have their fields ahead of all else
		"struct s{void a;};$struct s{int a;};":       api.ErrTwice,
		"int a=y;struct s{$void a;};":                api.ErrType,
		"struct s{$void a;};struct t{};":             api.ErrType,
		"struct s{int a;int a;$struct none b;};":     api.ErrNone,
		"$struct s{int a;int a;};struct t{void b;};": api.ErrTwice,
		// globals ahead of functions, functions ahead of main, main ahead of bodies, bodies in order
		"int f(void a){y;} int a=$y;":                api.ErrNone,
		"int f(int a){y;} int g($void a){}":          api.ErrType,
		"int f(){y;} $void main(){}":                 api.ErrType,
		"int f(){} int main(){y;} $int f(){}":        api.ErrTwice,
		"int f(){$y;} int main(){z;}":                api.ErrNone,
		"int f(){} int main(){$z;} int g(){return;}": api.ErrNone,
		"int a=$y; int a;":                           api.ErrNone,
		"$void a; int b=y;":                          api.ErrType,
		// of one declaration, what the chapter names first
		"int a; $struct none a;":                               api.ErrNone,
		"int a; $void a;":                                      api.ErrTwice,
		"int a; $int a[0];":                                    api.ErrTwice,
		"int a; $void a[0];":                                   api.ErrTwice,
		"int f(){} $struct none f(){}":                         api.ErrNone,
		"int f(){} $struct none*f(void a){}":                   api.ErrNone,
		"int f(){} $int f(void a){}":                           api.ErrTwice,
		"int f(int a,$void a){}":                               api.ErrTwice,
		"int f(int a,$struct none a){}":                        api.ErrNone,
		"int f(int a,$void b,int c,int d,int e,int f,int g){}": api.ErrType,
		"int f(int a,int b,int c,int d,int e,int f,$void g){}": api.ErrType,
		"int f(int a,int b,int c,int d,int e,int f,$int a){}":  api.ErrTwice,
		// operands from left to right, ahead of what they belong to
		"int main(){$y+z;}":                              api.ErrNone,
		"int main(){int*p;p*$y;}":                        api.ErrNone,
		"int main(){int*p;-$p+y;}":                       api.ErrType,
		"int main(){1=$y;}":                              api.ErrNone,
		"int main(){1[$y];}":                             api.ErrNone,
		"int main(){$y(z);}":                             api.ErrNone,
		"int main(){main($y);}":                          api.ErrNone,
		"int main(){int*p;1?p:1?$y:2;}":                  api.ErrNone,
		"int main(){int*p;(1?p:$1)+y;}":                  api.ErrType,
		"int f(int a,int b){}int main(){int*p;f(p,$y);}": api.ErrNone,
		"int f(int a,int b){}int main(){int*p;f($p,p);}": api.ErrType,
		"int f(int a,int b){}int main(){int*p;$f(p);}":   api.ErrType,
		"int f(int a){}int main(){int*p;$f(p,1);}":       api.ErrType,
		"int main(){int a;a[$y].z;}":                     api.ErrNone,
		"int main(){out(1)[$y];}":                        api.ErrNone,
		// statements in source order
		"int main(){if($y)z;else z;}":               api.ErrNone,
		"int main(){switch(1){case 1:$y;case 1:;}}": api.ErrNone,
		"int main(){switch($y){case 1:case 1:;}}":   api.ErrNone,
		"int main(){$y;int a;int a;}":               api.ErrNone,
		"int main(){int a=$y;int a;}":               api.ErrNone,
		"int main(){int a;$int a=y;}":               api.ErrTwice,
		"int main(){int a[1]={$y,1};}":              api.ErrNone,
		"int main(){int a[1]={1,$y};}":              api.ErrLong,
	} {
		if !strings.Contains(s, "main") {
			s += "int main(){}"
		}
		fails(t, s, want)
	}
}

// Promise 10.1: trees that no text has are no ground to panic.
func TestMalformedTrees(t *testing.T) {
	for kind := -1; kind < 15; kind++ {
		for _, op := range []string{"", "+", "*", "&", "-", "=", "+=", "->", ".", "?"} {
			x := api.Expr{Kind: kind, Op: op}
			y := api.Expr{Kind: kind, Op: op, Name: "a", Kids: []api.Expr{{Kind: api.ExName, Name: "a"}}}
			for k := -1; k < 15; k++ {
				s := api.Stmt{Kind: k}
				full := api.Stmt{Kind: k, A: []api.Expr{x, y}, B: []api.Expr{y}, C: []api.Expr{y}, Body: []api.Stmt{s}, Else: []api.Stmt{s}, Cases: []api.Case{{}}, Var: []api.Var{{Name: "a"}, {Init: []api.Expr{y}}}}
				main := api.Func{Ret: api.TypeName{Word: "int"}, Name: "main", Body: []api.Stmt{s, full}}
				a := api.Var{Type: api.TypeName{Word: "int", Stars: -7}, Name: "a", Init: []api.Expr{x}}
				for _, p := range []api.Program{{Funcs: []api.Func{main}}, {Globals: []api.Var{a}}, {Globals: []api.Var{{Type: a.Type, Name: "a"}}, Funcs: []api.Func{main}}, {Structs: []api.Struct{{}}}, {Globals: []api.Var{{Dims: []uint32{1}}}}} {
					if u, pos, e := check.Check(p); e != api.OK && len(u.Codes)+len(u.Globals)+len(u.Data) > 0 {
						t.Fatalf("%v: %v at %v beside a unit", p, e, pos)
					}
				}
			}
		}
	}
}
