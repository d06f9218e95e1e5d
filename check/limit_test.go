package check_test

import (
	"strconv"
	"strings"
	"testing"

	"rushlight/api"
	"rushlight/check"
)

// many is what f makes of the numbers below n.
func many(n int, f func(k string) string) string {
	var b strings.Builder
	for k := range n {
		b.WriteString(f(strconv.Itoa(k)))
	}
	return b.String()
}

// Promise 10.1: how many names there are at most.
func TestMaxNames(t *testing.T) {
	globals := func(n int) string { return many(n, func(k string) string { return "int g" + k + ";" }) }
	functions := func(n int) string { return many(n, func(k string) string { return "int f" + k + "(){}" }) }
	u := unit(t, globals(check.MaxNames)+functions(check.MaxNames-1)+"int main(){"+strings.ReplaceAll(globals(check.MaxNames), "g", "v")+"}")
	if len(u.Globals) != check.MaxNames || len(u.Data) != check.MaxNames || len(u.Codes) != check.MaxNames || len(u.Codes[u.Main].Slots) != check.MaxNames {
		t.Errorf("%d globals, %d functions", len(u.Globals), len(u.Codes))
	}
	fails(t, globals(check.MaxNames)+"$int a;int b;int main(){}", api.ErrLong)
	fails(t, functions(check.MaxNames)+"$int a(){}int main(){}", api.ErrLong)
	fails(t, functions(check.MaxNames-1)+"int a(){} $int main(){}", api.ErrLong)
	fails(t, "int main(){"+globals(check.MaxNames)+"$int a;int b;}", api.ErrLong)
	fails(t, "int main(){"+many(check.MaxNames, func(string) string { return "{int a;}" })+"{if(1)$int a;}}", api.ErrLong)
	unit(t, "int main(){}int f(int a,int b){"+globals(check.MaxNames-2)+"}")
	fails(t, "int main(){}int f(int a,int b){"+globals(check.MaxNames-2)+"$int c;}", api.ErrLong)
	// of one declaration, what the chapter names first
	fails(t, globals(check.MaxNames)+"$int g0;int main(){}", api.ErrTwice)
	fails(t, globals(check.MaxNames)+"$void a;int main(){}", api.ErrType)
	fails(t, globals(check.MaxNames)+"$int a=y;int main(){}", api.ErrLong)
}

// Promise 10.1: how many parameters and values there are at most.
func TestMaxParams(t *testing.T) {
	params := func(n int) string {
		return strings.TrimPrefix(many(n, func(k string) string { return ",char p" + k }), ",")
	}
	u := unit(t, "int f("+params(check.MaxParams)+"){p5=1;}int main(){f(1,2,3,4,5,6);}")
	if u.Codes[0].Params != check.MaxParams || describeActs(u.Codes[0].Body) != "do store1(v5, 1)" {
		t.Errorf("%v", u.Codes[0])
	}
	if got := describeActs(u.Codes[1].Body); got != "do call0(cut(1), cut(2), cut(3), cut(4), cut(5), cut(6))" {
		t.Errorf("%s", got)
	}
	fails(t, "int f("+params(check.MaxParams)+",$int a){}int main(){}", api.ErrLong)
	values := many(999, func(k string) string { return k + "," })
	if u := unit(t, "int a[1000]={"+values+"7};int main(){char a[1001]={"+values+"7};}"); len(u.Data[0]) != 4000 || u.Data[0][3996] != 7 || len(u.Codes[0].Body) != 1002 {
		t.Errorf("%d bytes, %d acts", len(u.Data[0]), len(u.Codes[0].Body))
	}
	fails(t, "int a[999]={"+values+"$7};int main(){}", api.ErrLong)
	if u := unit(t, "int main(){char a[32768]={1};}"); len(u.Codes[0].Body) != 32769 {
		t.Errorf("%d acts", len(u.Codes[0].Body))
	}
}

// Promise 10.1: how many types there are at most: 397 beside the first three.
func TestMaxTypes(t *testing.T) {
	const most = 397
	stars := func(n int) string { return strings.Repeat("*", n) }
	unit(t, "int"+stars(most)+" a;int main(){}")
	fails(t, "$int"+stars(most+1)+" a;int main(){}", api.ErrFull)
	fails(t, "$int"+stars(60000)+" a;int main(){}", api.ErrFull)
	fails(t, "int main(){$int"+stars(most+1)+" a;}", api.ErrFull)
	fails(t, "int main(){$sizeof(int"+stars(most+1)+");}", api.ErrFull)
	fails(t, "struct s{$int"+stars(most)+" a;};int main(){}", api.ErrFull)
	fails(t, "int f($int"+stars(most+1)+" a){}int main(){}", api.ErrFull)
	fails(t, "$int"+stars(most+1)+" f(){}int main(){}", api.ErrFull)
	fails(t, "int"+stars(most)+" a; $char*b;int main(){}", api.ErrFull)
	fails(t, "int"+stars(most)+" a; $int b[2];int main(){}", api.ErrFull)
	structs := many(most, func(k string) string { return "struct s" + k + "{int a;};" })
	unit(t, structs+"int main(){}")
	fails(t, structs+"$struct t{int a;};int main(){}", api.ErrFull)
	fails(t, structs+"$struct s0{int a;};int main(){}", api.ErrTwice)
	fails(t, structs+"$int*a;int main(){}", api.ErrFull)
	// a pointer type is added for &, and for an array that is used as a value
	unit(t, "int"+stars(most)+" a;int b;int main(){&b;*&b=1;}")
	fails(t, "int"+stars(most)+" a;int main(){$&a;}", api.ErrFull)
	for s, want := range map[string]api.Errno{"$a;": api.OK, "$a[0];": api.ErrFull, "*$a;": api.ErrFull, "1+$a;": api.ErrFull, "$a==0;": api.ErrFull, "if($a);": api.ErrFull, "&$a;": api.ErrType} {
		s = "char" + stars(most-1) + " x;int a[2];int main(){" + s + "}"
		if want == api.OK {
			unit(t, strings.ReplaceAll(s, "$", ""))
			continue
		}
		fails(t, s, want)
	}
	// the same type again is no new one
	unit(t, "int"+stars(most-2)+" x;int a[2];int b[2];char c;int main(){a[1]=b[1];sizeof(char*);&c;}")
}

// Promise 10.1: programs as long, and expressions nested as deep, as a text has them.
func TestLargePrograms(t *testing.T) {
	u := unit(t, "int x;int main(){return x"+strings.Repeat("+x", 32000)+";}")
	deep := 0
	for x := u.Codes[0].Body[0].A[0]; x.Kind == api.TmBinary; x = x.Kids[0] {
		deep++
	}
	if deep != 32000 {
		t.Errorf("%d terms nested", deep)
	}
	fails(t, "int main(){return $x"+strings.Repeat("+y", 32000)+";}", api.ErrNone)
	fails(t, "int x;int main(){return x"+strings.Repeat("+x", 32000)+"+$y;}", api.ErrNone)
	unit(t, "int x=1"+strings.Repeat("+1", 32000)+";int main(){}")
	fails(t, "int x=1"+strings.Repeat("+1", 32000)+"$+1/0;int main(){}", api.ErrZero)
	unit(t, "int main(){"+strings.Repeat("{", 197)+"1;"+strings.Repeat("}", 197)+"}")
	unit(t, "struct s{struct s*n;};int main(){struct s*p;p"+strings.Repeat("->n", 20000)+";}")
	unit(t, "int main(){int*p;p"+strings.Repeat("+1", 30000)+";}")
	unit(t, "int main(){"+strings.Repeat("1;", 30000)+"}")
	unit(t, "int main(){switch(1){"+many(5000, func(k string) string { return "case " + k + ":" })+"}}")
}
